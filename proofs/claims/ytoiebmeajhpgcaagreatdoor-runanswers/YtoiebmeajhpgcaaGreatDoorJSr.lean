import Derived.Test.YtoiebmeajhpgcaaGreatDoorJIr
import Derived.Test.YtoiebmeajhpgcaaGreatDoorJSf
import Derived.RegionTactic
import Derived.ChangeAlike
import Derived.BigRegion
set_option maxRecDepth 100000
set_option maxHeartbeats 16000000
set_option linter.all false
namespace Go.Proofs.YtoiebmeajhpgcaaGreatDoor
variable {P:Program}{w:World}{ops:Array Oper}{rest:List Oper}{o:Oper}{a:Act}{Q:Exit->Act->World->Prop}{L:LI}{l:List (I2)}{k B g f:Nat}{K:Act->World->Prop}{n size m:Int}{tk:Nat->Bool}
open Tryz
section
open Go.RowKit
theorem lq a cap L h w(aH:Bs w a cap L)(hq:ef L.length=true) :
  zC 59 #[.slice a L.length cap,zi h] w (zr (zi (aX L h)) fun w'=>zB w w'):=by
 have HH:=ae (iH h w);have hl:=cm.1 hq;unfold aX;rw[zn zab];cases hn:eC h with
 | false =>
  rw[hn]at HH;rw[zy rfl];have fC:=aH.2.2.1;generalize L.length=N at*;go_enter func59,ntmps59
  go_wp2_with fail
  refine HH.m ?_;intro w1 hw;subst hw;exact zbL
 | true =>
  rw[hn]at HH;rw[zn Sk];have hh:=aN.1 hn;have HE:=ae (mL a cap L h w aH Sg hh.1 hh.2);unfold kV at HE;have fC:=aH.2.2.1;generalize ao L h=E at*;obtain⟨e1,e2,e3,e4⟩:=E;dsimp only at HE;generalize aw L h=t,L.length=N at*;by_cases ht:t=0
  ·subst ht;rw[zy rfl];exact EO
  ·rw[zn ht];rw[qBZ.2 ht]at HE;exact EO
def zF(L:LI)(h x n:Int):Int:=if mo L h x n=0 then (ao L h).2.1+x else 0
theorem Ir a cap L h x n w(aH:Bs w a cap L)(hf:aD L)(hx:x<=9223372036854775807)(hn:n<=9223372036854775807) :
  zC 26 #[.slice a L.length cap,zi h,zi x,zi n] w (zr (.tuple #[zi (zF L h x n),zi (mo L h x n)]) fun w'=>zB w w'):=by
 have HH:=ae (lq a cap L h w aH hf.gR);have fC:=aH.2.2.1;have hl:=hf.len;by_cases hc:aX L h=0
 ·obtain⟨q1,q2,q3⟩:=aV.1 hc;have q4:=aN.1 q2;have gj:=hf.nE q4.1 q4.2 q3;have HE:=ae (fun W hW=>mL a cap L h W (aH.below hW) hl.1 q4.1 q4.2);have e1:mo L h x n=if x<0\/n<0\/(ao L h).2.2.1<x+n then 3 else 0:=by unfold mo;rw[zn (fun h=>h hc)]
  have e2:zF L h x n=if x<0\/n<0\/(ao L h).2.2.1<x+n then 0 else (ao L h).2.1+x:=by unfold zF;rw[e1];split <;> simp_all
  rw[e1,e2];rw[hc]at HH;rw[qBZ.2 q3]at HE;unfold kV at HE;generalize ao L h=E at*;obtain⟨y1,y2,y3,y4⟩:=E;dsimp only at HE gj ⊢;generalize L.length=N at*;obtain⟨n1,n2,n3,n4,_,_⟩:=gj;by_cases c1:x<0
  ·rw[zy (.inl c1),zy (.inl c1)];exact fy
  by_cases c2:n<0
  ·rw[zy (.inr (.inl c2)),zy (.inr (.inl c2))];exact fy
  by_cases c3:y3<x
  ·have c5:y3<x+n:=by omega
   rw[zy (.inr (.inr c5)),zy (.inr (.inr c5))];exact fy
  by_cases c4:y3-x<n
  ·rw[zy (.inr (.inr Sg)),zy (.inr (.inr Sg))];exact fy
  ·rw[zn Sg,zn Sg];exact fy
 ·have e1:mo L h x n=aX L h:=by unfold mo;rw[zy hc]
  have e2:zF L h x n=0:=by unfold zF;rw[e1,zn hc]
  rw[e1,e2];have hcb:=qAU.2 hc;generalize aX L h=X,L.length=N at*;go_enter func26,ntmps26
  go_wp2_with fail
  refine HH.m ?_;exact zmR
theorem zgs{h}(h1:1<=h):((bT h:Nat):Int)=5*(h-1):=XM
theorem Is a cap L h w(aH:Bs w a cap L)(hf:aD L) :
  zC 23 #[.slice a L.length cap,zi h] w fun e w'=>∃a' c',e=.returned (.tuple #[.slice a' (if nD L h=0 then sZ L h else []).length c',zi (nD L h)])/\Bs w' a' c' (if nD L h=0 then sZ L h else [])/\zB w w'/\Fr w.heap.size a':=by
 have HH:=ae (lq a cap L h w aH hf.gR);have fC:=aH.2.2.1;have hl:=hf.len;by_cases hc:aX L h=0
 ·obtain⟨q1,q2,q3⟩:=aV.1 hc;have q4:=aN.1 q2;have hp:=du q4.1 q4.2;have sh:=zgs q4.1;have HR:=ae (fun(W:World) (hW:zB w W)=>yv a cap L W (aH.below hW) hl.1 hl.2);have HW:=ae (fun(W:World) (hW:zB w W)=>wR a cap L (bT h) 5 W (aH.below hW) Sg hl.2 Sg);rw[sh]at HW;have xh:=iO L 8;have iE:=ae aH.1;have hD:cK L h=splice L (bT h) (af 5):=by unfold cK;rw[zy hc]
  have hDl:(cK L h).length=L.length:=by rw[hD,length_splice YS]
  rw[<-hD]at HW;rw[hc]at HH;have zlH:Hid ((aE L 8).any (fun r=>r.2 == h)=true->nD L h=7/\(if nD L h=0 then sZ L h else [])=[]):=ae (fun e=>by
   have e1:nD L h=7:=by unfold nD;rw[zn (fun h=>h hc),zy e]
   exact⟨e1,by rw[e1];rfl⟩)
  have Mi:Hid ((aE L 8).any (fun r=>r.2 == h)=false->nD L h=0/\(if nD L h=0 then sZ L h else [])=cK L h):=ae (fun e=>by have e1:nD L h=0:=qh.2 ⟨hc,e⟩;exact⟨e1,by rw[zy e1];unfold sZ;rw[zy e1]⟩);have HDL:=ae hDl;have Mm:=ae (AF aH.1 h);clear aH hf hc q1 q2 q3 hp sh hD hDl;obtain⟨h1,h2⟩:=q4;generalize (if nD L h=0 then sZ L h else [])=FB at*;generalize nD L h=FE at*;generalize cK L h=D at*;generalize aE L 8=R at*;generalize hN:L.length=N at*;have HN:=ae hN;clear hN;go_enter func23,ntmps23
  go_wp2_with fail
  refine HH.m ?_;intro w1 ay;have QR:=ae (HR w1 ay);have aQ:=ae ay;clear ay HH HR;go_wp2_with fail
  refine QR.mono ?_;rintro e w2 ⟨v2,rfl,fL,aK⟩;obtain⟨a2,c2,rfl,oy⟩:=fL.uM tw Sg;have QN:=ae oy;have dr:=zTs aQ aK;have CO:=ae (HW w2 dr);have bz:=ae dr;clear fL oy aK dr QR aQ HW;go_wp2_with fail
  go_loop [8] (fun iv=>∃k:Nat,k<=R.length/\iv=zi k/\(R.take k).any (fun r=>r.2 == h)=false) (fun iv=>R.length-(intOf iv).toNat)
  case atStart=>exact⟨0,qAH _,rfl,rfl⟩
  case round =>
   obtain⟨k,hk,rfl,bQ⟩:=hrel;by_cases aB:k<R.length
   ·have aG:R≠[]:=by intro e;rw[e]at aB;simp at aB
    obtain⟨b1,o1,rfl,eT⟩:=QN.2.2.2 aG;obtain⟨f,hf⟩:∃f,R[k]?=some f:=⟨R[k],zLg aB⟩;obtain⟨q0,q1⟩:=fF.root (cap:=0) eT hf;obtain⟨s,x⟩:=f;have uO:R.take (k+1)=R.take k++[(s,x)]:=by rw[qAv,hf];rfl
    have x8:=ae uO;have AP:=ae bQ;have zia:=ae (qAs hf);dsimp only at*;clear eT hf aG bQ uO;cases hx:(x == h)
    ·have eX:(R.take (k+1)).any (fun r=>r.2 == h)=false:=by rw[aa x8,qCR,aa AP];simp[hx]
     have QX:=ae eX;clear eX;go_wp2
     go_round
     case rel=>exact⟨k+1,Sg,Tc,QX⟩
     case measure=>exact Te
    ·have eX:R.any (fun r=>r.2 == h)=true:=qBH.2 ⟨_,zia,hx⟩;obtain⟨e1,e2⟩:=zlH eX;have AZ:=ae e1;have HE2:=ae e2;clear eX e1 e2 zlH Mi x8 AP zia;go_wp2;go_ret2;refine⟨none,0,by rw[aa HE2,aa AZ];rfl,?_,bz,Fr.nil _⟩;rw[aa HE2];exact eu _
   ·obtain rfl:k=R.length:=by omega
    rw[qAk]at bQ;obtain⟨e1,e2⟩:=Mi bQ;have AZ:=ae e1;have HE2:=ae e2;clear bQ e1 e2 zlH Mi QN;go_wp2_with fail
    refine CO.mono ?_;rintro e w3 ⟨g,c,rfl,ho,bD⟩;have dF:=zTr bz bD;have JX:=ae (qAF bz.size ho.base);have HO:=ae (ho.bs Mm (by rw[aa HDL];omega));clear ho bD CO bz;go_wp2;go_ret2;refine⟨some (zp g),c,by rw[aa HE2,aa AZ,aa HDL];rfl,?_,dF,Fr.at JX⟩;rw[aa HE2];exact HO
 ·have e1:nD L h=aX L h:=by unfold nD;rw[zy hc]
  rw[e1,zn hc];have hcb:(aX L h == 0)=false:=qAU.2 hc;clear aH hf e1;generalize aX L h=X at*;generalize L.length=N at*;go_enter func23,ntmps23
  go_wp2_with fail
  refine HH.m ?_;intro w1 ay;have aQ:=ae ay;clear ay HH;exact zmp
theorem j9(oA:o.guard=none) s x(t:TypeId)(ho:o.op=.call { callee:=.builtin .append,args:=#[s,x],argTypes:=#[t,t]})(i:TypeInfo)(ht:P.underlying t=some (.slice 5))(hi:P.info? 5=some i)(hz:i.zero=some (.int .u8 0))(h4:i.size=1)(h5:i.bytes=1) B v L(hs:a.eval s=v)(az:cW w B v L)(hB:B<=w.heap.size) sp n cap l(hx:a.eval x=.slice sp n cap)(hn:n=l.length)(hb:Bs w sp cap l)(hL:L.length+l.length<=140737488351232)(h:∀v' w',cW w' B v' (L++l)->Below B w w'->wpList P ops Q rest (a.put o.dst v') w') :
  wpList P ops Q (o::rest) a w:=by
 subst hn;have fin:=fun v' w' sX oH=>by refine h v' w' ?_ (zBr.grown oH hB (fun k hk=>az.block k hk));unfold cW;rw[zLa,qAc];exact sX
 by_cases h0:l=[]
 ·subst h0;cases sp with
  | none =>have hc:=hb.2.2.2.1 rfl;subst hc;refine wpList_append_own_none oA s x t ho B 5 i 1 ht hi v _ _ hs az hx ?_;exact h v w (by rw[qAh];exact az) zBr
  | some y =>exact qBU w oA s x t ho B 5 i (.int .u8 0) 1 1 ht hi hz h4 h5 rfl Si v _ _ hs az y 0 cap [] hx Sk (fun j u hj=>by simp at hj) (fun u hu=>by cases hu) (by unfold maxLen;simp at hL;omega) (by simp at hL;omega) hB (fun v' w' sX oH _=>fin v' w' sX oH)
 ·obtain⟨b,off,rfl,hc⟩:=hb.2.2.2.2 h0;exact qBU w oA s x t ho B 5 i (.int .u8 0) 1 1 ht hi hz h4 h5 rfl Si v _ _ hs az ⟨b,off,none⟩ l.length cap (l.map (Value.int .u8)) hx Sk (K3 hb) (ed l) Ts Sg hB (fun v' w' sX oH _=>fin v' w' sX oH)
theorem Kt{l:LI}:L.take k++(l++L.drop (k+l.length))=splice L k l:=rfl
theorem St a cap L h x ab cb l w(aH:Bs w a cap L)(fC:Bs w ab cb l)(hf:aD L)(hx:x<=9223372036854775807) :
  zC 25 #[.slice a L.length cap,zi h,zi x,.slice ab l.length cb] w fun e w'=>∃a' c',e=.returned (.tuple #[.slice a' (if mo L h x l.length=0 then uL L h x l else []).length c',zi (mo L h x l.length)])/\Bs w' a' c' (if mo L h x l.length=0 then uL L h x l else [])/\zB w w'/\Fr w.heap.size a':=by
 obtain⟨i0,hi,cO,cU,cV⟩:=qAO dw;have hll:=fC.2.2.1;have hLl:=aH.2.2.1;have HP:=ae (Ir a cap L h x l.length w aH hf hx Sg);have hl:=hf.len;by_cases h0:mo L h x l.length=0
 ·obtain⟨h1,h2,h3,h4⟩:=lV.1 h0;obtain⟨X,rfl⟩:=qAN h2;obtain⟨q1,q2,q3⟩:=aV.1 h1;have q4:=aN.1 q2;have gj:=hf.nE q4.1 q4.2 q3;have ept:zF L h X l.length=(((ao L h).2.1.toNat+X:Nat):Int):=by unfold zF;rw[zy h0];omega
  have eW:uL L h X l=splice L ((ao L h).2.1.toNat+X) l:=by unfold uL;rw[zy h0,zTn]
  have fc:(ao L h).2.1.toNat+X+l.length<=L.length:=Sg;rw[h0,ept]at HP;rw[h0,zy rfl,eW];generalize (ao L h).2.1.toNat+X=K at*;obtain⟨s1,fQ,ay⟩:=jK (P:=prog) (t:=29) underlying29 aT aH K Sg;obtain⟨s2,gN,aK⟩:=iy (P:=prog) (t:=29) underlying29 aT aH (K+l.length) Sg;rw[show((K+l.length:Nat):Int)=(K:Int)+(l.length:Int) by omega]at gN;have kF:(L.take K).length=K:=VW;have fR:(L.drop (K+l.length)).length=L.length-(K+l.length):=Sk;have Lk:=length_splice fc;have HSP:=ae (Kt (L:=L) (l:=l) (k:=K));have iE:=ae (dB (off:=K) aH.1 fC.1);have aQ:=ae ay;have bz:=ae aK;have pQ:=ae fC;have DH:=ae kF;have Q1:=ae fR;have HLS:=ae Lk;generalize hN:L.length=N at*;have HN:=ae hN;generalize L.take K=T1,L.drop (K+l.length)=T2,splice L K l=SP,cap-(K+l.length)=cap2 at*;generalize hD:N-(K+l.length)=D at*;have HD:=ae hD;generalize hM:l.length=M at*;have HM:=ae hM;go_enter func25,ntmps25
  go_wp2_with fail
  refine HP.m ?_;intro w1 ay;have qo:=ae ay;go_wp2_with (at_builtin;refine j9 rfl _ _ 29 rfl i0 underlying29 hi cO cU cV w1.heap.size (.slice none 0 0) [] rfl (cW.nil _ _) zNr s1 K cap T1 rfl DH.symm (aQ.below qo) (by rw[aa DH];simp;omega) ?_)
  intro v2 w2 nU aK;obtain⟨a2,c2,rfl⟩:=cW.shape (L:=T1) nU;have oj:=ae (by rw[aa DH]at nU;exact nU);have dr:=zTs qo aK;have zie:=ae (pQ.below dr);have zoW:=ae dr;have Fc:=aK.size;have Ac:=qo.size;rw[aa DH];go_wp2_with (at_builtin;refine j9 rfl _ _ 29 rfl i0 underlying29 hi cO cU cV w1.heap.size _ T1 rfl oj Fc ab M cb l rfl HM.symm zie (by rw[aa DH,aa HM];omega) ?_)
  intro v3 w3 xi bD;obtain⟨a3,c3,rfl⟩:=xi.shape;have l7:(T1++l).length=K+M:=by rw[zLa,aa DH,aa HM]
  rw[l7]at xi ⊢;have oE:=ae xi;have Gk:=ae l7;have mr:=zoW.trans (bD.mono Ac);have zo5:=ae (bz.below mr);have zoV:=ae mr;have zha:=qAF Fc bD.size;go_wp2_with (at_builtin;refine j9 rfl _ _ 29 rfl i0 underlying29 hi cO cU cV w1.heap.size _ (T1++l) rfl oE zha s2 D cap2 T2 rfl Q1.symm zo5 (by rw[aa Gk,aa Q1];have:=aa HD;omega) ?_)
  intro v4 w4 ho4 eU;rw[aa HSP]at ho4;obtain⟨a4,c4,rfl⟩:=ho4.shape;obtain⟨a4',c4',e4,jT⟩:=ho4.bs iE (by rw[aa HLS];omega);simp only[qAS,qBL]at e4;obtain⟨rfl,rfl⟩:=e4;have Gp:=ae jT;have JX:=ae ((Fr.zpO ho4).mono Ac);have zrk:=ae (zoV.trans (eU.mono Ac));rw[aa HLS];go_wp2;go_ret2;exact⟨a4,c4,by rw[aa HLS];rfl,Gp,zrk,JX⟩
 ·rw[zn h0];have e2:zF L h x l.length=0:=by unfold zF;rw[zn h0]
  rw[e2]at HP;have hcb:=qAU.2 h0;generalize mo L h x l.length=X,L.length=N,l.length=M at*;go_enter func25,ntmps25
  go_wp2_with fail
  refine HP.m ?_;intro w1 ay;have aQ:=ae ay;exact zmp
section
variable {α:Type} {enc:α->List Value} {k T:Nat}
theorem cX.zpU{B':Nat}{v}{l}(h:cX enc k T w B' v l)(hB:B<=B'):cX enc k T w B v l:=by exact AK
theorem CR{E:Prop}(oA:o.guard=none) s x(t:TypeId)(ho:o.op=.call { callee:=.builtin .append,args:=#[s,x],argTypes:=#[t,t]}) B(i0:TypeInfo) z bytes(ht:P.underlying t=some (.slice T))(hi:P.info? T=some i0)(hz:i0.zero=some z)(uh:i0.size=k)(iF:i0.bytes=bytes)(hzs:z.cells.size=k)(bW:0<k)(vQ:bytes<=100) v l(hs:a.eval s=v)(az:cX enc k T w B v l) g y(hx:a.eval x=.slice (zo g) 1 1)(hy:w.heap[g]?=some (.cells (enc y).toArray T (0,0)))(hk:(enc y).length=k)(h1:∀u∈enc y,u.oneCell'=true)(hn:l.length<=1000)(hB:B<=w.heap.size)(h:∀g' cap w',cX enc k T w' B (.slice (zo g') (l.length+1) cap) (l++[y])->Below B w w'->(∀j,j<w.heap.size->v.ownBlock≠some j->w'.heap[j]?=w.heap[j]?)->K (a.put o.dst (.slice (zo g') (l.length+1) cap)) w') :
  if Region.wanted o (yielded ops a.tmps)=true then Oper.wp P o a w K Q else E:=by
 refine step_append_lies w oA s x t ho B T i0 z k bytes ht hi hz uh iF hzs bW v l.length (l.flatMap enc) hs az (zp g) 1 1 (enc y) hx zdg (World.news_of_block hy) h1 Si Ts (qAF (qCg (show l.length+1<=1001 by omega) vQ) Si) hB w.heap.size rfl ?_;intro g' cap w' sX oH _ _;refine h g' cap w' ?_ (zBr.grown oH hB (fun k hk=>az.block k hk)) (fun j hj aG=>oH.block j hj (fun e=>aG e.symm));exact zjb
end
end
section
open Go.RowKit
open Go.Sort
open Go.Shelf
theorem qD(oA:o.guard=none) s x(ho:o.op=.call { callee:=.builtin .append,args:=#[s,x],argTypes:=#[94,94]}) B v xs(hs:a.eval s=v)(az:oe w B v xs) sp cap l(hx:a.eval x=.slice sp l.length cap)(hl:xB w sp cap l)(hn:xs.length+l.length<=1000000)(hB:B<=w.heap.size)(h:∀v' w',oe w' B v' (xs++l)->Below B w w'->(∀k,v.ownBlock≠some k->k<w.heap.size->w'.heap[k]?=w.heap[k]?)->wpList prog ops Q rest (a.put o.dst v') w') :
  wpList prog ops Q (o::rest) a w:=by
 obtain⟨i0,hi,cO,cU,cV⟩:=qAO z6;obtain⟨h1,⟨h2,my⟩,h3,h4⟩:=hl;have fin:=fun v' w' sX oH=>by refine h v' w' ?_ (zBr.grown oH hB (fun k hk=>(az.block k hk).1)) (fun k hk aB=>oH.block k aB (fun e=>hk e.symm));unfold oe;rw[zLa,qBY];exact sX
 by_cases h0:l=[]
 ·subst h0;cases sp with
  | none =>have hc:=my rfl;subst hc;refine wpList_append_own_none oA s x 94 ho B 122 i0 2 underlying94 hi v _ _ hs az hx ?_;refine h v w (by rw[qAh];exact az) zBr (fun k _ _=>rfl)
  | some y =>refine qBU w oA s x 94 ho B 122 i0 (.agg #[zi 0,zi 0]) 2 16 underlying94 hi cO cU cV rfl Si v _ _ hs az y 0 cap [] hx rfl (fun j u hj=>by simp at hj) (fun u hu=>by cases hu) Ts Sg hB (fun v' w' sX oH _=>fin v' w' sX oH)
 ·obtain⟨b,off,rfl,hc⟩:=h4 h0;refine qBU w oA s x 94 ho B 122 i0 (.agg #[zi 0,zi 0]) 2 16 underlying94 hi cO cU cV rfl Si v _ _ hs az ⟨b,off,none⟩ l.length cap (l.flatMap lG) hx (gM l) (fun j u hj=>?_) (Ap l) Ts Sg hB (fun v' w' sX oH _=>fin v' w' sX oH);have o7:j<l.length*2:=by rw[<-gM];exact(zLs hj).1
  obtain⟨c0,c1⟩:=hc (j / 2) Sg;obtain⟨q0,q1⟩:=we l (j / 2) Sg;rw[addr_add];exact DJ
theorem Ww{e}(h:GF w g e)(he:uc e):xB w (zo g) 1 [e] :=
 ⟨fun x hx=>by rw[zMs hx];exact he,⟨zNr,fun e=>TB⟩,Sk,fun _=>⟨g,0,rfl,fun i hi=>by
  have:i=0:=by simp at hi;omega
  subst this;exact⟨h.c0,h.c1⟩⟩⟩
theorem vW{s:List (I2)}(hc:nY n l=0)(hs:Ge l s):aO n l=dh n s:=by unfold aO;rw[zy hc];have hg:=(eZ.1 hc).2.2.2;rw[tq (hg.ix.1.trans hs.1.symm) hg.ix.2 hs.2]
theorem Ba(hc:nY n l=0){O U F M R}(h:stT n l=(O,U,F,M,R)):O=l.length/\U=aR l/\U+F=n/\0<=U/\0<=F/\0<=M/\M<=F/\M=cM 0 (aO n l)/\R=(aO n l).length:=by unfold stT at h;rw[zy hc]at h;simp only[qBs]at h;obtain⟨rfl,rfl,rfl,rfl,rfl⟩:=h;obtain⟨h0,h1,h2,hg⟩:=eZ.1 hc;have Pm:=hg.ix.sum hg h0;rw[<-vW hc hg.ix]at Pm;have tL:=ez hc;have mi:=mO (h:=aO n l) (fun r hr=>(tL.1 r hr).2.1);have zhj:=mO (h:=l) (fun r hr=>(hg.all r hr).2.1);have hm:=qR.2 ⟨mi.1,mi.2⟩;have ry:=(qR (h:=aO n l) (m:=0) (M:=cM 0 (aO n l))).1 (qBA _);exact⟨rfl,rfl,Pm,zhj.1,mi.1,ry.1,hm,rfl,rfl⟩
end
def C6(o:List (Int×Int))(i:Nat):List (Int×Int):=match o.getLast? with
 | none=>[((i:Int),1)]
 | some x=>if x.1+x.2=i then o.dropLast++[(x.1,x.2+1)]else o++[((i:Int),1)]
def dI(tk:Nat->Bool):Nat->List (Int×Int)
 | 0=>[]
 | i+1=>if tk i=true then dI tk i else C6 (dI tk i) i
def Xc(o:List (Int×Int))(f:Nat):Prop:=∀x,o.getLast?=some x->x.1+x.2<f
theorem yF{o}(h:dI tk f=o)(hf:Xc o f):∀k,(∀i,f<=i->i<f+k->tk i=false)->dI tk (f+k)=if k=0 then o else o++[((f:Int),(k:Int))]
 | 0,_=>h
 | k+1,ht=>by
  have ih:=yF h hf k (fun i h1 h2=>ht i h1 Sg);rw[if_neg Sg]
  show(if tk (f+k)=true then dI tk (f+k)else C6 (dI tk (f+k)) (f+k))=_
  rw[if_neg (by rw[ht (f+k) Sg Sg];simp),ih];by_cases hk:k=0
  ·subst hk;rw[if_pos rfl];unfold C6;cases hl:o.getLast? with
   | none=>rw[List.getLast?_eq_none_iff.1 hl];simp
   | some x =>have:=hf x hl;dsimp only;rw[if_neg Sg];simp
  ·rw[if_neg hk];unfold C6;rw[List.getLast?_concat];dsimp only;rw[if_pos Sg,List.dropLast_concat]
   congr 2
theorem Cr:∀k,(∀i,f<=i->i<f+k->tk i=true)->dI tk (f+k)=dI tk f
 | 0,_=>rfl
 | k+1,ht=>by
  show(if tk (f+k)=true then dI tk (f+k)else C6 (dI tk (f+k)) (f+k))=_
  rw[if_pos (ht (f+k) Sg Sg)];exact Cr k (fun i h1 h2=>ht i h1 Sg)
theorem Cs:∀ (s:List (Int×Int)) (f:Nat) (o:List (Int×Int)),fG f s->(∀e∈s,1<=e.2)->(∀i:Nat,(f:Int)<=i->(i:Int)<dj f s->(tk i=true ↔ ∃e∈s,e.1<=i/\(i:Int)<e.1+e.2))->dI tk f=o->Xc o f ->dI tk (dj f s).toNat=o++runsOf f s/\Xc (o++runsOf f s) (dj f s).toNat
 | [],f,o,_,_,_,h,hf=>by simp only[dj,runsOf,List.append_nil,Int.toNat_natCast];exact⟨h,hf⟩
 | e::r,f,o,hc,h1,ht,h,hf=>by
  obtain⟨c1,c2,c3⟩:=hc;have he:=h1 e Sk;have hle:=c3.P9;obtain⟨k,hk⟩:∃k:Nat,e.1=f+k:=⟨(e.1-f).toNat,Sg⟩;obtain⟨m,hm⟩:∃m:Nat,e.2=m:=⟨e.2.toNat,Sg⟩;have a1:=yF h hf k (fun i i1 i2=>by
   cases hh:tk i with
   | false=>rfl
   | true =>
    obtain⟨x,hx,x1,x2⟩:=(ht i Sg (by show(i:Int)<dj (e.1+e.2) r;omega)).1 hh;rcases List.mem_cons.1 hx with rfl|hx
    ·omega
    ·have:=c3.mem x hx;omega)
  have a2:=Cr (tk:=tk) (f:=f+k) m (fun i i1 i2=>(ht i Sg (by show(i:Int)<dj (e.1+e.2) r;omega)).2 ⟨e,Sk,Sg,Sg⟩);have ho:(if k=0 then o else o++[((f:Int),(k:Int))])=o++(if (f:Int)<e.1 then [((f:Int),e.1-f)]else []):=by
   by_cases Wi:k=0
   ·rw[if_pos Wi,if_neg Sg,List.append_nil]
   ·rw[if_neg Wi,if_pos Sg,show e.1-(f:Int)=k by omega]
  have hF:Xc (o++(if (f:Int)<e.1 then [((f:Int),e.1-f)]else [])) (f+k+m):=by
   intro x hx;by_cases Wi:(f:Int)<e.1
   ·rw[if_pos Wi,List.getLast?_concat]at hx;obtain rfl:=Option.some.inj hx;exact Tu
   ·rw[if_neg Wi,List.append_nil]at hx;have:=hf x hx;omega
  have en:e.1+e.2=((f+k+m:Nat):Int):=Sg;simp only[dj,runsOf];rw[en,<-List.append_assoc];rw[en]at c3 hle;refine Cs r (f+k+m) _ c3 (fun x hx=>h1 x UD) (fun i i1 i2=>?_) ?_ hF
  ·rw[ht i Sg (by show(i:Int)<dj (e.1+e.2) r;rw[en];exact i2)];constructor
   ·rintro ⟨x,hx,x1,x2⟩;rcases List.mem_cons.1 hx with rfl|hx
    ·omega
    ·exact⟨x,hx,x1,x2⟩
   ·rintro ⟨x,hx,x1,x2⟩;exact⟨x,UD,x1,x2⟩
  ·rw[a2,a1,ho]
theorem Ge.znA{n:Nat}{l s}(hs:Ge l s)(hg:Good n l)(ht:∀i:Nat,i<n->(tk i=true ↔ ∃e∈l,e.1<=i/\(i:Int)<e.1+e.2)):dI tk n=dh n s:=by
 obtain⟨hc,he,hle⟩:=hs.chain hg Sg;obtain⟨eT,lI⟩:=ph.1 hc;have Jm:=hg.perm hs.1;have h0:=eT.P9;obtain⟨f,hf⟩:∃f:Nat,dj 0 s=f:=⟨(dj 0 s).toNat,Sg⟩;obtain⟨k,hk⟩:∃k:Nat,n=f+k:=⟨n-f,Sg⟩;have a1:=Cs (tk:=tk) s 0 [] eT (fun e hh=>(Jm.all e hh).2.1) (fun i i1 i2=>by
  have i3:(i:Int)<dj 0 s:=i2;rw[ht i Sg];constructor
  ·rintro ⟨e,hh,x⟩;exact⟨e,hs.1.mem_iff.2 hh,x⟩
  ·rintro ⟨e,hh,x⟩;exact⟨e,hs.1.mem_iff.1 hh,x⟩) rfl (fun x hx=>TG)
 have e0:dj ((0:Nat):Int) s=f:=hf;rw[e0,Int.toNat_natCast,List.nil_append]at a1;have a2:=yF a1.1 a1.2 k (fun i i1 i2=>by
  cases hh:tk i with
  | false=>rfl
  | true =>obtain⟨x,hx,x1,x2⟩:=(ht i Sg).1 hh;have:=eT.mem x (hs.1.mem_iff.2 hx);omega)
 unfold dh;rw[gP,hf,hk,a2]
 show _=runsOf 0 s++((if (f:Int)<((f+k:Nat):Int)then _ else _)++[])
 rw[List.append_nil];by_cases Wi:k=0
 ·rw[if_pos Wi,if_neg Sg,List.append_nil];rfl
 ·rw[if_neg Wi,if_pos Sg];have:((f+k:Nat):Int)-(f:Int)=k:=by omega
  rw[this];rfl
def uF(size:Int)(a r:(Int×Int)):(Int×Int):=if size<=r.2/\(a.1<0\/r.2<a.2)then r else a
theorem JI:∀ (h:List (Int×Int)) (a b:(Int×Int)),(∀r∈h,0<=r.1/\1<=r.2)->((b.2=0/\a.1<0)\/(a=b/\0<=b.1/\1<=b.2)) ->(((h.foldl (gq size) b).2=0/\(h.foldl (uF size) a).1<0)\/(h.foldl (uF size) a=h.foldl (gq size) b/\0<=(h.foldl (gq size) b).1/\1<=(h.foldl (gq size) b).2))
 | [],a,b,_,hab=>hab
 | x::h,a,b,hr,hab=>by
  have hx:=hr x Sk;rw[List.foldl_cons,List.foldl_cons];refine JI h _ _ (fun r hh=>hr r (by simp[hh])) ?_;unfold gq uF;rcases hab with ⟨h1,h2⟩ | ⟨h1,h2,h3⟩
  ·by_cases hz:size<=x.2
   ·rw[if_pos ⟨hz,.inl h1⟩,if_pos ⟨hz,.inl h2⟩];exact .inr ⟨rfl,hx⟩
   ·rw[if_neg (fun h=>hz h.1),if_neg (fun h=>hz h.1)];exact .inl ⟨h1,h2⟩
  ·subst h1;by_cases hz:size<=x.2/\x.2<a.2
   ·rw[if_pos ⟨hz.1,.inr hz.2⟩,if_pos ⟨hz.1,.inr hz.2⟩];exact .inr ⟨rfl,hx⟩
   ·rw[if_neg (fun h=>hz ⟨h.1,h.2.elim (fun h=>Sg) id⟩),if_neg (fun h=>hz ⟨h.1,h.2.elim (fun h=>Sg) id⟩)];exact .inr ⟨rfl,h2,h3⟩
theorem Z3{h}(hr:∀r∈h,0<=r.1/\1<=r.2):((fN size h).2=0/\(h.foldl (uF size) (-1,0)).1<0)\/(h.foldl (uF size) (-1,0)=fN size h/\0<=(fN size h).1/\1<=(fN size h).2) :=JI h (-1,0) (0,0) hr (.inl ⟨rfl,Si⟩)
section
open Go.RowKit
open Go.Sort
open Go.Shelf
theorem RQ:zeroCells202=Array.replicate 6401 (.bool false):=SQ
def JV(w:World)(g:Nat)(tk:Nat->Bool):Prop:=∃cs:Array Value,w.heap[g]?=some (.cells cs 202 (0,0))/\∀i,i<6401->cs[i]?=some (.bool (tk i))
section
variable {w w':World} {g:Nat} {tk tk':Nat->Bool}
theorem JV.lt(h:JV w g tk):g<w.heap.size:=by obtain⟨cs,h1,_⟩:=h;exact(zAg h1).1
theorem JV.cell(h:JV w g tk){i}(hi:i<6401):w.cell? (zw g i)=some (.bool (tk i)):=by obtain⟨cs,h1,h2⟩:=h;rw[qAD _ _ _ _ _ _ h1];exact h2 i hi
theorem JV.fr(h:JV w g tk) i:w.frozen? (zw g i)=false:=by obtain⟨cs,h1,_⟩:=h;exact qAd w g i _ _ h1
theorem JV.congr(h:JV w g tk)(he:∀i,i<6401->tk i=tk' i):JV w g tk':=by obtain⟨cs,h1,h2⟩:=h;exact⟨cs,h1,fun i hi=>by rw[h2 i hi,he i hi]⟩
theorem JV.set(h:JV w g tk) i:JV (w.setCell (zw g i) (.bool true)) g (fun j=>tk j || decide (j=i)):=by
 obtain⟨cs,h1,h2⟩:=h;refine⟨_,qAI w g i _ _ (.bool true) h1,fun j hj=>?_⟩;have bW:=(zAg (h2 j hj)).1;by_cases e:i=j
 ·subst e;simp[bW]
 ·rw[Array.getElem?_setIfInBounds_ne e,h2 j hj];have:decide (j=i)=false:=qAG (fun h=>e h.symm)
  show _=some (Value.bool (tk j || decide (j=i)))
  rw[this,qCM]
end
theorem JV.new(w:World):JV (w.alloc (.cells zeroCells202 202)) w.heap.size (fun _=>false) :=⟨_,qAB w _,fun i hi=>by rw[RQ];simp[hi]⟩
def Ie(l:List (I2))(j:Nat):Bool:=l.any (fun e=>decide (e.1<=(j:Int))&&decide ((j:Int)<e.1+e.2))
theorem zfI{j}:Ie l j=true ↔ ∃e∈l,e.1<=(j:Int)/\(j:Int)<e.1+e.2:=by unfold Ie;rw[qBH];simp only[qAa,qDF]
theorem za5(hk:k<l.length) j:Ie (l.take (k+1)) j=(Ie (l.take k) j || (decide ((l.getD k (0,0)).1<=(j:Int))&&decide ((j:Int)<(l.getD k (0,0)).1+(l.getD k (0,0)).2))):=by have e:l.getD k (0,0)=l[k]:=UR;unfold Ie;rw[qAx hk,qCR,e];simp
theorem zfF t(x m j:Nat):((t || (decide ((x:Int)<=(j:Int))&&decide ((j:Int)<(x:Int)+(m:Int)))) || decide (j=x+m))=(t || (decide ((x:Int)<=(j:Int))&&decide ((j:Int)<(x:Int)+((m+1:Nat):Int)))):=by
 by_cases h1:(x:Int)<=j
 ·by_cases h2:(j:Int)<x+m
  ·rw[qAE h1,qAE h2,qAE (show(j:Int)<x+((m+1:Nat):Int) by omega)];simp
  ·by_cases h3:j=x+m
   ·rw[qAE h1,qAG h2,qAE h3,qAE (show(j:Int)<x+((m+1:Nat):Int) by omega)];simp
   ·rw[qAE h1,qAG h2,qAG h3,qAG (show ¬(j:Int)<x+((m+1:Nat):Int) by omega)];simp
 ·rw[qAG h1,qAG (show ¬j=x+m by omega)];simp
theorem Pp{tk:Nat->Bool}:∀i,(∀x∈dI tk i,0<=x.1/\1<=x.2/\x.1+x.2<=(i:Int))/\(dI tk i).length<=i
 | 0=>⟨fun x hx=>(by cases hx),zNr⟩
 | i+1=>by
  obtain⟨h1,h2⟩:=Pp (tk:=tk) i
  show(∀x∈(if tk i=true then dI tk i else C6 (dI tk i) i),_)/\(if tk i=true then dI tk i else C6 (dI tk i) i).length<=i+1
  by_cases ht:tk i=true
  ·rw[zy ht];exact⟨fun x hx=>by have:=h1 x hx;omega,by omega⟩
  ·rw[zn ht];unfold C6;cases hl:(dI tk i).getLast? with
   | none =>refine⟨fun x hx=>?_,by simp⟩;rw[zMs hx];dsimp only;omega
   | some y =>
    have hy:=h1 y (List.mem_of_getLast? hl);dsimp only;by_cases he:y.1+y.2=i
    ·rw[zy he];refine⟨fun x hx=>?_,by simp;omega⟩;rcases zMa hx with hx | hx
     ·have:=h1 x ((List.dropLast_sublist _).subset hx);omega
     ·rw[zMs hx];dsimp only;omega
    ·rw[zn he];refine⟨fun x hx=>?_,by simp;omega⟩;rcases zMa hx with hx | hx
     ·have:=h1 x hx;omega
     ·rw[zMs hx];dsimp only;omega
theorem zd8 i:C6 [] i=[((i:Int),1)]:=rfl
theorem Z8 o x i:C6 (o++[x]) i=if x.1+x.2=(i:Int)then o++[(x.1,x.2+1)]else (o++[x])++[((i:Int),1)]:=by unfold C6;rw[List.getLast?_concat];dsimp only;rw[qCJ]
theorem oe.setLast{cap:Nat}{o}{x}(h:oe w B (.slice (zo g) (o++[x]).length cap) (o++[x])) z :
  oe (w.setCell ⟨g,o.length*2+1,none⟩ (zi z)) B (.slice (zo g) (o++[x]).length cap) (o++[(x.1,z)]):=by
 have h1:=(World.ownsRow.stored h (o.length*2+1) (zi z)).1;unfold oe;have e1:(o++[(x.1,z)]).length=(o++[x]).length:=Sk;rw[e1];have e2:((o++[x]).flatMap lG).set (o.length*2+1) (zi z)=(o++[(x.1,z)]).flatMap lG:=by rw[qBY,qBY];rw[List.set_append_right _ _ (by rw[gM];omega),gM];rw[show o.length*2+1-o.length*2=1 by omega];rfl
 rw[e2]at h1;exact h1
theorem zdr(n:Nat)(a:OA)(cap:Nat)(l:List (I2))(w:World)(hl:xB w a cap l)(hc:nY n l=0) :
  zC 70 #[zi n,.slice a l.length cap] w fun e w'=>∃v,e=.returned v/\oe w' w.heap.size v (aO n l)/\zB w w':=by
 obtain⟨i0,dU,cO,cU,cV⟩:=qAO z6;obtain⟨h0,h1,h2,hg⟩:=eZ.1 hc;have ziI:∀tk:Nat->Bool,(∀i:Nat,i<n->(tk i=true ↔ ∃e∈l,e.1<=i/\(i:Int)<e.1+e.2))->dI tk n=aO n l:=fun tk ht=>by rw[vW hc hg.ix];exact hg.ix.znA hg ht
 have kA:=ziI (Ie l) (fun i hi=>zfI);have JX:=ae kA;have HL:=ae hl;have HG:=ae hg;clear hl hc hg ziI kA;go_enter func70,ntmps70
 go_wp2_with fail
 go_loopw [6] (fun iv wr=>∃k:Nat,k<=l.length/\iv=zi k/\JV wr w.heap.size (Ie (l.take k))/\zB w wr) (fun iv _=>l.length-(intOf iv).toNat)
 case atStart=>exact⟨0,qAH _,rfl,JV.new w,zBr.alloc zNr _⟩
 case round =>
  obtain⟨k,hk,rfl,uO,ai⟩:=hrel;by_cases aB:k<l.length
  ·have aG:l≠[]:=by intro e;rw[e]at aB;simp at aB
   obtain⟨b,off,rfl,bf⟩:=HL.2.2.2 aG;obtain⟨c00,c10⟩:=bf k aB;have xG:=qAA c00;dsimp only at xG;have fu:l.getD k (0,0)∈l:=by
    have:l.getD k (0,0)=l[k]:=by simp[List.getD,aB]
    rw[this];exact qAf aB
   obtain⟨g1,g2,g3⟩:=HG.all _ fu;have eF:=za5 aB;generalize l.getD k (0,0)=e at*;obtain⟨x0,y0⟩:=e;dsimp only at*;obtain⟨x,rfl⟩:∃x:Nat,x0=x:=⟨x0.toNat,by omega⟩;obtain⟨y,rfl⟩:∃y:Nat,y0=y:=⟨y0.toNat,by omega⟩;have fP:=ae eF;have HC0:=ae c00;have qt:=ae c10;have x8:=ae uO;have aJ:=ae ai;clear eF bf aG fu uO ai c00 c10;go_wp2_with fail
   go_loopw [7] (fun mv ws=>∃m:Nat,m<=y/\mv=zi m/\JV ws w.heap.size (fun j=>Ie (l.take k) j || (decide ((x:Int)<=(j:Int))&&decide ((j:Int)<(x:Int)+(m:Int))))/\zB w ws) (fun mv _=>y-(intOf mv).toNat)
   case atStart=>exact⟨0,qAH _,rfl,x8.congr (fun i hi=>by by_cases q:(x:Int)<=i <;> simp[q] <;> omega),aJ⟩
   case round =>
    obtain⟨m,hm,rfl,htm,Dx⟩:=hrel;have c0:=(Dx.cell (p:=⟨b,off+k*2,none⟩) xG).trans HC0;have c1:=(Dx.cell (p:=⟨b,off+k*2+1,none⟩) xG).trans qt;by_cases hmy:m<y
    ·have d0:=htm.cell (i:=x+m) (by omega);have f0:=htm.fr (x+m);have dL:=(htm.set (x+m)).congr (fun i hi=>zfF _ x m i);have xI:=ae dL;have HBM:=ae Dx;clear dL Dx htm;generalize (Ie (l.take k) (x+m) || (decide ((x:Int)<=((x+m:Nat):Int))&&decide (((x+m:Nat):Int)<(x:Int)+(m:Int))))=IQ at*;go_wp2;go_roundw
     case rel=>exact⟨m+1,by omega,by go_num,xI,HBM.setCell zNr _⟩
     case measure=>simp[intOf];omega
    ·obtain rfl:m=y:=by omega
     have kP:=htm.congr (tk':=Ie (l.take (k+1))) (fun i hi=>(fP i).symm);have AO:=ae kP;have HBM:=ae Dx;clear kP Dx htm;go_wp2;go_roundw
     case rel=>exact⟨k+1,by omega,by go_num,AO,HBM⟩
     case measure=>simp[intOf];omega
  ·obtain rfl:k=l.length:=by omega
   rw[qAk]at uO;have x8:=ae uO;have aJ:=ae ai;clear uO ai;have hgt:=x8.lt;generalize ku:wr=w3 at*;clear ku;go_wp2_with fail
   go_loopw [8,9] (fun ov0 iv ws=>∃ (i:Nat) (ov:Value),ov=ov0/\i<=n/\iv=zi i/\oe ws w3.heap.size ov (dI (Ie l) i)/\zB w3 ws) (fun _ iv _=>n-(intOf iv).toNat)
   case atStart=>exact⟨0,_,rfl,qAH _,rfl,oe.nil _ _,zBr⟩
   case round =>
    obtain⟨i,ov,hov,hi,rfl,az,hbi⟩:=hrel;subst hov;by_cases fu:i<n
    ·have ct:=(hbi.cell (p:=⟨w.heap.size,i,none⟩) hgt).trans (x8.cell (i:=i) (by omega));have fZ:dI (Ie l) (i+1)=if Ie l i=true then dI (Ie l) i else C6 (dI (Ie l) i) i:=rfl
     obtain⟨iT,fC⟩:=Pp (tk:=Ie l) i;cases uO:Ie l i with
     | true =>
      rw[uO]at ct fZ;have ri:Hid (dI (Ie l) (i+1)=dI (Ie l) i):=ae (by rw[fZ,zy rfl]);have HO:=ae az;have HBI:=ae hbi;clear az hbi fZ iT fC uO;go_wp2;go_roundw
      case rel=>exact⟨i+1,_,rfl,by omega,by go_num,by rw[aa ri];exact HO,HBI⟩
      case measure=>simp[intOf];omega
     | false =>
      rw[uO]at ct fZ;rw[zn (by simp)]at fZ;clear uO;have hws:=hbi.size;generalize dI (Ie l) i=o at*;rcases List.eq_nil_or_concat o with rfl|⟨o',x,rfl⟩
      ·rw[zd8]at fZ;have hov:∃a1 c1,ov=.slice a1 0 c1:=by
        rcases az.2 with ⟨rfl,_⟩|⟨g,cp,cur,rfl,_⟩
        ·exact⟨_,_,rfl⟩
        ·exact⟨_,_,rfl⟩
       obtain⟨a1,cc1,rfl⟩:=hov;have ri:=ae fZ;have HO:=ae az;have HBI:=ae hbi;clear az hbi fZ iT fC;go_wp2_with fail
       go_quiet (fail)
       have HOq:=ae (qBP (HO.below (below_draws zBr nq)) (.cells #[zi i,zi 1] 122));have HEq:=ae (Ww (GF.new (wr.drewN nq) i 1) (by unfold uc;dsimp only;omega));have HBq:=ae (below_draws HBI nq);go_wp2_with (at_builtin;refine qD rfl _ _ rfl w3.heap.size _ [] rfl HOq (some ⟨wr.heap.size,0,none⟩) 1 [((i:Int),1)] rfl HEq (by simp) (by simp;omega) ?_)
       intro v' w' sX pI _;have HO':Hid (oe w' w3.heap.size v' [((i:Int),1)]):=ae sX;have Ve:=ae ((HBq.alloc HBq.size _).trans pI);clear sX pI HO HOq HEq HBq HBI;go_wp2;go_roundw
       case rel=>exact⟨i+1,_,rfl,by omega,by go_num,by rw[aa ri];exact aa HO',aa Ve⟩
       case measure=>simp[intOf];omega
      ·rw[List.concat_eq_append]at*;rw[Z8]at fZ;have hx:=iT x (by simp);have Ji:(o'++[x]).length=o'.length+1:=by simp
       have PF:o'.length<=6400:=by rw[Ji]at fC;omega
       obtain⟨g,cp,rfl⟩:∃g cp,ov=.slice (some (zp g)) (o'++[x]).length cp:=by
        rcases az.2 with ⟨_,hh⟩|⟨g,cp,cur,rfl,_⟩
        ·rw[Ji]at hh;omega
        ·exact⟨_,_,rfl⟩
       obtain⟨a9,c9,e9,hx9⟩:=az.Z9 (fun e he=>by have:=iT e he;unfold uc;omega) (by omega);simp only[qAS,qBL]at e9;obtain⟨rfl,rfl⟩:=e9;obtain⟨b9,f9,e9,hc9⟩:=hx9.2.2.2 (by simp);simp only[qAQ,qBI,qBj]at e9;obtain⟨rfl,rfl⟩:=e9;obtain⟨q0,q1⟩:=hc9 o'.length (by rw[Ji];omega);have hgx:(o'++[x]).getD o'.length (0,0)=x:=by simp[List.getD]
       rw[hgx,qAl]at q0 q1;have oI:wr.frozen? ⟨g,o'.length*2+1,none⟩=false:=by
        rcases az.2 with ⟨e,_⟩|⟨g',cp',cur,e,_,Fm,_⟩
        ·cases e
        ·simp only[qAS,qAQ,qBI,qBj,qBL]at e;obtain⟨rfl,rfl⟩:=e;exact qAd wr g _ _ _ Fm
       have Px:w3.heap.size<=g:=(az.block g rfl).1;have HO:=ae az;have HBI:=ae hbi;have HLO:=ae Ji;clear fC;rw[Ji];rw[Ji]at HO;clear Ji;have hM:((o'.length+1:Nat):Int)-1=(o'.length:Int):=by omega
       obtain⟨x1,x2⟩:=x;dsimp only at*;clear az hbi iT hx9 hc9 hgx;by_cases he:x1+x2=(i:Int)
       ·rw[zy he]at fZ;have ri:=ae fZ;clear fZ;generalize hq:o'.length=M at*;have HQ:=ae hq;clear hq;go_wp2_with fail
        go_quiet (fail)
        have HBq:=ae (below_draws HBI nq);have HOq:Hid (oe (wr.drewN nq) w3.heap.size (.slice (some (zp g)) (o'++[(x1,x2)]).length cp) (o'++[(x1,x2)])):=ae (by rw[aa HLO];exact HO.below (below_draws zBr nq));have dL:=HOq.setLast (x2+1);rw[aa HLO,aa HQ]at dL;have xI:=ae dL;clear dL HO HOq HBI;go_wp2;go_roundw
        case rel=>exact⟨i+1,_,rfl,by omega,by go_num,by rw[aa ri];exact xI,HBq.setCell Px _⟩
        case measure=>simp[intOf];omega
       ·rw[zn he]at fZ;have ri:=ae fZ;have de:(x1+x2 == (i:Int))=false:=by simp[he]
        clear fZ;generalize hq:o'.length=M at*;have HQ:=ae hq;clear hq;go_wp2_with fail
        go_quiet (fail)
        have HOq:Hid (oe ((wr.drewN nq).alloc (.cells #[zi i,zi 1] 122)) w3.heap.size (.slice (some (zp g)) (M+1) cp) (o'++[(x1,x2)])):=ae (qBP (HO.below (below_draws zBr nq)) _);have HEq:=ae (Ww (GF.new (wr.drewN nq) i 1) (by unfold uc;dsimp only;omega));have HBq:=ae (below_draws HBI nq);go_wp2_with (at_builtin;refine qD rfl _ _ rfl w3.heap.size _ (o'++[(x1,x2)]) rfl HOq (some ⟨wr.heap.size,0,none⟩) 1 [((i:Int),1)] rfl HEq (by rw[aa HLO];simp;omega) (by simp;omega) ?_)
        intro v' w' sX pI _;have HO':=ae sX;have Ve:=ae ((HBq.alloc HBq.size _).trans pI);clear sX pI HO HOq HEq HBq HBI;go_wp2;go_roundw
        case rel=>exact⟨i+1,_,rfl,by omega,by go_num,by rw[aa ri,qBO];exact aa HO',aa Ve⟩
        case measure=>simp[intOf];omega
    ·obtain rfl:i=n:=by omega
     rw[aa JX]at az;have HO:=ae (az.base aJ.size);have Q4:=zTr aJ hbi;clear az hbi;go_wp2;go_ret;exact⟨_,rfl,HO,Q4⟩
theorem Je n a cap l w(hl:xB w a cap l)(hc:nY n l=0) :
  zC 70 #[zi n,.slice a l.length cap] w fun e w'=>∃v,e=.returned v/\oe w' w.heap.size v (aO n l)/\zB w w':=by
 obtain⟨N,rfl⟩:∃N:Nat,n=N:=⟨n.toNat,by have:=(eZ.1 hc).1;omega⟩;exact zdr N a cap l w hl hc
theorem Z2{h:List (I2)}(hk:k<h.length):(h.take (k+1)).foldl (uF size) (-1,0)=uF size ((h.take k).foldl (uF size) (-1,0)) (h.getD k (0,0)):=by have e:h.getD k (0,0)=h[k]:=UR;rw[qAx hk,qBb,e];rfl
theorem zbY n a cap l size w(hl:xB w a cap l)(hc:nY n l=0) :
  zC 56 #[zi n,.slice a l.length cap,zi size] w (zr (zi ((aO n l).foldl (uF size) (-1,0)).1) fun w'=>zB w w'):=by
 obtain⟨tL,hlen⟩:=ez hc;have h0:=(eZ.1 hc).2.1;have HC:=ae (Je n a cap l w hl hc);generalize aO n l=fr at*;generalize hR:(fr.foldl (uF size) (-1,0)).1=RR at*;have HR:=ae hR;clear hl hc hR;generalize l.length=N at*;go_enter func56,ntmps56
 go_wp2_with fail
 refine HC.mono ?_;rintro e w1 ⟨v,rfl,ho,ay⟩;obtain⟨ah,ch,rfl,hx⟩:=ho.Z9 (fun e he=>by have:=tL e he;unfold uc;omega) Sg;have HX:=ae hx;have aQ:=ae ay;clear hx ho ay tL HC;go_wp2_with fail
 go_loop [8,9,10] (fun av bv iv=>∃k:Nat,k<=fr.length/\iv=zi k/\av=zi ((fr.take k).foldl (uF size) (-1,0)).1/\bv=zi ((fr.take k).foldl (uF size) (-1,0)).2) (fun _ _ iv=>fr.length-(intOf iv).toNat)
 case atStart=>exact⟨0,qAH _,rfl,rfl,rfl⟩
 case round =>
  obtain⟨k,hk,rfl,rfl,rfl⟩:=hrel;by_cases aB:k<fr.length
  ·have aG:fr≠[]:=by intro e;rw[e]at aB;simp at aB
   obtain⟨b,off,rfl,bf⟩:=HX.2.2.2 aG;obtain⟨c0,c1⟩:=bf k aB;have eF:=Z2 (size:=size) aB;generalize fr.getD k (0,0)=r at*;generalize (fr.take k).foldl (uF size) (-1,0)=nf at*;obtain⟨x,y⟩:=r;obtain⟨b1,b2⟩:=nf;dsimp only at*;have fP:=ae eF;clear eF bf aG;by_cases q1:size<=y
   ·by_cases q2:b1<0
    ·have rJ:Hid ((fr.take (k+1)).foldl (uF size) (-1,0)=(x,y)):=ae zow;exact qE
    ·by_cases q3:y<b2
     ·have rJ:Hid ((fr.take (k+1)).foldl (uF size) (-1,0)=(x,y)):=ae zos;exact qE
     ·have rJ:Hid ((fr.take (k+1)).foldl (uF size) (-1,0)=(b1,b2)):=ae zmk;have d2:decide (b1<0)=false:=qAG q2;have d3:decide (y<b2)=false:=qAG q3;exact qE
   ·have rJ:Hid ((fr.take (k+1)).foldl (uF size) (-1,0)=(b1,b2)):=ae zmO;have d1:decide (size<=y)=false:=qAG q1;exact qE
  ·obtain rfl:k=fr.length:=by omega
   rw[qAk,aa HR];exact ziT
end
section
open Go.RowKit
theorem O6:(prog.info? 122).map (fun i=>(i.zero,i.size,i.bytes))=some (some (.agg #[zi 0,zi 0]),2,16):=SQ
theorem zhH e:∀u∈lG e,u.oneCell'=true:=zpT
theorem zbr{l:List (Int×I3)}{e}(h:l[k]?=some e):(l.map jL).take (k+1)=(l.map jL).take k++[(e.2.1-288,e.2.2.1)]:=zjj
theorem D3{E:Prop}(oA:o.guard=none) s x(ho:o.op=.call { callee:=.builtin .append,args:=#[s,x],argTypes:=#[94,94]}) B v l(hs:a.eval s=v)(az:cX lG 2 122 w B v l) g y(hx:a.eval x=.slice (zo g) 1 1)(hy:w.heap[g]?=some (.cells (lG y).toArray 122 (0,0)))(hn:l.length<=1000)(hB:B<=w.heap.size)(h:∀g' cap w',cX lG 2 122 w' B (.slice (zo g') (l.length+1) cap) (l++[y])->Below B w w'->(∀j,j<w.heap.size->v.ownBlock≠some j->w'.heap[j]?=w.heap[j]?)->K (a.put o.dst (.slice (zo g') (l.length+1) cap)) w') :
  if Region.wanted o (yielded ops a.tmps)=true then Oper.wp prog o a w K Q else E:=by
 obtain⟨i0,dU,cO,cU,cV⟩:=qAO O6;exact CR oA s x 94 ho B i0 (.agg #[zi 0,zi 0]) 16 underlying94 dU cO cU cV rfl Si Si v l hs az g y hx hy rfl (zhH _) hn hB h
theorem Ek a cap L w(aH:Bs w a cap L)(hf:aD L) :
  zC 41 #[.slice a L.length cap] w fun e w'=>∃v,e=.returned v/\cX lG 2 122 w' w.heap.size v (aA L)/\Below w.heap.size w w':=by
 obtain⟨i0,dU,cO,cU,cV⟩:=qAO O6;have HE:=ae (IJ a cap L w aH hf.len.1);have fC:=aH.2.2.1;have AY:=ae (Dz hf);have hel:=dt L 40;have HTL:Hid ((entsK L 40).map jL=aA L):=ae rfl;clear aH hf;generalize aA L=TL at*;generalize entsK L 40=l at*;generalize L.length=N at*;go_enter func41,ntmps41
 go_wp2_with fail
 refine HE.mono ?_;rintro e w1 ⟨v1,rfl,eV,ay⟩;obtain⟨a1,c1,rfl,jA⟩:=eV.uM pd Sg;have HS:=ae jA;have aQ:=ae ay;have ma:=jA.2.2.1;clear eV jA ay HE;go_wp2_with fail
 go_loopw [3,5] (fun v iv wr=>∃k:Nat,k<=l.length/\iv=.int .i64 k/\cX lG 2 122 wr w1.heap.size v ((l.map jL).take k)/\Below w1.heap.size w1 wr) (fun _ iv _=>l.length-(intOf iv).toNat)
 case atStart=>exact Yq
 case round =>
  obtain⟨k,hk,rfl,az,ai⟩:=hrel;obtain⟨va,vm,vc,rfl⟩:=az.shape;by_cases aB:k<l.length
  ·have aG:l≠[]:=by intro e;rw[e]at aB;simp at aB
   obtain⟨b1,o1,rfl,eT⟩:=(HS.below ai).2.2.2 aG;obtain⟨f,hf⟩:∃f,l[k]?=some f:=⟨l[k],zLg aB⟩;obtain⟨q0,q1,q2,q3⟩:=fF.nE (cap:=0) eT hf;have HT:=ae (zbr hf);have Rp:=AY f (qAs hf);have tM:((l.map jL).take k).length<=40:=Tb;obtain⟨x,y,z,t⟩:=f;dsimp only at*;have ku:IntKind.i64.wrap (y-288)=y-288:=by rw[qBn];omega
   have rE:=ae ku;clear ku;have bW:=ai.size;have iT:=bF (Below.refl wr.heap.size wr);have oE:=ae ((az.below iT).below ((Below.refl _ wr.drew).alloc zNr (.cells #[.int .i64 (IntKind.i64.wrap (y-288)),.int .i64 z] 122)));have kq:Hid ((wr.drew.alloc (.cells #[.int .i64 (IntKind.i64.wrap (y-288)),.int .i64 z] 122)).heap[wr.heap.size]?=some (.cells (lG (IntKind.i64.wrap (y-288),z)).toArray 122 (0,0))):=ae (qAB wr.drew _);have sO:=ae ai;have hblk:∀g,(Value.slice va vm vc).ownBlock=some g->w1.heap.size<=g:=az.block;have zrE:b1<w1.heap.size:=by obtain⟨b2,o2,e2,lI⟩:=HS.2.2.2 aG;simp only[qAQ,qBI,qBj]at e2;obtain⟨rfl,rfl⟩:=e2;exact qAA (fF.nE (cap:=0) lI hf).1
   clear eT hf aG ai az;have Gw:(Value.slice va vm vc).ownBlock≠some b1:=fun e=>by have:=hblk b1 e;omega
   have CX:(wr.drew.alloc (.cells #[.int .i64 (IntKind.i64.wrap (y-288)),.int .i64 z] 122)).cell? ⟨b1,o1+k*4+1,none⟩=some (.int .i64 y):=(((Below.refl wr.drew.heap.size wr.drew).alloc zNr _).cell (p:=⟨b1,o1+k*4+1,none⟩) (qAA q1)).trans q1;have qT:(wr.drew.alloc (.cells #[.int .i64 (IntKind.i64.wrap (y-288)),.int .i64 z] 122)).cell? ⟨b1,o1+k*4+2,none⟩=some (.int .i64 z):=(((Below.refl wr.drew.heap.size wr.drew).alloc zNr _).cell (p:=⟨b1,o1+k*4+2,none⟩) (qAA q2)).trans q2;have zod:b1<(wr.drew.alloc (.cells #[.int .i64 (IntKind.i64.wrap (y-288)),.int .i64 z] 122)).heap.size:=qAA CX;have Ry:=ae CX;have HQ2:=ae qT;clear CX qT;go_wp2_with fail
   go_region_held3 (fun w'=>w'.cell? ⟨b1,o1+k*4+1,none⟩=some (.int .i64 y)/\w'.cell? ⟨b1,o1+k*4+2,none⟩=some (.int .i64 z)) (first | go_keep | (go_split_ands;refine⟨?_,?_⟩ <;> go_keep))
    ((refine D3 Tq (.tmp 14) (.tmp 29) Tq w1.heap.size _ ((l.map jL).take k) Tq oE wr.heap.size (IntKind.i64.wrap (y-288),z) Tq kq Sg Tb ?_;intro g9 c9 w9 aU ji hk9;have r1:=(qAJ (a:=⟨b1,o1+k*4+1,none⟩) (hk9 b1 zod Gw)).trans Ry;have r2:=(qAJ (a:=⟨b1,o1+k*4+2,none⟩) (hk9 b1 zod Gw)).trans HQ2))
   rw[aa rE,<-aa HT]at aU;have pO:=ae aU;have kE:=ae (sO.trans (((bF (Below.refl wr.heap.size wr)).alloc zNr _).mono bW |>.trans ji));clear aU ji hk9 r1 r2 oE kq Ry HQ2 q0 q1 q2 q3;go_wp2;go_roundw
   case rel=>exact⟨k+1,Sg,Tc,by simpa[qBr (Nat.le_of_lt aB)]using aa pO,kE⟩
   case measure=>exact Te
  ·obtain rfl:k=l.length:=by omega
   rw[qAP Sk,aa HTL]at az;have HO:=ae (az.zpU aQ.size);have HB:=zTr aQ ai;clear az ai;go_wp2;go_ret;exact⟨_,rfl,HO,HB⟩
def Up(L:LI)(n:Int):Int:=((aO ((L.length:Int)-288) (aA L)).foldl (uF n) (-1,0)).1
theorem Z4(hf:aD L)(h1:1<=n)(h2:n<=1000):(iG ((L.length:Int)-288) (aA L) n=4/\Up L n<0)\/(iG ((L.length:Int)-288) (aA L) n=0/\Up L n=ic ((L.length:Int)-288) (aA L) n/\0<=Up L n):=by
 have kA:=(ez (jJ hf)).1;have hE:=su hf h1 (show n<=6400 by omega);have lF:aO ((L.length:Int)-288) (aA L)=dh ((L.length:Int)-288) (ix (aA L)):=by unfold aO;rw[zy (jJ hf)]
 unfold Up;rcases Z3 (size:=n) (h:=aO ((L.length:Int)-288) (aA L)) (fun r hr=>⟨(kA r hr).1,(kA r hr).2.1⟩)with ⟨h3,h4⟩ | ⟨h3,h4,h5⟩
 ·left;rw[lF]at h3;rw[hE,zy h3];exact⟨rfl,h4⟩
 ·right;rw[lF]at h5;have h0:iG ((L.length:Int)-288) (aA L) n=0:=by rw[hE,zn Sg]
  refine⟨h0,?_,?_⟩
  ·rw[h3,yM hf h1 Sg h0,lF]
  ·rw[h3];exact h4
theorem Kw a len cap n t w(eQ:n<1\/1000<n\/t<0\/15<t) :
  zC 21 #[.slice a len cap,zi n,zi t] w (zr (.tuple #[.slice none 0 0,zi 0,zi 1]) fun w'=>w=w'):=by
 by_cases c1:n<1
 ·exact Ib
 by_cases c2:1000<n
 ·exact Ib
 by_cases c3:t<0
 ·exact Ib
 exact Ib
def zfn(L:LI)(N:Nat)(t:Int)(low:Nat)(F AE AH:Int)(R:LI):Prop :=
 (low=40/\AE=4/\AH=0/\R=[])\/(low<40/\F<0/\AE=4/\AH=0/\R=[]) \/
 (low<40/\∃x:Nat,F+288=x/\0<=F/\AE=0/\AH=(low:Int)+1/\dJ L ((low:Int)+1,(x:Int),(N:Int),t)=0/\x+N<=L.length/\R=splice (cR L ((low:Int)+1,(x:Int),(N:Int),t)) x (af N))
theorem zh5(hf:aD L){N}{t}(n1:1<=N)(n2:N<=1000)(t1:0<=t)(t2:t<=15):zfn L N t (eA L) (Up L N) (kX L N t) (uu L N t) (if kX L N t=0 then iq L N t else []):=by
 have hE:kX L N t=if eA L=40 then 4 else iG ((L.length:Int)-288) (aA L) N:=by unfold kX;rw[zn (by omega)]
 have h40:=xe L;by_cases ij:eA L=40
 ·rw[zy ij]at hE;left;refine⟨ij,hE,?_,?_⟩
  ·unfold uu;rw[hE];rfl
  ·rw[hE];rfl
 ·rw[zn ij]at hE;right;rcases Z4 hf (n:=N) (by omega) (by omega)with ⟨e1,e2⟩|⟨e1,e2,e3⟩
  ·left;rw[e1]at hE;refine⟨by omega,e2,hE,?_,?_⟩
   ·unfold uu;rw[hE];rfl
   ·rw[hE];rfl
  ·right;rw[e1]at hE;obtain⟨x,M,hk⟩:=sI hf hE;have hM:M=N:=by have:=hk.eqn;omega
   subst hM;refine⟨by omega,x,by have:=hk.eqx;omega,e3,hE,?_,hk.put hf,hk.x2,?_⟩
   ·unfold uu;rw[zy hE]
   ·rw[zy hE];exact(hk.lay hf hE).symm
theorem XT a cap L(N:Nat) t w(aH:Bs w a cap L)(hf:aD L)(n1:1<=N)(n2:N<=1000)(t1:0<=t)(t2:t<=15) low F AE AH R(hF:Up L N=F)(ij:cd (fun j=>decide (aw L ((j:Int)+1)=0)) 40 low)(uo:zfn L N t low F AE AH R) :
  zC 21 #[.slice a L.length cap,zi N,zi t] w fun e w'=>∃a' c',e=zt #[.slice a' R.length c',zi AH,zi AE]/\Bs w' a' c' R/\zB w w'/\Fr w.heap.size a':=by
 have hl:=hf.len;have fC:=aH.2.2.1;have HE:=ae (fun(k:Nat) (hk:k<40) (W:World) (hW:zB w W)=>mL a cap L ((k:Int)+1) W (aH.below hW) hl.1 Sg Sg);have x8:=ae (fun(W:World) (hW:zB w W)=>Ek a cap L W (aH.below hW) hf);have HFT:=ae (fun(v:OA) (c:Nat) (W:World) (h:xB W v c (aA L))=>zbY ((L.length:Int)-288) v c (aA L) N W h (jJ hf));change Hid (∀ (v:OA) (c:Nat) (W:World),xB W v c (aA L)->zC 56 #[zi ((L.length:Int)-288),.slice v (aA L).length c,zi N] W (zr (zi (Up L N)) fun w'=>zB W w'))at HFT;rw[hF]at HFT;have HPE:=ae (fun(e:(Int×I3)) (W:World) (hW:zB w W)=>GR a cap L e W (aH.below hW) hf.gR);have Rw:=ae (fun(a:OA) (cap:Nat) (P:LI) (x:Nat) (W:World) (hP:P.length=L.length) (hb:Bs W a cap P) (hx:x+N<=L.length)=>wR a cap P x N W hb Sg Sg Sg);have htl:=lh L;have Hu:Hid (True->(aA L).length<=8796093021952):=ae (fun _=>Sg);have HTI:Hid (∀e∈aA L,uc e):=ae (fun e he=>by obtain⟨h,h1,h2,h3,rfl⟩:=iz.1 he;have:=hf.nE h1 h2 h3;unfold uc jL;dsimp only;omega);have zib:=ae ij;have Q3:=ae uo;have iE:=ae aH.1;have HHL:=ae hl;have r1:¬(N:Int)<1:=Sg;have r2:¬1000<(N:Int):=Sg;have r3:¬t<0:=Sg;have r4:¬15<t:=Sg;clear aH hf hF ij uo htl;generalize aA L=TL at*;go_enter func21,ntmps21
 go_wp2_with fail
 go_loopw [9] (fun hv wr=>∃k:Nat,k<=40/\hv=zi ((k:Int)+1)/\(∀j,j<k->decide (aw L ((j:Int)+1)=0)=false)/\zB w wr) (fun hv _=>41-(intOf hv).toNat)
 case atStart=>exact zm9
 case round =>
  obtain⟨k,hk,rfl,bQ,ai⟩:=hrel;by_cases zqj:k<40
  ·have HEk:=ae (HE k zqj wr ai);unfold kV at HEk;have AP:=ae bQ;have aJ:=ae ai;by_cases ht:aw L ((k:Int)+1)=0
   ·have tP:low=k:=cd.unique zib ⟨hk,bQ,fun _=>qAE ht⟩;rw[ht]at HEk;subst tP;clear bQ ai ht AP zib;obtain⟨E,hE⟩:∃E,ao L ((low:Int)+1)=E:=⟨_,rfl⟩;rw[hE]at HEk;clear hE;obtain⟨y1,y2,y3,y4⟩:=E;dsimp only at HEk;go_wp2_with fail
    refine HEk.m ?_;intro w1 ay;have ia:=(zTs aJ ay);have dr:=ia.alloc ia.size (.cells #[zi y1,zi y2,zi y3,zi y4] 124);have ze1:=ae (x8 _ dr);have bz:=ae dr;clear ay ia dr HEk aJ x8 HE;go_wp2_with fail
    refine ze1.mono ?_;rintro e w3 ⟨v3,rfl,qU,bD⟩;obtain⟨a3,c3,rfl,yE⟩:=oe.Z9 (l:=TL) qU HTI (Hu trivial);have zfh:=ae (HFT a3 c3 w3 yE);have mr:=zTs bz bD;have dF:=ae mr;clear qU yE bD mr ze1 bz HFT HTI Hu;generalize TL.length=TN at*;go_wp2_with fail
    refine zfh.m ?_;intro w4 eU;have qW:=zTs dF eU;have fh:=ae qW;rcases aa Q3 with ⟨e1,_⟩|⟨_,e2,rfl,rfl,rfl⟩|⟨_,x,e1,e2,rfl,rfl,e3,e4,e5⟩
    ·omega
    ·exact zmU
    ·have QT:=ae (HPE ((low:Int)+1,(x:Int),(N:Int),t) w4 qW);rw[e3]at QT;have hPl:=nP e3;unfold kV at QT;dsimp only at QT;have hFx:F=(x:Int)-288:=by omega
     subst hFx;have znh:(x:Int)-288+288=x:=Sg;generalize cR L ((low:Int)+1,(x:Int),(N:Int),t)=P at*;have yZ:=ae hPl;have HE5:=ae e5;go_wp2_with fail
     refine QT.mono ?_;rintro e w5 ⟨a5,c5,he5,zkW,il⟩;rw[aa yZ]at he5;subst he5;have zk4:=Rw a5 c5 P x w5 yZ zkW e4;rw[aa yZ]at zk4;have zoB:=ae zk4;have oM:=zTr fh il;have HBR:=ae (dB (off:=x) zkW.1 (cI N));have HRL:=ae (length_splice (z:=P) (l:=af N) (off:=x) (by rw[ag,aa yZ];exact e4));go_wp2_with fail
     refine zoB.mono ?_;rintro e w6 ⟨g6,c6,rfl,ho6,uS⟩;have zrn:=ae (ho6.bs HBR (by rw[aa HRL,aa yZ];omega));have HB6:=zTr oM uS;have JX:=ae (qAF oM.size ho6.base);go_wp2;go_ret3;refine⟨some (zp g6),c6,?_,?_,HB6,Fr.at JX⟩
     ·rw[aa HE5,aa HRL,aa yZ];rfl
     ·rw[aa HE5];exact zrn
   ·have hd:=qAG ht;rw[qBZ.2 ht]at HEk;obtain⟨E,hE⟩:∃E,ao L ((k:Int)+1)=E:=⟨_,rfl⟩;rw[hE]at HEk;obtain⟨y1,y2,y3,y4⟩:=E;dsimp only at HEk;have HD:=ae hd;go_wp2_with fail
    refine HEk.m ?_;intro w1 ay;have aQ:=zTr aJ ay;go_wp2;go_roundw
    case rel=>exact⟨k+1,Sg,Tc,cd.step AP HD,aQ.alloc aQ.size _⟩
    case measure=>exact Te
  ·obtain rfl:k=40:=by omega
   have tP:=cd.unique zib ⟨zNr,bQ,fun h=>absurd h (qBd _)⟩;rcases aa Q3 with ⟨_,rfl,rfl,rfl⟩ | ⟨e0,_⟩ | ⟨e0,_⟩
   ·have ze1:=ae (x8 wr ai);have bz:=ae ai;go_wp2_with fail
    refine ze1.mono ?_;rintro e w3 ⟨v3,rfl,qU,bD⟩;obtain⟨a3,c3,rfl,yE⟩:=oe.Z9 (l:=TL) qU HTI (Hu trivial);have zfh:=ae (HFT a3 c3 w3 yE);have dF:=zTr bz bD;generalize TL.length=TN at*;go_wp2_with fail
    refine zfh.m ?_;intro w4 eU;have fh:=zTr dF eU;exact zmU
   ·omega
   ·omega
theorem Sv a cap L n t w(aH:Bs w a cap L)(hf:aD L) :
  zC 21 #[.slice a L.length cap,zi n,zi t] w fun e w'=>∃a' c',e=.returned (.tuple #[.slice a' (if kX L n t=0 then iq L n t else []).length c',zi (uu L n t),zi (kX L n t)])/\Bs w' a' c' (if kX L n t=0 then iq L n t else [])/\zB w w'/\Fr w.heap.size a':=by
 by_cases hr:n<1\/1000<n\/t<0\/15<t
 ·have e1:kX L n t=1:=by unfold kX;rw[zy hr]
  have e2:uu L n t=0:=by unfold uu;rw[e1];rfl
  rw[e1,e2];exact(Kw a L.length cap n t w hr).mono fun e w' ⟨he,hw⟩=>⟨none,0,he,eu _,Xd,Fr.nil _⟩
 ·obtain⟨N,rfl⟩:=qAN (show 0<=n by omega);exact XT a cap L N t w aH hf Sg Sg Sg Sg (eA L) _ _ _ _ rfl (fY L) (zh5 hf Sg Sg Sg Sg)
def plI(b:LI)(s:BA):Int:=if ie b s=8 then -1 else (ie b s:Int)
theorem yr a cap L s w(aH:Bs w a cap L)(jC:288<=L.length)(gS:L.length<=6400) :
  zC 61 #[.slice a L.length cap,.string s] w (zr (zi (plI L s)) fun w'=>w=w'):=by
 have HRA:=ae (fun(k:Nat) (hk:k<8)=>vw a cap L k w aH jC gS hk);have ze8:=ae (fun(k:Nat) (hk:k<8)=>aY (b:=L) (i:=k) Sg);have HF:=ae (je L s);generalize hP:plI L s=P;have HP:=ae hP;clear aH hP;generalize hN:L.length=N at*;have HN:=ae hN;clear hN;go_enter func61,ntmps61
 go_wp2_with fail
 go_loop [5] (fun iv=>∃k:Nat,k<=8/\iv=zi k/\∀j,j<k->vH L s j=false) (fun iv=>8-(intOf iv).toNat)
 case atStart=>exact⟨0,qAH _,rfl,fun j hj=>absurd hj (qAX j)⟩
 case round =>
  obtain⟨k,hk,rfl,bQ⟩:=hrel;by_cases aB:k<8
  ·have HRk:=ae (HRA k aB);have Fe:=ze8 k aB;have AP:=ae bQ;have hPk:vH L s k=true->P=k:=fun h=>by have:ie L s=k:=cd.unique HF ⟨hk,bQ,fun _=>h⟩;have h2:=aa HP;unfold plI at h2;rw[this,zn Sg]at h2;exact h2.symm
   have HPk:=ae hPk;have HIS:Hid (vH L s k=(decide ((bI ((rowAt L k).take 8)).2=0)&&decide ((bI ((rowAt L k).take 8)).1=s))):=ae rfl;clear bQ hPk HP HF;obtain⟨I,hI0⟩:∃I,vH L s k=I:=⟨_,rfl⟩;rw[hI0]at HPk HIS;have HI0:=ae hI0;clear hI0;generalize rowAt L k=r at*;go_wp2_with fail
   refine HRk.mono ?_;rintro e w1 ⟨a1,c1,rfl,ay,fM⟩;subst fM;obtain⟨a2,hhi,aK⟩:=jK (P:=prog) (t:=29) underlying29 aT ay 8 Sg;rw[Fe,show((8:Nat):Int)=8 from rfl]at hhi;have h8:(r.take 8).length=8:=VW;have uV:=ae (IH a2 c1 (r.take 8) w aK);rw[h8]at uV;clear ay aK h8 HRk Fe;generalize (bI (r.take 8)).1=nm at*;generalize (bI (r.take 8)).2=cc at*;by_cases hc:cc=0
   ·subst hc;by_cases hs:nm=s
    ·subst hs;have hI:I=true:=by rw[aa HIS];simp
     have HPP:=ae (HPk hI);clear hI HIS HPk;go_wp2_with fail
     refine uV.m ?_;intro w2 xg;subst xg;go_wp2;go_ret;exact⟨by rw[aa HPP];rfl,rfl⟩
    ·have hI:I=false:=by rw[aa HIS];simp[hs]
     have HI:=ae hI;have lE:=gC hs;clear hI HIS HPk hs;exact FT
   ·have hI:I=false:=by rw[aa HIS];simp[hc]
    have HI:=ae hI;have hcb:(cc == 0)=false:=qAU.2 hc;clear hI HIS HPk hc;exact FT
  ·obtain rfl:k=8:=by omega
   have hp8:P=-1:=by have:ie L s=8:=cd.unique HF ⟨hk,bQ,fun h=>absurd h (qBd _)⟩;have h2:=aa HP;unfold plI at h2;rw[this,zy rfl]at h2;exact h2.symm
   have HPP:=ae hp8;clear bQ hp8 HP HF;go_wp2;go_ret;exact⟨by rw[aa HPP];rfl,rfl⟩
theorem Ey s w(hs:s.size<=140737488351232):zC 31 #[.string s] w (zr (.bool (dG s)) fun w'=>w=w'):=by
 cases hn:dG s with
 | true=>exact Bo s w (cL.1 hn)
 | false=>exact yw s w hs (fun h=>zfQ)
theorem Su a cap L s w(aH:Bs w a cap L)(hf:aD L)(hs:s.size<=140737488351232) :
  zC 30 #[.slice a L.length cap,.string s] w fun e w'=>∃a' c',e=.returned (.tuple #[.slice a' (if pB L s=0 then Gt L s else []).length c',zi (pB L s)])/\Bs w' a' c' (if pB L s=0 then Gt L s else [])/\zB w w'/\Fr w.heap.size a':=by
 have HN:=ae (Ey s w hs);have hl:=hf.len;have fC:=aH.2.2.1;have HP:=ae (yr a cap L s w aH hl.1 hl.2);have si:=tC L s;cases hn:dG s with
 | false =>
  rw[hn]at HN;have e1:pB L s=2:=by unfold pB;rw[hn];rfl
  rw[e1,zn Si];clear e1;clear aH hf hl hn HP;generalize L.length=N at*;go_enter func30,ntmps30
  go_wp2_with fail
  refine HN.m ?_;intro w1 hw;exact zpg
 | true =>
  rw[hn]at HN;unfold plI at HP;by_cases h8:ie L s=8
  ·rw[zy h8]at HP;have e1:pB L s=5:=by unfold pB;rw[hn,zn Sk,zy h8]
   rw[e1,zn Si];clear aH hf hl hn h8 e1;generalize L.length=N at*;go_enter func30,ntmps30
   go_wp2_with fail
   refine HN.m ?_;intro w1 hw;subst hw;go_wp2_with fail
   refine HP.m ?_;intro w2 hw;exact zpg
  ·rw[zn h8]at HP;have e1:pB L s=0:=by unfold pB;rw[hn,zn Sk,zn h8]
   rw[e1,zy rfl];clear e1;have HW:=ae (wR a cap L (200+11*ie L s) 11 w aH Sg hl.2 Sg);rw[show((200+11*ie L s:Nat):Int)=200+11*(ie L s:Int) by omega,show((11:Nat):Int)=11 from rfl]at HW;have hU:Gt L s=splice L (200+11*ie L s) (af 11):=rfl;have hUl:(Gt L s).length=L.length:=by rw[hU,length_splice YS]
   have iE:=ae (show bZ (Gt L s)from dB aH.1 (cI 11));rw[<-hU]at HW;have HUL:=ae hUl;generalize Gt L s=U,ie L s=p,L.length=N at*;go_enter func30,ntmps30
   go_wp2_with fail
   refine HN.m ?_;intro w1 hw;subst hw;go_wp2_with fail
   refine HP.m ?_;intro w2 hw;subst hw;go_wp2_with fail
   refine HW.mono ?_;rintro e w3 ⟨g,c,rfl,ho,hb⟩;have HB:=ae hb;have JX:=ae ho.base;have HO:=ae (ho.bs iE (by rw[aa HUL];omega));go_wp2;go_ret2;exact⟨some (zp g),c,by rw[aa HUL];rfl,HO,HB,Fr.at JX⟩
def BU(L:LI)(k:Nat)(m:Int):Prop:=(∃j:Nat,m=j/\k<=j/\j<8/\isRoot (rowAt L j)=false/\∀i,k<=i->i<j->isRoot (rowAt L i)=true)\/(m=-1/\∀i,k<=i->i<8->isRoot (rowAt L i)=true)
theorem PU(h:BU L 0 m):m=if nC L=8 then -1 else (nC L:Int):=by
 have hf:=pL L;rcases h with ⟨j,rfl,_,h2,h3,h4⟩|⟨rfl,h4⟩
 ·have:nC L=j:=cd.unique hf ⟨Sg,fun i hi=>by simp[h4 i Sg hi],fun _=>by simp[h3]⟩;rw[this,zn Sg]
 ·have:nC L=8:=cd.unique hf ⟨zNr,fun i hi=>by simp[h4 i Sg hi],fun h=>absurd h (qBd _)⟩;rw[this,zy rfl]
theorem PV(hk:k<8)(h:BU L (k+1) m):BU L k (if isRoot (rowAt L k)=true then m else (k:Int)):=by
 cases hr:isRoot (rowAt L k)with
 | false =>rw[zn Sk];exact .inl ⟨k,rfl,zNr,hk,hr,fun i h1 h2=>Sg⟩
 | true =>
  rw[zy rfl];rcases h with ⟨j,rfl,h1,h2,h3,h4⟩|⟨rfl,h4⟩
  ·refine .inl ⟨j,rfl,Sg,h2,h3,fun i h5 h6=>?_⟩;exact QC
  ·refine .inr ⟨rfl,fun i h5 h6=>?_⟩;exact QC
theorem LO L:BU L 8 (-1):=.inr ⟨rfl,fun i h1 h2=>Sg⟩
theorem zf4 a cap L s h w(aH:Bs w a cap L)(hf:aD L)(hs:s.size<=140737488351232)(eQ:dG s=false\/aX L h≠0) :
  zC 29 #[.slice a L.length cap,.string s,zi h] w (zr (.tuple #[.slice none 0 0,.bool false,zi (js L s h)]) fun w'=>zB w w'):=by
 have HN:=ae (Ey s w hs);have HH:=ae (lq a cap L h w aH hf.gR);have fC:=aH.2.2.1;cases hn:dG s with
 | false =>
  have e1:js L s h=2:=by unfold js;rw[hn];rfl
  rw[hn]at HN;rw[e1];generalize L.length=N at*;go_enter func29,ntmps29
  go_wp2_with fail
  refine HN.m ?_;intro w1 hw;subst hw;go_wp2;go_ret3;exact⟨rfl,zBr⟩
 | true =>
  rcases eQ with hb|hc
  ·rw[hn]at hb;cases hb
  have e1:js L s h=aX L h:=by unfold js;rw[hn,zn Sk,zy hc]
  rw[hn]at HN;rw[e1];have hcb:=qAU.2 hc;generalize aX L h=X,L.length=N at*;go_enter func29,ntmps29
  go_wp2_with fail
  refine HN.m ?_;intro w1 hw;subst hw;go_wp2_with fail
  refine HH.m ?_;intro w2 hb;have HB:=ae hb;go_wp2;go_ret3;exact zpQ
theorem zbC a cap L s h w(aH:Bs w a cap L)(hf:aD L)(hs:s.size<=140737488351232)(hn:dG s=true)(hc:aX L h=0)(hp:ie L s<8) :
  zC 29 #[.slice a L.length cap,.string s,zi h] w fun e w'=>∃a' c',e=zt #[.slice a' (mG L s h).length c',.bool false,zi 0]/\Bs w' a' c' (mG L s h)/\zB w w'/\Fr w.heap.size a':=by
 have HN:=ae (Ey s w hs);have HH:=ae (lq a cap L h w aH hf.gR);have fC:=aH.2.2.1;have hI:nL L s=ie L s:=by unfold nL;rw[zy hp]
 have h0:js L s h=0:=zi6;obtain⟨p1,p2,_,_⟩:=ou hf h0;have hl:=hf.len;have HP:=ae (fun(W:World) (hW:zB w W)=>yr a cap L s W (aH.below hW) hl.1 hl.2);have eP:plI L s=(ie L s:Int):=by unfold plI;rw[zn Sg]
 rw[eP]at HP;have Mh:=ae (fun(W:World) (hW:zB w W)=>rm a cap L (nL L s) (s,h) W (aH.below hW) hf.gR hs);rw[p1]at Mh;change Hid (∀W:World,zB w W->zC 64 #[.slice a L.length cap,zi (nL L s:Nat),vp (s,h)] W (AR W (mG L s h) (zi 0)))at Mh;rw[hI]at Mh;unfold vp at Mh;dsimp only at Mh;have hSl:(mG L s h).length=L.length:=wU p1;rw[hn]at HN;rw[hc]at HH;have QN:=ae hSl;clear aH hf hn hc hI h0 p1 p2 eP hSl hl;generalize mG L s h=SB,ie L s=p,L.length=N at*;go_enter func29,ntmps29
 go_wp2_with fail
 refine HN.m ?_;intro w1 hw;subst hw;go_wp2_with fail
 refine HH.m ?_;intro w2 aK;have Gg:=ae (HP w2 aK);have ze9:=ae (Mh w2 aK);have bz:=ae aK;go_wp2_with fail
 refine Gg.m ?_;intro w3 hw;subst hw;go_wp2_with fail
 go_loop [11,13] (fun iv kv=>iv=zi p/\kv=zi 7) (fun _ _=>0)
 case atStart=>exact Uq
 case round =>
  obtain⟨rfl,rfl⟩:=hrel;go_wp2_with fail
  refine ze9.mono ?_;rintro e w4 ⟨a4,c4,he4,jT,eU,Py⟩;have JX:=ae (Py.mono bz.size);rw[aa QN]at he4;subst he4;have Gp:=ae jT;have fh:=zTr bz eU;go_wp2;go_ret3;exact⟨a4,c4,by rw[aa QN];rfl,Gp,fh,JX⟩
theorem zbD a cap L s h w(aH:Bs w a cap L)(hf:aD L)(hs:s.size<=140737488351232)(hn:dG s=true)(hc:aX L h=0)(hp:ie L s=8) :
  zC 29 #[.slice a L.length cap,.string s,zi h] w fun e w'=>∃a' c',e=.returned (.tuple #[.slice a' (if nC L=8 then []else mG L s h).length c',.bool (!decide (nC L=8)),zi (if nC L=8 then 4 else 0)])/\Bs w' a' c' (if nC L=8 then []else mG L s h)/\zB w w'/\Fr w.heap.size a':=by
 have HN:=ae (Ey s w hs);have HH:=ae (lq a cap L h w aH hf.gR);have fC:=aH.2.2.1;have hI:nL L s=nC L:=by unfold nL;rw[zn Sg]
 have hl:=hf.len;have HP:=ae (fun(W:World) (hW:zB w W)=>yr a cap L s W (aH.below hW) hl.1 hl.2);have eP:plI L s=-1:=by unfold plI;rw[zy hp]
 rw[eP]at HP;have Mh:Hid (nC L<8->∀W:World,zB w W->zC 64 #[.slice a L.length cap,zi (nC L:Nat),.agg #[.string s,zi h]] W fun e w'=>∃a4 c4,e=zt #[.slice a4 L.length c4,zi 0]/\Bs w' a4 c4 (mG L s h)/\zB W w'/\Fr W.heap.size a4):=ae (fun aB W hW=>by
  have h0:js L s h=0:=zi6;obtain⟨p1,p2,_,_⟩:=ou hf h0;have:=rm a cap L (nL L s) (s,h) W (aH.below hW) hf.gR hs;rw[p1]at this;have hSl:(mG L s h).length=L.length:=wU p1;rw[hI]at this;refine this.mono fun e w' ⟨a4,c4,he,eU,hb,kA⟩=>⟨a4,c4,?_,?_,hb,kA⟩
  ·rw[he];have:rn L (nC L:Nat) (s,h)=mG L s h:=by unfold mG;rw[hI]
   rw[this,hSl]
  ·have:rn L (nC L:Nat) (s,h)=mG L s h:=by unfold mG;rw[hI]
   rw[<-this];exact eU)
 have QN:Hid (nC L<8->(mG L s h).length=L.length):=ae (fun aB=>by have h0:js L s h=0:=zi6;exact wU (ou hf h0).1);have HRA:=ae (fun(k:Nat) (hk:k<8) (W:World) (hW:zB w W)=>vw a cap L k W (aH.below hW) hl.1 hl.2 hk);have ze8:=ae (fun(k:Nat) (hk:k<8)=>aY (b:=L) (i:=k) Sg);have fP:=ae (LO L);have lF:=LN L;rw[hn]at HN;rw[hc]at HH;have Hy:=ae lF;clear aH hf hn hc hI eP hl hp lF;generalize hSB:mG L s h=SB at*;clear hSB;generalize hN:L.length=N at*;clear hN;have ze5:Hid (nC L=8->(if nC L=8 then []else SB)=[]/\(!decide (nC L=8))=false/\(if nC L=8 then (4:Int)else 0)=4):=ae (fun h8=>by rw[h8];exact⟨rfl,rfl,rfl⟩);have ze4:Hid (nC L<8->(if nC L=8 then []else SB)=SB/\(!decide (nC L=8))=true/\(if nC L=8 then (4:Int)else 0)=0):=ae (fun aB=>by rw[zn Sg,zn Sg,qAG Sg];exact⟨rfl,rfl,rfl⟩);generalize (if nC L=8 then []else SB)=RS at*;generalize (!decide (nC L=8))=RB at*;generalize (if nC L=8 then (4:Int)else 0)=RE at*;go_enter func29,ntmps29
 go_wp2_with fail
 refine HN.m ?_;intro w1 hw;subst hw;go_wp2_with fail
 refine HH.m ?_;intro w2 aK;have Gg:=ae (HP w2 aK);have bz:=ae aK;clear aK HH HP;go_wp2_with fail
 refine Gg.m ?_;intro w3 hw;subst hw;go_wp2_with fail
 go_loop [11,13] (fun iv kv=>∃ (k:Nat) (m:Int),k<=8/\kv=zi ((k:Int)-1)/\iv=zi m/\BU L k m) (fun _ kv=>(intOf kv+1).toNat)
 case atStart=>exact⟨8,-1,zNr,rfl,rfl,fP⟩
 case round =>
  obtain⟨k,m,hk,rfl,rfl,kA⟩:=hrel;rcases qCl k with rfl|ew
  ·have hm:=PU kA;by_cases h8:nC L=8
   ·rw[zy h8]at hm;subst hm;obtain⟨q1,q2,q3⟩:=ze5 h8;have Ry:=ae q1;have HQ2:=ae q2;have HQ3:=ae q3;clear kA h8 Mh QN HRA ze8 fP Hy q1 q2 q3 ze5 ze4;go_wp2;go_ret3;exact⟨none,0,by rw[aa Ry,aa HQ2,aa HQ3];rfl,by rw[aa Ry];exact eu _,bz,Fr.nil _⟩
   ·rw[zn h8]at hm;subst hm;have aB:nC L<8:=by have:=aa Hy;omega
    obtain⟨q1,q2,q3⟩:=ze4 aB;have Ry:=ae q1;have HQ2:=ae q2;have HQ3:=ae q3;have ze9:=ae (Mh aB _ bz);have zh7:=ae (QN aB);clear kA h8 Mh QN HRA ze8 fP Hy q1 q2 q3 ze5 ze4 aB;generalize nC L=p at*;have Zw:(0:Int)<=(p:Int):=Sg;go_wp2_with fail
    refine ze9.mono ?_;rintro e w4 ⟨a4,c4,rfl,jT,eU,Py⟩;have JX:=ae (Py.mono bz.size);clear Py;have Gp:=ae jT;have fh:=zTr bz eU;clear jT eU ze9 bz;go_wp2;go_ret3;refine⟨a4,c4,?_,?_,fh,JX⟩
    ·rw[aa Ry,aa HQ2,aa HQ3,aa zh7];rfl
    ·rw[aa Ry];exact Gp
  ·obtain⟨j,rfl⟩:∃j,k=j+1:=⟨k-1,Sg⟩;have hj8:j<8:=by omega
   have ri:=ae (PV hj8 kA);have Fe:=ze8 j hj8;have HRk:=ae (HRA j hj8 _ bz);have e0:((j+1:Nat):Int)-1=(j:Int):=Sg;rw[e0];have hj0:(0:Int)<=(j:Int):=Sg;clear kA e0;generalize rowAt L j=r at*;go_wp2_with fail
   refine HRk.mono ?_;rintro e w4 ⟨a4,c4,rfl,eU,hw4⟩;subst hw4;have HZ:=ae (IG a4 c4 r _ eU);rw[Fe]at HZ;clear eU HRk;cases hr:isRoot r with
   | false =>
    rw[hr]at HZ ri;rw[zn Sk]at ri;clear hr;go_wp2_with fail
    refine HZ.m ?_;intro w5 hw5;subst hw5;go_wp2
    go_round
    case rel=>exact⟨j,j,Sg,rfl,rfl,ri⟩
    case measure=>simp[intOf]
   | true =>
    rw[hr]at HZ ri;rw[zy rfl]at ri;clear hr;go_wp2_with fail
    refine HZ.m ?_;intro w5 hw5;subst hw5;go_wp2
    go_round
    case rel=>exact⟨j,m,Sg,rfl,rfl,ri⟩
    case measure=>simp[intOf]
theorem zbE a cap L s h w(aH:Bs w a cap L)(hf:aD L)(hs:s.size<=140737488351232) :
  zC 29 #[.slice a L.length cap,.string s,zi h] w fun e w'=>∃a' c',e=.returned (.tuple #[.slice a' (if js L s h=0 then mG L s h else []).length c',.bool (decide (js L s h=0)&&Mq L s),zi (js L s h)])/\Bs w' a' c' (if js L s h=0 then mG L s h else [])/\zB w w'/\Fr w.heap.size a':=by
 by_cases eQ:dG s=false\/aX L h≠0
 ·have aG:js L s h≠0:=by
   intro h0;obtain⟨_,_,h3,h4⟩:=ou hf h0;rcases eQ with hb|hb
   ·rw[hb]at h3;cases h3
   ·exact hb h4
  rw[zn aG,qAG aG,qCa];exact(zf4 a cap L s h w aH hf hs eQ).mono fun e w' ⟨he,hb⟩=>⟨none,0,he,eu _,hb,Fr.nil _⟩
 ·have hn:dG s=true:=by cases h1:dG s with|true=>rfl|false=>exact absurd (.inl h1) eQ
  have hc:=qAM fun h1=>eQ (.inr h1)
  have hE:js L s h=if nL L s=8 then 4 else 0:=by unfold js;rw[hn,zn Sk,zn (fun h=>h hc)]
  by_cases hp:ie L s=8
  ·have hI:nL L s=nC L:=by unfold nL;rw[zn Sg]
   have hN:Mq L s=true:=qAE hp;rw[hI]at hE;have:=zbD a cap L s h w aH hf hs hn hc hp;rw[<-hE]at this;refine this.mono fun e w' ⟨a',c',he,hb,ai,kA⟩=>⟨a',c',?_,?_,ai,kA⟩
   ·rw[he,hN];by_cases h8:nC L=8
    ·rw[hE];simp[h8]
    ·rw[hE];simp[h8]
   ·by_cases h8:nC L=8
    ·rw[zy h8]at hb;rw[hE];simp only[h8,if_true];exact hb
    ·rw[zn h8]at hb;rw[hE,zn h8];exact hb
  ·have aB:ie L s<8:=by have:=tC L s;omega
   have hI:nL L s=ie L s:=by unfold nL;rw[zy aB]
   have hN:Mq L s=false:=qAG hp;rw[hI,zn hp]at hE;rw[hE,hN,zy rfl,Bool.and_false];exact zbC a cap L s h w aH hf hs hn hc aB
end
section
open Go.RowKit
open Go.Sort
open Go.Shelf
theorem sK.drewN{o u f r:Int}(h:sK w g o u f m r) k:sK (w.drewN k) g o u f m r:=h
theorem zbH n a cap l w(hl:xB w a cap l)(hc:nY n l=0) F M(hF:F=aR (aO n l))(hM:M=cM 0 (aO n l)) :
  zC 40 #[zi n,.slice a l.length cap] w (zr (.agg #[zi l.length,zi (n-F),zi F,zi M,zi (aO n l).length]) fun w'=>zB w w'):=by
 obtain⟨tL,hlen⟩:=ez hc;obtain⟨k0,k1,k2,hg⟩:=eZ.1 hc;have gT:zB w (w.alloc (.cells #[zi 0,zi 0,zi 0,zi 0,zi 0] 92)):=zBr.alloc zNr _;have HC:=ae (Je n a cap l _ (hl.below gT) hc);have hFb:=r8 (l:=aO n l) (fun e he=>by have:=tL e he;omega);have HS:=ae (sK.new w 0 0 0 0 0);have iX:=ae gT;have HF:=ae hF;have HM:=ae hM;rw[<-hF]at hFb;have l7:=hl.2.2.1;generalize aO n l=fr at*;have HSM:=ae tL;clear hl hc gT hF hM tL hg;go_enter func40,ntmps40
 go_wp2_with fail
 refine HC.mono ?_;rintro e w1 ⟨v,rfl,ho,hb⟩;obtain⟨ah,ch,rfl,hx⟩:=ho.Z9 (fun e he=>by have:=HSM e he;unfold uc;omega) Sg;have HX:=ae hx;have G7:=HS.below hb Sk;have zdu:=G7.lt;have sN:=ae G7;have aQ:=ae (iX.trans (hb.mono Sk));clear G7 hb HC HS hx ho iX;go_wp2_with fail
 go_loopw [7] (fun cv wr=>∃k:Nat,k<=fr.length/\cv=zi k/\sK wr w1.heap.size l.length 0 (aR (fr.take k)) (cM 0 (fr.take k)) fr.length/\zB w1 wr) (fun cv _=>fr.length-(intOf cv).toNat)
 case atStart=>exact znQ
 case round =>
  obtain⟨k,hk,rfl,hB,ai⟩:=hrel;by_cases aB:k<fr.length
  ·have aG:fr≠[]:=by intro e;rw[e]at aB;simp at aB
   obtain⟨b,off,rfl,bf⟩:=HX.2.2.2 aG;obtain⟨c0,c1⟩:=bf k aB;have hbg:b<w1.heap.size:=qAA c0;have zhp:b≠w1.heap.size:=Sg;rw[<-ai.cell (qAA c0)]at c0;rw[<-ai.cell (qAA c1)]at c1;have eF:=vF aB;have hmt:=IX aB;have iT:=r8 (l:=fr.take k) (fun e he=>by have:=HSM e (qAj he);omega);have fC:(fr.take k).length<=201:=Tb;have fu:fr.getD k (0,0)∈fr:=by exact PS
   have hgk:=HSM _ fu;generalize fr.getD k (0,0)=r at*;obtain⟨d0,d1,d2,d3,d4⟩:=hB.cells;have f2:=hB.fr 2;have f3:=hB.fr 3;have xG:=hB.lt;have qo:=ae hB;have sO:=ae ai;have fP:=ae eF;generalize hq:aR (fr.take k)=q at*;generalize qT:cM 0 (fr.take k)=q2 at*;obtain⟨x,y⟩:=r;dsimp only at*;have HMT:=ae hmt;clear hB ai eF bf aG fu hq qT hmt;have zrO:¬(9223372036854775807:Int)<q+y:=Sg;have tP:(k:Int)<(fr.length:Int):=Sg;go_wp2_with fail
   go_region
   have gN:sK ((wr.setCell (zw w1.heap.size 2) (zi (q+y))).drew) w1.heap.size l.length 0 (q+y) q2 fr.length:=qo.Eg _;have aK:zB w1 ((wr.setCell (zw w1.heap.size 2) (zi (q+y))).drew):=(sO.setCell zNr _).drew;have c1':((wr.setCell (zw w1.heap.size 2) (zi (q+y))).drew).cell? ⟨b,off+k*2+1,none⟩=some (zi y):=by rw[<-c1];exact qAJ (a:=⟨b,off+k*2+1,none⟩) (qAV _ _ _ _ zhp)
   clear d0 d1 d2 d3 d4 f2 f3 c0 c1 qo sO xG;generalize (wr.setCell (zw w1.heap.size 2) (zi (q+y))).drew=ws at*;obtain⟨d0,d1,d2,d3,d4⟩:=gN.cells;have f3:=gN.fr 3;have xG:=gN.lt;have qo:=ae gN;have sO:=ae aK;clear gN aK;by_cases Gv:q2<y
   ·have AN:Hid (max q2 y=y):=ae Sg;go_wp2_with fail
    go_quiet (fail)
    go_wp2;go_roundw
    case rel=>exact⟨k+1,Sg,Tc,by rw[aa fP,aa HMT,aa AN];exact(qo.drewN nq).zjm _,(below_draws sO nq).setCell zNr _⟩
    case measure=>exact Te
   ·have AN:Hid (max q2 y=q2):=ae Sg;have dxy:decide (q2<y)=false:=qAG Gv;go_wp2_with fail
    go_quiet (fail)
    go_wp2;go_roundw
    case rel=>exact⟨k+1,Sg,Tc,by rw[aa fP,aa HMT,aa AN];exact qo.drewN nq,below_draws sO nq⟩
    case measure=>exact Te
  ·obtain rfl:k=fr.length:=by omega
   rw[qAk,<-aa HF,<-aa HM]at hB;obtain⟨d0,d1,d2,d3,d4⟩:=hB.cells;have g1:=hB.fr 1;have hs:=sN.below ai zdu;obtain⟨e0,e1,e2,e3,e4⟩:=hs.cells;have f0:=hs.fr 0;have f1:=hs.fr 1;have f2:=hs.fr 2;have f3:=hs.fr 3;have f4:=hs.fr 4;have aG:w.heap.size≠w1.heap.size:=Sg;have HSF:Hid (sK (wr.setCell (zw w1.heap.size 1) (zi (n-F))) w.heap.size 0 0 0 0 0):=ae ((qAV _ _ _ _ aG).trans hs);have Q4:=ae ((zTs aQ ai).setCell (p:=⟨w1.heap.size,1,none⟩) aQ.size (zi (n-F)));clear hB ai hs;go_wp2;refine qBV (qDO rfl _ _ w.heap.size 92 _ (0,0) _ rfl (HSF.tr l.length (n-F) F M fr.length) underlying92 rfl (by rw[Im];rfl)) rfl ?_;exact zmm
theorem XX n a cap l w(hl:xB w a cap l)(hc:nY n l=0) O U F M R(h:stT n l=(O,U,F,M,R)) :
  zC 40 #[zi n,.slice a l.length cap] w (zr (.agg #[zi O,zi U,zi F,zi M,zi R]) fun w'=>zB w w'):=by
 obtain⟨rfl,_,h3,_,_,_,_,h8,rfl⟩:=Ba hc h;have hF:F=aR (aO n l):=by unfold stT at h;rw[zy hc]at h;simp only[qBs]at h;exact h.2.2.1.symm
 have hU:U=n-F:=Sg;rw[hU];exact zbH n a cap l w hl hc F M hF h8
