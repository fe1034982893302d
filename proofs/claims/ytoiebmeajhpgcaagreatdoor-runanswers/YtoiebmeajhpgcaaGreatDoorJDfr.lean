import Derived.Test.YtoiebmeajhpgcaaGreatDoorJDf
import Derived.Test.YtoiebmeajhpgcaaGreatDoorJIm
import Derived.Deep.AppendLies
import Derived.Deep.RegionHeld3
import Derived.Deep.RegionLaw
set_option maxRecDepth 100000
set_option maxHeartbeats 16000000
set_option linter.all false
namespace Go.Proofs.YtoiebmeajhpgcaaGreatDoor
variable {w w':World}{r:(Int×(OA×Nat×LI)×(OA×Nat×LI))}{a:OA}{cap B k T B' n:Nat}{l:List (Int×LI×LI)}{s t:BA}{v:Value}{L:LI}
open Tryz
open Go.RowKit
def slV(s:OA×Nat×LI):Value:=.slice s.1 s.2.2.length s.2.1
def Q9(r:(Int×(OA×Nat×LI)×(OA×Nat×LI))):List Value:=[zi r.1,slV r.2.1,slV r.2.2]
def rwP(r:(Int×(OA×Nat×LI)×(OA×Nat×LI))):(Int×LI×LI):=(r.1,r.2.1.2.2,r.2.2.2.2)
theorem zf5 r:(Q9 r).length=3:=rfl
theorem Vv r:∀u∈Q9 r,u.oneCell'=true:=by
 intro u hu;unfold Q9 slV at hu;rcases zMc hu with rfl|hu
 ·rfl
 exact ve
theorem O8:(prog.info? 385).map (fun i=>(i.zero,i.size,i.bytes))=some (some (.agg #[zi 0,.slice none 0 0,.slice none 0 0]),3,56):=SQ
def RdC(w:World)(r:(Int×(OA×Nat×LI)×(OA×Nat×LI))):Prop:=Bs w r.2.1.1 r.2.1.2.1 r.2.1.2.2/\Bs w r.2.2.1 r.2.2.2.1 r.2.2.2.2
theorem RdC.below(h:RdC w r)(hb:zB w w'):RdC w' r:=⟨h.1.below hb,h.2.below hb⟩
def Chs(w:World)(a:OA)(cap:Nat)(l:List (Int×LI×LI)):Prop:=∃rs:List (Int×(OA×Nat×LI)×(OA×Nat×LI)),rs.map rwP=l/\fF Q9 3 w a cap rs/\∀r∈rs,RdC w r
theorem Chs.below(h:Chs w a cap l)(hb:zB w w'):Chs w' a cap l:=zng
theorem Chs.at(h:Chs w a cap l){i}(hi:i<l.length) :
  ∃b off a1 c1 a2 c2,a=some ⟨b,off,none⟩/\w.cell? ⟨b,off+i*3,none⟩=some (zi (l.getD i (0,[],[])).1)/\w.cell? ⟨b,off+i*3+1,none⟩=some (.slice a1 (l.getD i (0,[],[])).2.1.length c1)/\w.cell? ⟨b,off+i*3+2,none⟩=some (.slice a2 (l.getD i (0,[],[])).2.2.length c2)/\Bs w a1 c1 (l.getD i (0,[],[])).2.1/\Bs w a2 c2 (l.getD i (0,[],[])).2.2:=by
 obtain⟨rs,rfl,h2,h3⟩:=h;rw[zLm]at hi;have aG:rs≠[]:=by intro e;rw[e]at hi;simp at hi
 obtain⟨b,off,rfl,hc⟩:=h2.2.2.2 aG;have hx:=zLg hi;have hg:(rs.map rwP).getD i (0,[],[])=rwP rs[i]:=zdQ;rw[hg];obtain⟨Lm,ui⟩:=h3 rs[i] (qAf hi);exact⟨b,off,rs[i].2.1.1,rs[i].2.1.2.1,rs[i].2.2.1,rs[i].2.2.2.1,rfl,hc i _ hx 0 _ rfl,hc i _ hx 1 _ rfl,hc i _ hx 2 _ rfl,Lm,ui⟩
def U2(w:World)(B:Nat)(r:(Int×(OA×Nat×LI)×(OA×Nat×LI))):Prop:=(bZ r.2.1.2.2/\r.2.1.2.2.length<=140737488351232/\cW w B (slV r.2.1) r.2.1.2.2)/\bZ r.2.2.2.2/\r.2.2.2.2.length<=140737488351232/\cW w B (slV r.2.2) r.2.2.2.2
theorem cW.bs'{s}(h:cW w B (slV s) s.2.2)(hb:bZ s.2.2)(hl:s.2.2.length<=140737488351232):Bs w s.1 s.2.1 s.2.2:=by obtain⟨a,c,e,aH⟩:=h.bs hb hl;unfold slV at e;simp only[qAS,qBL]at e;rw[e.1,e.2];exact aH
theorem U2.rd(h:U2 w B r):RdC w r:=⟨h.1.2.2.bs' h.1.1 h.1.2.1,h.2.2.2.bs' h.2.1 h.2.2.1⟩
theorem U2.below(h:U2 w B r)(hb:zB w w'):U2 w' B r:=⟨⟨h.1.1,h.1.2.1,h.1.2.2.below hb⟩,h.2.1,h.2.2.1,h.2.2.2.below hb⟩
theorem cW.keep{α:Type}{enc:α->List Value}{k T:Nat}{w w':World}{B B':Nat}{v v':Value}{l:List α}{L:LI}(h:cX enc k T w B v l)(h':cW w B' v' L)(aG:T≠5)
  (hk:∀j,j<w.heap.size->v.ownBlock≠some j->w'.heap[j]?=w.heap[j]?):cW w' B' v' L:=by
 refine⟨h'.1,?_⟩;rcases h'.2 with h0|⟨g,cap,cur,rfl,hB,hc,h3⟩
 ·exact .inl h0
 ·refine .inr ⟨g,cap,cur,rfl,hB,(hk g (zAg hc).1 (fun e=>?_)).trans hc,h3⟩;rcases h.2 with ⟨rfl,_⟩ | ⟨g1,cap1,cur1,rfl,ia,eT,_⟩
  ·cases e
  ·simp[Value.ownBlock]at e;subst e;rw[eT]at hc;simp at hc;exact aG hc.2
theorem U2.keep{α:Type}{enc:α->List Value}{k T:Nat}{w w':World}{B B':Nat}{v:Value}{l:List α}{r:(Int×(OA×Nat×LI)×(OA×Nat×LI))}(h:cX enc k T w B v l)(h':U2 w B' r)(aG:T≠5)
  (hk:∀j,j<w.heap.size->v.ownBlock≠some j->w'.heap[j]?=w.heap[j]?):U2 w' B' r:=⟨⟨h'.1.1,h'.1.2.1,h'.1.2.2.keep h aG hk⟩,h'.2.1,h'.2.2.1,h'.2.2.2.keep h aG hk⟩
def DI(w:World)(B:Nat)(v:Value)(l:List (Int×LI×LI)):Prop:=∃rs:List (Int×(OA×Nat×LI)×(OA×Nat×LI)),rs.map rwP=l/\cX Q9 3 385 w B v rs/\∀r∈rs,U2 w B r
theorem DI.nil w B:DI w B (.slice none 0 0) []:=⟨[],rfl,cX.nil w B,fun r hr=>by cases hr⟩
theorem DI.below(h:DI w B v l)(hb:zB w w'):DI w' B v l:=zng
theorem DI.chs(h:DI w B v l)(hl:l.length<=8796093021952):∃a c,v=.slice a l.length c/\Chs w a c l:=by obtain⟨rs,rfl,h2,h3⟩:=h;rw[zLm]at hl ⊢;obtain⟨a,c,e,hs⟩:=h2.uM zf5 hl;exact⟨a,c,e,rs,rfl,hs,fun r hr=>(h3 r hr).rd⟩
theorem DI.grow{g:Nat}{rs}(hL:cX Q9 3 385 w B v rs)(h3:∀x∈rs,U2 w B x)(hr:U2 w B r)(hB:B<=w.heap.size)(az:w'.ownsRow B 385 3 (.slice (some (zp g)) n cap) (rs.length+1) (rs.flatMap Q9++Q9 r))(hg:w.grownBy w' v.ownBlock) :
  DI w' B (.slice (some (zp g)) n cap) (rs.map rwP++[rwP r])/\Below B w w':=by
 refine⟨⟨rs++[r],Sk,?_,?_⟩,zBr.grown hg hB (fun k hk=>hL.block k hk)⟩
 ·unfold cX;rw[zLa,qBY];simpa using az
 ·have hk:∀j,j<w.heap.size->v.ownBlock≠some j->w'.heap[j]?=w.heap[j]?:=fun j hj aG=>hg.block j hj (fun e=>aG e.symm)
  intro x hx;rcases zMa hx with hx|hx
  ·exact(h3 x hx).keep hL Si hk
  ·rw[zMs hx];exact hr.keep hL Si hk
theorem CS{ops}{o}{a}{K}{Q}{E:Prop}(oA:o.guard=none) s x(ho:o.op=.call { callee:=.builtin .append,args:=#[s,x],argTypes:=#[337,337]}) B v l(hs:a.eval s=v)(az:DI w B v l) g r(hx:a.eval x=.slice (zo g) 1 1)(hy:w.heap[g]?=some (.cells (Q9 r).toArray 385 (0,0)))(hr:U2 w B r)(hn:l.length<=100000)(hB:B<=w.heap.size)(h:∀g' cap w',DI w' B (.slice (zo g') (l.length+1) cap) (l++[rwP r])->Below B w w'->(∀j,j<w.heap.size->v.ownBlock≠some j->w'.heap[j]?=w.heap[j]?)->K (a.put o.dst (.slice (zo g') (l.length+1) cap)) w') :
  if Region.wanted o (yielded ops a.tmps)=true then Oper.wp prog o a w K Q else E:=by
 obtain⟨i0,dU,cO,cU,cV⟩:=qAO O8;obtain⟨rs,rfl,hL,h3⟩:=az;rw[zLm]at hn h;refine step_append_lies w oA s x 337 ho B 385 i0 _ 3 56 underlying337 dU cO cU cV rfl Si v rs.length (rs.flatMap Q9) hs hL (zp g) 1 1 (Q9 r) hx rfl (World.news_of_block hy) (Vv r) Si Ts Sg hB w.heap.size rfl ?_;intro g' cap w' sX oH _ _;obtain⟨h5,h6⟩:=DI.grow hL h3 hr hB sX oH;exact h g' cap w' h5 h6 (fun j hj aG=>oH.block j hj (fun e=>aG e.symm))
theorem cW.shape(h:cW w B v L):∃a c,v=.slice a L.length c:=by
 rcases h.2 with ⟨rfl,h0⟩|⟨g,cap,cur,rfl,_⟩
 ·exact⟨none,0,by rw[h0]⟩
 ·exact WW
theorem qn a cap l w(hb:Bs w a cap l) :
  zC 138 #[.slice a l.length cap] w fun e w'=>∃a' c',e=.returned (.slice a' l.length c')/\cW w' w.heap.size (.slice a' l.length c') l/\zB w w':=by
 obtain⟨i0,hi,cO,cU,cV⟩:=qAO dw;have hl:=hb.2.2.1;have q22:=fun w a n c n' c'=>Lib.run_eql_slice_nil w _ _ a n c n' c' underlying29
 cases a with
 | none =>
  have h0:l=[]:=by have h1:=hb.2.2.2.1 rfl;have h2:=hb.2.1;exact qAp Sg
  subst h0;go_enter func138,ntmps138
  go_wp2;go_ret;exact⟨none,0,rfl,cW.nil _ _,zBr⟩
 | some ad =>
  have HN:=ae (K3 (hb.below ((Below.refl _ w).alloc zNr (.cells #[] 5))));go_enter func138,ntmps138
  go_wp2_with (at_builtin;refine qBU _ rfl _ _ 29 rfl w.heap.size 5 i0 (.int .u8 0) 1 1 underlying29 hi cO cU cV rfl Si _ _ _ rfl (World.ownsRow_made w #[] 0 zNr (qAH _) Sk) ad l.length cap (l.map (Value.int .u8)) rfl Sk HN (ed l) Ts Sg Sk ?_)
  intro v' w1 az fE yH;have hv:cW w1 w.heap.size v' l:=az;obtain⟨a',c',rfl⟩:=hv.shape;have HO:=ae hv;have HG:=ae fE;clear az HN hv fE yH;go_wp2;go_ret;exact⟨a',c',rfl,HO,((Below.refl _ w).alloc zNr _).grown HG Sk zj5⟩
theorem UA a a' cap cap' l m w(aH:Bs w a cap l)(LA:Bs w a' cap' m)(Jj:l.length=m.length) :
  zC 289 #[.slice a l.length cap,.slice a' m.length cap'] w fun e w'=>∃i:Nat,e=.returned (zi i)/\cd (fun j=>(l.getD j 0 == m.getD j 0)) l.length i/\∃n,w'=w.drewN n:=by
 have hl:=aH.2.2.1;rw[<-Jj];have HB:=ae aH;have Ve:=ae LA;have HLM:=ae Jj;clear aH LA Jj;go_enter func289,ntmps289
 go_wp2;go_loopw [5] (fun i wr=>∃k n:Nat,k<=l.length/\i=zi k/\wr=w.drewN n/\∀j,j<k->(l.getD j 0 == m.getD j 0)=false) (fun i _=>l.length-(intOf i).toNat)
 case atStart=>exact zpP
 case round =>
  obtain⟨k,n,hk,rfl,rfl,bQ⟩:=hrel;have HA:=ae bQ;clear bQ;by_cases aB:k<l.length
  ·obtain⟨b,off,rfl,c0⟩:=HB.at k aB;obtain⟨b',off',rfl,c1⟩:=(aa Ve).at k (by have:=aa HLM;omega);have hd:decide ((k:Int)<(l.length:Int))=true:=qAE Sg;cases hx:(l.getD k 0 == m.getD k 0)
   ·have HX:=ae hx;have aG:¬l.getD k 0=m.getD k 0:=by simpa using hx
    generalize l.getD k 0=x at c0 aG;generalize m.getD k 0=y at c1 aG;go_wp2_with fail
    go_quiet (fail)
    go_wp2;go_roundw
    case rel=>exact⟨k+1,n+nq,Sg,Tc,rfl,cd.step HA HX⟩
    case measure=>exact Te
   ·have HX:=ae hx;have he:l.getD k 0=m.getD k 0:=by simpa using hx
    rw[he]at c0;generalize m.getD k 0=y at c0 c1;go_wp2_with fail
    go_quiet (fail)
    go_wp2;go_ret;exact⟨k,rfl,⟨Sg,HA,fun _=>HX⟩,n+nq,by rw[World.drewN_drewN]⟩
  ·obtain rfl:k=l.length:=by omega
   go_wp2_with fail
   go_quiet (fail)
   go_wp2;go_ret;exact⟨_,rfl,⟨zNr,HA,fun h=>absurd h (qBd _)⟩,n+nq,by rw[World.drewN_drewN]⟩
theorem cW.low(h:cW w B' v L)(hB:B<=B'):cW w B v L:=by
 refine⟨h.1,?_⟩;rcases h.2 with h0|⟨g,cap,cur,rfl,hb,h3⟩
 ·exact .inl h0
 ·exact .inr ⟨g,cap,cur,rfl,qAF hB hb,h3⟩
theorem zjD{z}{sA sB}{cA cB}{X Y}(hX:X.length=n)(hY:Y.length=k)(hn:n<=140737488351232/\k<=140737488351232)(h1:bZ X)(h2:bZ Y)(hA:cW w B (.slice sA n cA) X)(hB:cW w B (.slice sB k cB) Y):U2 w B (z,(sA,cA,X),(sB,cB,Y)):=by subst hX hY;exact⟨⟨h1,hn.1,hA⟩,h2,hn.2,hB⟩
theorem Qd a a' cap cap' l m w(hb:Bs w a cap l)(pI:Bs w a' cap' m)(Jj:l.length=m.length)(h64:l.length<=6400) :
  zC 239 #[.slice a l.length cap,.slice a' l.length cap'] w fun e w'=>∃v,e=zt #[v,bc 0]/\DI w' w.heap.size v (mY l m l.length)/\zB w w':=by
 have HS:=ae (IV a a' cap cap' l m w hb pI);rw[<-Jj,Nat.min_self]at HS;have HB:=ae hb;have Ve:=ae pI;have HLM:=ae Jj;clear hb pI Jj;obtain⟨N,hN⟩:∃N,l.length=N:=⟨_,rfl⟩;rw[hN]at h64 HS ⊢;have HN:=ae hN;clear hN;go_enter func239,ntmps239
 go_wp2_with fail
 refine HS.mono ?_;rintro e w1 ⟨p0,rfl,hf,ay⟩;have HF:=ae hf;have aQ:=ae ay;have Zw:=hf.1;clear hf ay HS;go_wp2_with fail
 go_loopw [6,7] (fun v at' wr=>∃p:Nat,p<=N/\at'=zi p/\DI wr w.heap.size v (mY l m p)/\zB w wr/\(p<N->l.getD p 0≠m.getD p 0/\(p=0\/l.getD (p-1) 0=m.getD (p-1) 0))) (fun _ at' _=>N-(intOf at').toNat)
 case atStart =>
  have tL:mY l m p0=[]:=by rw[Aw (i:=0) (qAH _) (fun j _ hj=>by simpa using HF.2.1 j hj)];rfl
  refine⟨p0,HF.1,rfl,by rw[tL];exact DI.nil _ _,aQ,fun h=>⟨by simpa using HF.2.2 h,?_⟩⟩;by_cases h0:p0=0
  ·exact .inl h0
  ·exact .inr (by simpa using HF.2.1 (p0-1) Sg)
 case round =>
  obtain⟨p,hp,rfl,yK,ai,hpp⟩:=hrel;by_cases aB:p<N
  ·obtain⟨hdp,hpz⟩:=hpp aB;have hNl:=aa HN;have hNm:=HLM.symm.trans hNl;have Hi:(l.drop p).length=N-p:=by rw[zLd,hNl]
   have hYl:(m.drop p).length=N-p:=by rw[zLd,hNm]
   have HD:Hid (∃a1 a2,(∀w',(Instr.slice 29 (.slice a N cap) (some (zi p)) none none).run prog w'=.ok (.slice a1 (N-p) (cap-p)) w')/\(∀w',(Instr.slice 29 (.slice a' N cap') (some (zi p)) none none).run prog w'=.ok (.slice a2 (N-p) (cap'-p)) w') /\
     zC 289 #[.slice a1 (N-p) (cap-p),.slice a2 (N-p) (cap'-p)] wr.drew fun e w'=>∃d:Nat,e=.returned (zi d)/\1<=d/\p+d<=N/\(∀j,p<=j->j<p+d->l.getD j 0≠m.getD j 0)/\(p+d<N->l.getD (p+d) 0=m.getD (p+d) 0)/\zB wr w'):=ae (by
    have rH:=HB.below ai;have zqy:=(aa Ve).below ai;obtain⟨a1,fQ,Ms⟩:=iy underlying29 aT rH p Sg;obtain⟨a2,gN,mh⟩:=iy underlying29 aT zqy p Sg;have hc:=UA a1 a2 _ _ (l.drop p) (m.drop p) wr.drew Ms mh (by rw[Hi,hYl]);rw[hNl]at fQ;rw[hNm]at gN;rw[Hi,hYl]at hc;refine⟨a1,a2,fQ,gN,hc.mono ?_⟩;rintro e w' ⟨d,rfl,hf,n,rfl⟩;have oA:∀ (z:LI) j,(z.drop p).getD j 0=z.getD (p+j) 0:=fun z j=>UU
    simp only[oA]at hf;have h1:1<=d:=by
     rcases qCl d with h0|h0
     ·subst h0;have:=hf.2.2 Sg;simp only[qAq,qCA]at this;exact absurd this hdp
     ·exact h0
    refine⟨d,rfl,h1,by have:=hf.1;omega,fun j h2 h3=>?_,fun h2=>?_,below_drewN ((Below.refl _ wr).drew) n⟩
    ·have:=hf.2.1 (j-p) Sg;dsimp only at this;rw[show p+(j-p)=j by omega]at this;exact V0
    ·have:=hf.2.2 Sg;simpa using this)
   obtain⟨a1,a2,fQ,gN,Gy⟩:=aa HD;have HCD:=ae Gy;have Vd:=ae yK;have aJ:=ae ai;have Zw:(0:Int)<=(p:Int):=Sg;have TX:(p:Int)<=(N:Int):=Sg;clear HD Gy yK ai hpp hdp;go_wp2_with fail
   go_region_with (go_at_call 289;refine HCD.mono ?_;rintro e w2 ⟨d,rfl,T9,Wl,hd3,hd4,aK⟩)
   have hwp:IntKind.i64.wrap ((p:Int)+(d:Int))=((p+d:Nat):Int):=by rw[qBn];omega
   rw[hwp];have Rs:=zTs aJ aK;have zkQ:=Vd.below aK;have hXd:((l.drop p).take d).length=d:=by rw[zLt,Hi];omega
   have hYd:((m.drop p).take d).length=d:=by rw[zLt,hYl];omega
   obtain⟨a3,xF,yE⟩:=dP underlying29 aT (HB.below Rs) p (p+d) Sg Sg;obtain⟨a4,Ll,hx4⟩:=dP underlying29 aT ((aa Ve).below Rs) p (p+d) Sg Sg;rw[Nat.add_sub_cancel_left,hNl]at xF;rw[Nat.add_sub_cancel_left,hNm]at Ll;rw[Nat.add_sub_cancel_left]at yE hx4;have Mg:=ae (WK HLM hpz d T9 Sg hd3);generalize hX:(l.drop p).take d=X at*;generalize hY:(m.drop p).take d=Y at*;have zn6:fw l m p d=((p:Int),X,Y):=by unfold fw;rw[hX,hY]
   rw[zn6]at Mg;have qt:=ae (fun w' (hb:zB w2 w')=>(qn a3 (cap-p) X w' (yE.below hb)).mono (R':=fun e w''=>∃a' c',e=.returned (.slice a' d c')/\cW w'' w.heap.size (.slice a' d c') X/\zB w2 w''/\zB w' w'') (fun e w'' ⟨a',c',he,ho,bD⟩=>⟨a',c',by rw[he,hXd],by rw[<-hXd];exact ho.low (qAF Rs.size hb.size),hb.trans (bD.mono hb.size),bD⟩));have RJ:=ae (fun w' (hb:zB w2 w')=>(qn a4 (cap'-p) Y w' (hx4.below hb)).mono (R':=fun e w''=>∃a' c',e=.returned (.slice a' d c')/\cW w'' w.heap.size (.slice a' d c') Y/\zB w2 w''/\zB w' w'') (fun e w'' ⟨a',c',he,ho,bD⟩=>⟨a',c',by rw[he,hYd],by rw[<-hYd];exact ho.low (qAF Rs.size hb.size),hb.trans (bD.mono hb.size),bD⟩));rw[hXd]at qt;rw[hYd]at RJ;generalize hE:p+d=e at*;obtain⟨va,vc,rfl,_⟩:=zkQ.chs (by have:=FM HLM p Sg;omega);have jE:(mY l m p).length<=100000:=by have:=FM HLM p Sg;omega
   have xK:=ae zkQ;have HBB:=ae Rs;have dr:=Rs.size;generalize hLL:mY l m p=LL at*;have hrw:∀s1 c1 s2 c2,Q9 ((p:Int),(s1,c1,X),(s2,c2,Y))=[zi p,.slice s1 d c1,.slice s2 d c2]:=fun s1 c1 s2 c2=>by unfold Q9 slV;rw[hXd,hYd]
   have oL:=ae hrw;have zaG:=ae yE.1;have xL:=ae hx4.1;have he1:(p:Int)<=(e:Int):=Sg;have he2:(e:Int)<=(N:Int):=Sg;clear yE hx4 zkQ Rs Vd HCD fQ gN hrw hwp hX hY zn6;go_wp2_with fail
   go_region_law (first
    | (refine CS Tq (.tmp 35) (.tmp 48) Tq w.heap.size _ LL Tq (xK.below (hbT.alloc hbT.size _)) wT.heap.size ((p:Int),(sA,cA,X),(sB,cB,Y)) Tq (by rw[aa oL];exact qAB _ _) (qx _) Sg (by have:=hbT.size;simp;omega) ?_;intro g9 c9 w9 zn5 ji hk9)
    | (go_simp;with_reducible refine(aa qt _ ?_).mono ?_;(exact(Below.refl _ w2).drew);rintro e3 w3 ⟨sA,cA,rfl,hoA,jz,zqA⟩;dsimp only)
    | (go_simp;with_reducible refine(aa RJ _ ?_).mono ?_;(exact jz);rintro e4 wT ⟨sB,cB,rfl,hoB,hbT,zoc⟩;dsimp only;have qx:∀o,U2 (wT.alloc o) w.heap.size ((p:Int),(sA,cA,X),(sB,cB,Y)):=(fun o=>(zjD hXd hYd ⟨Sg,Sg⟩ (aa zaG) (aa xL) (hoA.below zoc) hoB).below ((Below.refl _ wT).alloc zNr o))))
   all_goals
    have hL9:LL++[((p:Int),X,Y)]=mY l m e:=Mg.symm;have ziK:DI w9 w.heap.size (.slice (zo g9) (LL.length+1) c9) (mY l m e):=by rw[<-hL9];exact zn5
    have zhq:=HBB.trans ((hbT.mono dr).trans (((Below.refl _ wT).alloc zNr _).mono (qAF dr hbT.size) |>.trans ji));have HS:Hid (∃a5 a6,(∀w',(Instr.slice 29 (.slice a N cap) (some (zi e)) none none).run prog w'=.ok (.slice a5 (N-e) (cap-e)) w')/\(∀w',(Instr.slice 29 (.slice a' N cap') (some (zi e)) none none).run prog w'=.ok (.slice a6 (N-e) (cap'-e)) w') /\
      zC 288 #[.slice a5 (N-e) (cap-e),.slice a6 (N-e) (cap'-e)] w9.drew fun r w'=>∃i:Nat,r=.returned (zi i)/\cd (fun j=>(l.getD (e+j) 0 != m.getD (e+j) 0)) (N-e) i/\zB w9 w'):=ae (by
     obtain⟨a5,hs5,hx5⟩:=iy underlying29 aT (HB.below zhq) e Sg;obtain⟨a6,hs6,hx6⟩:=iy underlying29 aT ((aa Ve).below zhq) e Sg;have hc:=IV a5 a6 _ _ (l.drop e) (m.drop e) w9.drew hx5 hx6;rw[hNl]at hs5;rw[hNm]at hs6;rw[zLd,zLd,hNl,hNm,Nat.min_self]at hc;have oA:∀ (z:LI) j,(z.drop e).getD j 0=z.getD (e+j) 0:=fun z j=>UU
     simp only[oA]at hc;exact⟨a5,a6,hs5,hs6,hc.mono fun r w' ⟨i,h1,h2,h3⟩=>⟨i,h1,h2,(Below.refl _ w9).drew.trans h3⟩⟩)
    obtain⟨a5,a6,hs5,hs6,lC⟩:=aa HS;have HCS:=ae lC;have zrj:=ae ziK;have kE:=ae zhq;have he0:(0:Int)<=(e:Int):=Sg;go_wp2_with fail
    go_region_with (go_at_call 288;refine HCS.mono ?_;rintro r w10 ⟨q,rfl,hq,zoe⟩)
    have hwq:IntKind.i64.wrap ((e:Int)+(q:Int))=((e+q:Nat):Int):=by rw[qBn];have:=hq.1;omega
    rw[hwq];have HQ:=ae hq;have H6:=ae zoe;have CX:=hq.1;obtain⟨e2,zdE⟩:∃e2,e+q=e2:=⟨_,rfl⟩;rw[zdE];have JY:=ae zdE
    go_simp
    go_wp2;go_roundw
    case rel =>
     have zdE:=aa JY;subst zdE;refine⟨e+q,Sg,rfl,?_,kE.trans (H6.mono kE.size),fun h=>⟨?_,.inr ?_⟩⟩
     ·rw[Aw (i:=e) Sg (fun j h1 h2=>by have:=HQ.2.1 (j-e) Sg;dsimp only at this;rw[show e+(j-e)=j by omega]at this;simpa using this)];exact zrj.below H6
     ·simpa using HQ.2.2 Sg
     ·have h0:q≠0:=by intro h0;subst h0;have h1:=HQ.2.2 Sg;have h2:=hd4 Sg;simp only[qAq]at h1;rw[h2]at h1;simp at h1
      have:=HQ.2.1 (q-1) Sg;dsimp only at this;rw[show e+(q-1)=e+q-1 by omega]at this;exact V0
    case measure=>exact Te
  ·obtain rfl:p=N:=by omega
   obtain⟨va,vc,rfl,_⟩:=yK.chs (by have:=FM HLM l.length zNr;rw[aa HN]at this;omega);have HC:=ae yK;have pQ:=ae ai;go_wp2;go_ret2;exact⟨_,rfl,HC,pQ⟩
theorem str_inj(h:s.data.toList=t.data.toList):s=t:=by
 cases s with|mk x=>cases t with|mk y =>
 simp at h;rw[h]
theorem wJ:(s.toList == t.toList)=true ↔ s=t:=by
 constructor
 ·intro h;have:=eq_of_beq h;rw[qCu,qCu]at this;exact str_inj this
 ·intro h;rw[h];exact beq_self_eq_true _
theorem gC(h:s≠t):(s.toList == t.toList)=false:=by
 cases hq:(s.toList == t.toList)with
 | false=>rfl
 | true=>exact absurd (wJ.1 hq) h
theorem Ih{l m}(hl:bZ l)(hm:bZ m):strOf l=strOf m ↔ l=m:=by
 constructor
 ·intro h;rw[<-iN l hl,<-iN m hm,h]
 ·intro h;rw[h]
theorem CI a1 a2 c1 c2 l1 l2 w(h1:Bs w a1 c1 l1)(h2:Bs w a2 c2 l2) :
  zC 236 #[.slice a1 l1.length c1,.slice a2 l2.length c2] w fun r w'=>r=.returned (.bool (decide (l1=l2)))/\w=w':=by
 have fQ:=jX (P:=prog) (t:=29) (e:=9) underlying29 underlying5 underlying9 h1;have gN:=jX (P:=prog) (t:=29) (e:=9) underlying29 underlying5 underlying9 h2;have he:((strOf l1).toList == (strOf l2).toList)=decide (l1=l2):=by
  by_cases e:l1=l2
  ·rw[qAE e,e];exact wJ.2 rfl
  ·rw[qAG e];exact gC (fun h=>e ((Ih h1.1 h2.1).1 h))
 generalize decide (l1=l2)=r,strOf l1=s1,strOf l2=s2,l1.length=n1,l2.length=n2 at*;go_enter func236,ntmps236
 exact Tt
def chV(x:Int)(a1:OA)(n1 c1:Nat)(a2:OA)(n2 c2:Nat):Value:=.agg #[zi x,.slice a1 n1 c1,.slice a2 n2 c2]
theorem cW.row(h:cW w B (.slice a L.length cap) L)(aG:L≠[]):∃g cur,a=some (zp g)/\Row w B g cap cur L/\cap<=maxLen:=by
 rcases h.2 with ⟨_,h0⟩|⟨g,c,cur,hv,hb,h2,h3,h4,h5,h6⟩
 ·exact absurd (qAp h0) aG
 ·simp only[qAS,qBL]at hv;obtain⟨rfl,rfl⟩:=hv;exact⟨g,cur,rfl,⟨hb,h2,h3,Sg,zlq⟩,h4⟩
theorem wL(h:k<l.length):l.take (k+1)=l.take k++[l.getD k (0,[],[])]:=by
 rw[qAx h]
 congr 2
 exact XZ
