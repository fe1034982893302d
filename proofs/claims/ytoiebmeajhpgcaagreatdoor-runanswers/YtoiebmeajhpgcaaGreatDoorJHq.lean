import Derived.Test.YtoiebmeajhpgcaaGreatDoorJEy
import Derived.Test.YtoiebmeajhpgcaaGreatDoorJRtp
import Derived.Test.YtoiebmeajhpgcaaGreatDoorJCi
set_option maxRecDepth 100000
set_option maxHeartbeats 16000000
set_option linter.all false
namespace Go.Proofs.YtoiebmeajhpgcaaGreatDoor
open Tryz
open Go.RowKit
theorem By a cap l w(hs:fF xY 4 w a cap l)(hl:l.length<=40) :
  zC 129 #[.slice a l.length cap] w (zr (.tuple #[zi (if 40<p7 l then 0 else p7 l),bc (if 40<p7 l then 4 else 0)]) fun w'=>zB w w'):=by
 have ma:=hs.2.2.1;have HS:=ae hs;generalize hA:(if 40<p7 l then (0:Int)else p7 l)=RA;generalize hE:bc (if 40<p7 l then 4 else 0)=RE;have HA:=ae hA;have HE:=ae hE;go_enter func129,ntmps129
 go_wp2_with fail
 go_loopw [4,9] (fun hv iv wr=>∃k:Nat,k<=l.length/\iv=zi k/\hv=zi (p7 (l.take k))/\zB w wr) (fun _ iv _=>l.length-(intOf iv).toNat)
 case atStart=>exact zl0
 case round =>
  obtain⟨k,hk,rfl,rfl,ai⟩:=hrel;have iT:=zgS (l.take k);by_cases aB:k<l.length
  ·have aG:l≠[]:=by intro e;rw[e]at aB;simp at aB
   obtain⟨b1,o1,rfl,eT⟩:=(HS.below ai).2.2.2 aG;obtain⟨f,hf⟩:∃f,l[k]?=some f:=⟨l[k],zLg aB⟩;obtain⟨q0,q1,q2,q3⟩:=fF.nE (cap:=0) eT hf;have HT:=ae (YZ hf);have aJ:=ae ai;have tP:(l.take k).length<=40:=Tb;obtain⟨x,y,z,t⟩:=f;dsimp only at*;generalize p7 (l.take k)=H at*;by_cases he:x=H
   ·subst he;go_wp2;go_roundw
    case rel=>exact⟨k+1,Sg,Tc,by rw[aa HT,zy rfl],aJ.alloc aJ.size _⟩
    case measure=>exact Te
   ·have he':(x == H)=false:=by rw[qAU];exact he
    go_wp2;go_roundw
    case rel=>exact⟨k+1,Sg,Tc,by rw[aa HT,zn he],aJ.alloc aJ.size _⟩
    case measure=>exact Te
  ·obtain rfl:k=l.length:=by omega
   rw[qAk]at iT ⊢;have aJ:=ae ai;generalize p7 l=H at*;by_cases hH:40<H
   ·go_wp2;go_ret2;have h1:=aa HA;have h2:=aa HE;rw[zy hH]at h1 h2;exact⟨zfp,aJ⟩
   ·go_wp2;go_ret2;have h1:=aa HA;have h2:=aa HE;rw[zn Sg]at h1 h2;exact⟨zfp,aJ⟩
theorem E7:(prog.info? 122).map (fun i=>(i.zero,i.size,i.bytes))=some (some (.agg #[zi 0,zi 0]),2,16):=SQ
theorem LR e:∀u∈lG e,u.oneCell'=true:=zpT
theorem Vs{l:List (Int×I3)}{k}{e}(h:l[k]?=some e):(l.map jL).take (k+1)=(l.map jL).take k++[(e.2.1-288,e.2.2.1)]:=zjj
theorem Nx(n:Nat) a cap l size w(hs:fF xY 4 w a cap l)(hl:l.length<=40)(hn:288<=n/\n<=6400)(fu:∀e∈l,0<=e.2.1/\e.2.1<=65535/\0<=e.2.2.1/\e.2.2.1<=65535) :
  zC 130 #[zi n,.slice a l.length cap,zi size] w (zr (.tuple #[zi (if iG ((n:Int)-288) (l.map jL) size=0 then 288+ic ((n:Int)-288) (l.map jL) size else 0),bc (iG ((n:Int)-288) (l.map jL) size)]) fun w'=>zB w w'):=by
 obtain⟨i0,dU,cO,cU,cV⟩:=qAO E7;have ma:=hs.2.2.1;have HS:=ae hs;have AY:=ae fu;generalize hA:(if iG ((n:Int)-288) (l.map jL) size=0 then 288+ic ((n:Int)-288) (l.map jL) size else 0)=RA;generalize hE:bc (iG ((n:Int)-288) (l.map jL) size)=RE;have HA:=ae hA;have HE:=ae hE;go_enter func130,ntmps130
 go_wp2_with fail
 go_loopw [8,15] (fun v iv wr=>∃k:Nat,k<=l.length/\iv=zi k/\cX lG 2 122 wr w.heap.size v ((l.map jL).take k)/\zB w wr) (fun _ iv _=>l.length-(intOf iv).toNat)
 case atStart=>exact Yq
 case round =>
  obtain⟨k,hk,rfl,az,ai⟩:=hrel;obtain⟨va,vm,vc,rfl⟩:=az.shape;by_cases aB:k<l.length
  ·have aG:l≠[]:=by intro e;rw[e]at aB;simp at aB
   obtain⟨b1,o1,rfl,eT⟩:=(HS.below ai).2.2.2 aG;obtain⟨f,hf⟩:∃f,l[k]?=some f:=⟨l[k],zLg aB⟩;obtain⟨q0,q1,q2,q3⟩:=fF.nE (cap:=0) eT hf;have HT:=ae (Vs hf);have Rp:=AY f (qAs hf);have tM:((l.map jL).take k).length<=40:=Tb;obtain⟨x,y,z,t⟩:=f;dsimp only at*;have ia:=ai.alloc ai.size (.cells #[zi x,zi y,zi z,zi t] 124);have dF:=ae (ia.alloc ia.size (.cells #[zi (y-288),zi z] 122));have oE:=ae ((az.below (zBr.alloc zNr (.cells #[zi x,zi y,zi z,zi t] 124))).below (zBr.alloc zNr (.cells #[zi (y-288),zi z] 122)));have kq:=ae zmn;exact xb
  ·obtain rfl:k=l.length:=by omega
   rw[qAP Sk]at az;have ho:oe wr w.heap.size (.slice va vm vc) (l.map jL):=az;obtain⟨a2,c2,e2,znY⟩:=ho.Z9 (fun e he=>by obtain⟨f,hf,rfl⟩:=qAT.1 he;have:=AY f hf;unfold uc jL;dsimp only;omega) Tb;simp only[qAS]at e2;obtain⟨rfl,rfl,rfl⟩:=e2;have HF:=ae (zhE ((n:Int)-288) va vc (l.map jL) size wr znY);have aJ:=ae ai;have tM:(l.map jL).length<=40:=Tb;have hfa:0<=ic ((n:Int)-288) (l.map jL) size/\ic ((n:Int)-288) (l.map jL) size<=6400:=by
    unfold ic;by_cases h0:iG ((n:Int)-288) (l.map jL) size=0
    ·rw[zy h0];unfold iG at h0;by_cases h1:nY ((n:Int)-288) (l.map jL)=0
     ·have h2:=ez h1;rw[zn (fun h=>h h1)]at h0;by_cases h3:size<1\/6400<size
      ·rw[zy h3]at h0;exact Y2
      ·rw[zn h3]at h0;by_cases h4:(fN size (aO ((n:Int)-288) (l.map jL))).2=0
       ·rw[zy h4]at h0;exact Y2
       ·rcases wg (size:=size) Sg (fun r hr=>(h2.1 r hr).2.1)with ⟨h5,_⟩ | ⟨_,h6,_⟩
        ·exact absurd h5 h4
        ·have:=h2.1 _ h6;omega
     ·rw[zy h1]at h0;exact absurd h0 h1
    ·rw[zn h0];omega
   clear az ho znY ai;generalize ic ((n:Int)-288) (l.map jL) size=FA,iG ((n:Int)-288) (l.map jL) size=FE,(l.map jL).length=M at*;go_wp2_with fail
   refine HF.m ?_;intro w1 ay;have aQ:=zTr aJ ay;by_cases h0:FE=0
   ·subst h0;rw[aC];go_wp2;go_ret2;have h1:=aa HA;have h2:=aa HE;rw[zy trivial]at h1;exact⟨zfp,aQ⟩
   ·rw[aF _ h0];go_wp2;go_ret2;have h1:=aa HA;have h2:=aa HE;rw[zn h0]at h1;rw[aF _ h0]at h2;exact⟨zfp,aQ⟩
section
open Go.Sort
theorem JB(g c N x n:Nat) w(hN:N<=140737488351232)(hp:x+n<=N)(hn:N<=c)(aB:x<c) :
  zC 132 #[.slice (zo g) N c,.agg #[zi x,zi n]] w (zr (.slice (some (zw g x)) n (c-x)) fun w'=>zB w w'):=by
 have fQ:=fun w'=>FP (P:=prog) (t:=29) underlying29 aT g c N x n hp hn aB w'
 go_enter func132,ntmps132
 exact zdm
theorem ZR g c L x n w(aH:Bs w (zo g) c L)(hx:x+n<=L.length) :
  ∃q,(∀w',(Instr.slice 29 (.slice (zo g) L.length c) (some (zi x)) (some (zi ((x:Int)+n))) none).run prog w'=.ok (.slice q n (c-x)) w')/\Bs w q (c-x) ((L.drop x).take n)/\(0<n->q=some (zw g x)):=by
 rcases qCl n with rfl|hn
 ·obtain⟨a1,fQ,ay⟩:=dP (P:=prog) (t:=29) underlying29 aT aH x (x+0) Sg hx;rw[show x+0-x=0 by omega]at fQ ay;exact⟨a1,fun w'=>by have:=fQ w';rw[show((x+0:Nat):Int)=(x:Int)+((0:Nat):Int) by omega]at this;exact this,ay,fun h=>absurd h (qBd _)⟩
 ·have hc:=aH.2.1;refine⟨some (zw g x),fun w'=>FP (P:=prog) (t:=29) underlying29 aT g c L.length x n hx hc Sg w',?_,fun _=>rfl⟩;have:=(aH.drop x Sg).take n;rw[zn Sg]at this;simpa[addr_add]using this
theorem zhv a(cap N:Nat) x n a1(hN:N<=140737488351232)(hx:x+n<=N)(hs:∀w',(Instr.slice 29 (.slice a N cap) (some (zi (x:Int))) (some (zi ((x:Int)+n))) none).run prog w'=.ok (.slice a1 n (cap-x)) w') w :
  zC 132 #[.slice a N cap,.agg #[zi (x:Int),zi (n:Int)]] w (zr (.slice a1 n (cap-x)) fun w'=>∃q os,w'=grow (w.drewN q) os):=by
 go_enter func132,ntmps132
 exact zi1
end
theorem QI p g c B L n t w(hh:Hp w B p g c L)(eQ:n<1\/1000<n\/t<0\/15<t) :
  zC 89 #[zq p,zi n,zi t] w (zr (.tuple #[zi 0,bc 1]) fun w'=>w=w'):=by
 rw[aF 1 Si];by_cases c1:n<1
 ·exact Ia
 ·by_cases c2:1000<n
  ·exact Ia
  ·by_cases c3:t<0
   ·exact Ia
   ·have c4:15<t:=by omega
    exact Ia
theorem UZ p g c B L n t w(hh:Hp w B p g c L)(hr:¬(n<1\/1000<n\/t<0\/15<t))(ij:eA L=40) :
  zC 89 #[zq p,zi n,zi t] w (zr (.tuple #[zi 0,bc 4]) fun w'=>zB w w'):=by
 have HE:=ae (mQ (zo g) c L w hh.bs hh.bC.gR);have HLW:=ae (fun a cap W(hs:fF xY 4 W a cap (entsK L 40))=>By a cap (entsK L 40) W hs (dt L 40));rw[EV,ij,zy Si,zy Si]at HLW;have hel:=dt L 40;have kS:=hh.cell;have hl:=hh.len;rw[aF 4 Si]at HLW ⊢;have r1:¬n<1:=Sg;generalize entsK L 40=EN,L.length=M at*;go_enter func89,ntmps89
 go_wp2_with fail
 refine HE.mono ?_;rintro e w1 ⟨v1,rfl,eV,ay⟩;obtain⟨a1,c1,rfl,jA⟩:=eV.uM pd Sg;have QY:=ae (HLW a1 c1 w1 jA);have aQ:=ae ay;go_wp2_with fail
 refine QY.m ?_;exact zpn
theorem U0 p g c B L n t w(hh:Hp w B p g c L)(hr:¬(n<1\/1000<n\/t<0\/15<t))(ij:eA L≠40)(fc:iG ((L.length:Int)-288) (aA L) n≠0) :
  zC 89 #[zq p,zi n,zi t] w (zr (.tuple #[zi 0,bc (iG ((L.length:Int)-288) (aA L) n)]) fun w'=>zB w w'):=by
 have HE:=ae (mQ (zo g) c L w hh.bs hh.bC.gR);have HLW:=ae (fun(a:OA) (cap:Nat) (W:World) (hs:fF xY 4 W a cap (entsK L 40))=>By a cap (entsK L 40) W hs (dt L 40));have h40:=xe L;rw[EV,zn Sg,zn Sg,aC]at HLW;have QQ:=ae (fun(a:OA) (cap:Nat) (W:World) (hs:fF xY 4 W a cap (entsK L 40))=>Nx L.length a cap (entsK L 40) n W hs (dt L 40) hh.bC.len (Dz hh.bC));change Hid (∀ (a:OA) (cap:Nat) (W:World),fF xY 4 W a cap (entsK L 40)->zC 130 #[zi L.length,.slice a (entsK L 40).length cap,zi n] W (zr (.tuple #[zi (if iG ((L.length:Int)-288) (aA L) n=0 then 288+ic ((L.length:Int)-288) (aA L) n else 0),bc (iG ((L.length:Int)-288) (aA L) n)]) fun w'=>zB W w'))at QQ;rw[zn fc,aF _ fc]at QQ;rw[aF _ fc];have hel:=dt L 40;have HH:=ae hh;have kS:=hh.cell;have hl:=hh.len;have r1:¬n<1:=Sg;generalize iG ((L.length:Int)-288) (aA L) n=FE,eA L=LH,entsK L 40=EN at*;go_enter func89,ntmps89
 go_wp2_with fail
 refine HE.mono ?_;rintro e w1 ⟨v1,rfl,eV,ay⟩;obtain⟨a1,c1,rfl,jA⟩:=eV.uM pd Sg;have QY:=ae (HLW a1 c1 w1 jA);have QN:=ae jA;have aQ:=ae ay;go_wp2_with fail
 refine QY.m ?_;intro w2 aK;have dr:=zTs aQ aK;have kS:=(HH.below dr).cell;have ze3:=ae (QQ a1 c1 w2 (QN.below aK));have bz:=ae dr;go_wp2_with fail
 refine ze3.m ?_;intro w3 bD;have dF:=zTr bz bD;go_wp2;go_ret2;exact⟨rfl,dF⟩
theorem zaD p g c B L n t w(hh:Hp w B p g c L)(hB:B<=w.heap.size)(h0:kX L n t=0) :
  zC 89 #[zq p,zi n,zi t] w (zr (.tuple #[zi (uu L n t),.nilIface]) fun w'=>∃g' c',Hp w' B p g' c' (iq L n t)/\au (bA p g) (bA p g') w w'):=by
 obtain⟨x,N,hk⟩:=sI hh.bC h0;have h40:=hk.low;have znR:=hk.lay hh.bC h0;have Ff:=hk.put hh.bC;have znU:=hk.dY h0;have Fl:=AL hh.bC n t;have zn7:=DE hh.B2 n t;have Fj:=(hk.keep hh.bC h0).2.1;have HE:=ae (mQ (zo g) c L w hh.bs hh.bC.gR);have HLW:=ae (fun(a:OA) (cap:Nat) (W:World) (hs:fF xY 4 W a cap (entsK L 40))=>By a cap (entsK L 40) W hs (dt L 40));rw[EV,zn Sg,zn Sg,aC]at HLW;have QQ:=ae (fun(a:OA) (cap:Nat) (W:World) (hs:fF xY 4 W a cap (entsK L 40))=>Nx L.length a cap (entsK L 40) n W hs (dt L 40) hh.bC.len (Dz hh.bC));change Hid (∀ (a:OA) (cap:Nat) (W:World),fF xY 4 W a cap (entsK L 40)->zC 130 #[zi L.length,.slice a (entsK L 40).length cap,zi n] W (zr (.tuple #[zi (if iG ((L.length:Int)-288) (aA L) n=0 then 288+ic ((L.length:Int)-288) (aA L) n else 0),bc (iG ((L.length:Int)-288) (aA L) n)]) fun w'=>zB W w'))at QQ;rw[hk.fit,zy rfl,aC,hk.eqx]at QQ;have hel:=dt L 40;have hPl:(cR L ((eA L:Int)+1,(x:Int),(N:Int),t)).length=L.length:=nP Ff;have xJ:Hid (∀W:World,zB w W->zC 131 #[.slice (zo g) L.length c,.agg #[zi ((eA L:Int)+1),zi x,zi N,zi t]] W fun e w'=>∃g4 c4 cur4,e=zt #[.slice (zo g4) L.length c4,.nilIface]/\Row w' w.heap.size g4 c4 cur4 (cR L ((eA L:Int)+1,(x:Int),(N:Int),t))/\zB w w'/\zB W w'):=ae (fun W hW=>by
  refine(Pf (zo g) c L ((eA L:Int)+1) x N t W (hh.bs.below hW) Ff).mono fun e w' ⟨g4,c4,cur4,he,rG,eU⟩=>⟨g4,c4,cur4,?_,?_,hW.trans (eU.mono hW.size),eU⟩
  ·rw[he];have hq:splice L (bT ((eA L:Int)+1)) (fg ((eA L:Int)+1,(x:Int),(N:Int),t))=cR L ((eA L:Int)+1,(x:Int),(N:Int),t):=by unfold cR;rw[zy Ff]
   rw[hq,hPl]
  ·have hq:splice L (bT ((eA L:Int)+1)) (fg ((eA L:Int)+1,(x:Int),(N:Int),t))=cR L ((eA L:Int)+1,(x:Int),(N:Int),t):=by unfold cR;rw[zy Ff]
   rw[hq]at rG;exact rG.low hW.size)
 have Ms:=hk.x1;have mh:=hk.x2;have Gx:=hk.n1;have xj:=hk.n2;have mS:=hk.t1;have gw:=hk.t2;have hnN:=hk.eqn;subst hnN;have HH:=ae hh;have kS:=hh.cell;have hl:=hh.len;have zic:=ae znR;have HF1:=ae Fl;have zaG:=ae zn7;have zoO:=ae Fj;rw[znU.2];clear hh hk Ff znR Fl zn7 Fj znU h0;have r1:¬(N:Int)<1:=Sg;have r2:¬1000<(N:Int):=Sg;have r3:¬t<0:=Sg;have r4:¬15<t:=Sg;generalize iq L N t=AB at*;generalize cR L ((eA L:Int)+1,(x:Int),(N:Int),t)=P at*;generalize eA L=LH at*;generalize entsK L 40=EN at*;generalize hM:L.length=M at*;go_enter func89,ntmps89
 go_wp2_with fail
 refine HE.mono ?_;rintro e w1 ⟨v1,rfl,eV,ay⟩;obtain⟨a1,c1,rfl,jA⟩:=eV.uM pd Sg;have QY:=ae (HLW a1 c1 w1 jA);have QN:=ae jA;have aQ:=ae ay;clear eV jA ay HE HLW kS;go_wp2_with fail
 refine QY.m ?_;intro w2 aK;have dr:=zTs aQ aK;have kS:=(HH.below dr).cell;rw[hM]at kS;have ze3:=ae (QQ a1 c1 w2 (QN.below aK));have bz:=ae dr;clear aK dr QY aQ QQ QN;go_wp2_with fail
 refine ze3.m ?_;intro w3 bD;have mr:=zTs bz bD;have zk7:zB w (w3.alloc (.cells #[zi x,zi N] 122)):=mr.alloc mr.size _;have Lz:=(HH.below zk7).cell;rw[hM]at Lz;have hex:(w3.alloc (.cells #[zi x,zi N] 122)).heap[w3.heap.size]?=some (.cells #[zi x,zi N] 122 (0,0)):=qAB w3 _;have CW:(w3.alloc (.cells #[zi x,zi N] 122)).cell? (zp w3.heap.size)=some (zi x):=by rw[qAD _ _ _ _ _ _ hex];rfl
 have zkl:(w3.alloc (.cells #[zi x,zi N] 122)).cell? (zw w3.heap.size 1)=some (zi N):=by rw[qAD _ _ _ _ _ _ hex];rfl
 have ziX:Hid (zC 131 #[.slice (zo g) M c,.agg #[zi ((LH:Int)+1),zi x,zi N,zi t]] (w3.alloc (.cells #[zi x,zi N] 122)).drew fun e w'=>∃g4 c4 cur4,e=zt #[.slice (zo g4) M c4,.nilIface]/\Row w' w.heap.size g4 c4 cur4 P/\zB w w'/\w'.cell? (zp p)=some (.slice (zo g) M c)/\w'.cell? (zp w3.heap.size)=some (zi x)/\w'.cell? (zw w3.heap.size 1)=some (zi N)):=ae (by
  refine(xJ _ (bF zk7)).mono fun e w' ⟨g4,c4,cur4,he,hr,hb,aK⟩=>⟨g4,c4,cur4,he,hr,hb,?_,?_,?_⟩
  ·exact(aK.cell (p:=(zp p)) (qAA Lz)).trans Lz
  ·exact(aK.cell (p:=⟨w3.heap.size,0,none⟩) (qAA CW)).trans CW
  ·exact(aK.cell (p:=⟨w3.heap.size,1,none⟩) (qAA zkl)).trans zkl)
 clear bD ze3 bz kS xJ hex mr zk7;go_wp2_with fail
 generalize w3.alloc (.cells #[zi x,zi N] 122)=wx at*;go_region_held3 (fun w'=>w'.cell? (zp p)=some (.slice (zo g) M c)/\w'.cell? (zp w3.heap.size)=some (zi x)/\w'.cell? (zw w3.heap.size 1)=some (zi N)) (first | go_keep | (go_split_ands;refine⟨?_,?_,?_⟩ <;> go_keep))
  ((go_at_call 131;refine ziX.mono ?_;rintro e w4 ⟨g4,c4,cur4,rfl,rG,eU,r0,r1,r2⟩))
 have hc4:=rG.2.2.1;rw[hPl]at hc4;have ziY:=ae (fun W=>JB g4 c4 M x N W Sg mh hc4 Sg);have HR4:=ae rG;have fh:=ae eU;clear rG eU ziX Lz CW zkl;go_wp2_with fail
 refine(ziY _).m ?_;intro w5 il;have uP:=HR4.below il;have LF:=zTs fh il;have zst:∀ty,(Builtin.clear_ #[29] ty #[.slice (some (zw g4 x)) N (c4-x)]).run prog w5=.ok (.tuple #[]) (lB w5 g4 cur4 x (af N)):=fun ty=>KA w5 _ ty underlying29 zfr w.heap.size g4 x N _ c4 cur4 P Sg Sg uP
 have hr6:=sf uP (show x+(af N).length<=_ by rw[ag];omega);rw[aa zic]at hr6;have hB6:=qS (cur:=cur4) (l:=af N) (off:=x) LF uP.1;have hp6:(lB w5 g4 cur4 x (af N)).heap[p]?=some (.cells #[.slice (zo g) L.length c] 239 (0,0)):=(hB6.block p HH.Ob).trans HH.qq;have zsu:(lB w5 g4 cur4 x (af N)).cell? (zp p)=some (.slice (zo g) L.length c):=by rw[qAD _ _ _ _ _ _ hp6];rfl
 have zsm:(lB w5 g4 cur4 x (af N)).frozen? (zp p)=false:=qAd _ _ 0 _ _ hp6;have xI:=ae (HH.set hB6 hr6 zaG HF1 hB);rw[aa zoO]at xI;clear uP hr6 LF hB6 hp6 il HR4 fh ziY r0 r1 r2;generalize lB w5 g4 cur4 x (af N)=w6 at*;go_wp2;go_ret2;exact⟨rfl,g4,c4,xI⟩
theorem Uk p g c B L n t w(hh:Hp w B p g c L)(hB:B<=w.heap.size) :
  zC 89 #[zq p,zi n,zi t] w (zr (.tuple #[zi (uu L n t),bc (kX L n t)]) fun w'=>∃g' c',Hp w' B p g' c' (iq L n t)/\au (bA p g) (bA p g') w w'):=by
 by_cases h0:kX L n t=0
 ·rw[h0,aC];exact zaD p g c B L n t w hh hB h0
 ·have e1:uu L n t=0:=by unfold uu;rw[zn h0]
  have e2:iq L n t=L:=by unfold iq;rw[zn h0]
  rw[e1,e2];by_cases h1:n<1\/1000<n\/t<0\/15<t
  ·have e3:kX L n t=1:=by unfold kX;rw[zy h1]
   rw[e3];exact(QI p g c B L n t w hh h1).mono fun e w' ⟨he,hw⟩=>⟨he,g,c,by rw[<-hw];exact hh,by rw[<-hw];exact au.refl _ _⟩
  ·by_cases h2:eA L=40
   ·have e3:kX L n t=4:=by unfold kX;rw[zn h1,zy h2]
    rw[e3];exact(UZ p g c B L n t w hh h1 h2).mono fun e w' ⟨he,hb⟩=>⟨he,g,c,hh.below hb,au.aI hb⟩
   ·have e3:kX L n t=iG ((L.length:Int)-288) (aA L) n:=by unfold kX;rw[zn h1,zn h2]
    rw[e3]at h0 ⊢;exact(U0 p g c B L n t w hh h1 h2 h0).mono fun e w' ⟨he,hb⟩=>⟨he,g,c,hh.below hb,au.aI hb⟩
section
open Go.Sort
theorem Hp.nE{w}{B p g c}{L}(hh:Hp w B p g c L){h}(hc:aX L h=0):288<=(ao L h).2.1/\1<=(ao L h).2.2.1/\(ao L h).2.2.1<=1000/\(ao L h).2.1+(ao L h).2.2.1<=L.length:=by obtain⟨h1,h2,h3⟩:=aV.1 hc;have h4:=aN.1 h2;have:=hh.bC.nE h4.1 h4.2 h3;omega
theorem JA p g c B L h x n w(hh:Hp w B p g c L)(hc:aX L h≠0) :
  zC 137 #[zq p,zi h,zi x,zi n] w (zr (.tuple #[.slice none 0 0,bc (aX L h)]) fun w'=>zB w w'):=by
 have HG:=ae (V9 (zo g) c L h w hh.bs hc);rw[aF _ hc]at HG ⊢;have kS:=hh.cell;have hl:=hh.len;unfold kV zed at HG;dsimp only at HG;generalize aX L h=X,L.length=N at*;exact px
theorem Ah p g c B L h x n w(hh:Hp w B p g c L)(hc:aX L h=0)(hx:x<=9223372036854775807)(hn:n<=9223372036854775807)(eQ:x<0\/n<0\/(ao L h).2.2.1<x+n) :
  zC 137 #[zq p,zi h,zi x,zi n] w (zr (.tuple #[.slice none 0 0,bc 3]) fun w'=>zB w w'):=by
 have HG:=ae (z8 (zo g) c L h w hh.bs hc);rw[aF _ Si];have kS:=hh.cell;have hl:=hh.len;have gj:=hh.nE hc;generalize ao L h=E at*;obtain⟨e1,e2,e3,e4⟩:=E;unfold kV at HG;dsimp only at HG gj eQ;generalize L.length=N at*;by_cases c1:x<0
 ·exact px
 ·by_cases c2:n<0
  ·exact px
  ·have c3:e3-x<n:=by omega
   have c4:wrap64 (e3-x)=e3-x:=by unfold wrap64;omega
   exact px
theorem Fq p g c B L h(x n:Nat) w(hh:Hp w B p g c L)(hc:aX L h=0)(hn:(x:Int)+n<=(ao L h).2.2.1) :
  zC 137 #[zq p,zi h,zi x,zi n] w fun e w'=>∃q c',e=zt #[.slice q n c',.nilIface]/\Bs w' q c' ((L.drop ((ao L h).2.1.toNat+x)).take n)/\(0<n->q=some ⟨g,(ao L h).2.1.toNat+x,none⟩)/\zB w w':=by
 have mixed:prog.follows .mixedOrders=true:=SQ;have HG:=ae (z8 (zo g) c L h w hh.bs hc);have kS:=hh.cell;have hl:=hh.len;have gj:=hh.nE hc;obtain⟨q,hs,hbq,hq⟩:=ZR g c L ((ao L h).2.1.toNat+x) n w hh.bs Sg;generalize ao L h=E at*;obtain⟨e1,e2,e3,e4⟩:=E;unfold kV at HG;dsimp only at HG gj hn hs hbq hq ⊢;obtain⟨X,rfl⟩:=qAN (show 0<=e2 by omega);obtain⟨Y,rfl⟩:=qAN (show 0<=e3 by omega);rw[zTn]at*;have HP:=ae (fun W=>zhv (zo g) c L.length (X+x) n q Sg Sg hs W);rw[show((X+x:Nat):Int)=IntKind.i64.wrap ((X:Int)+x) by rw[qBn];omega]at HP;have HH:=ae hh;have HQ:=ae hq;have HBQ:=ae hbq;generalize hR:(L.drop (X+x)).take n=R at*;generalize hN:L.length=N,c-(X+x)=c' at*;obtain⟨n1,n2,n3,n4⟩:=gj;obtain⟨m1,m2,m3⟩:=hl;go_enter func137,ntmps137
 go_wp2_with fail
 refine HG.m ?_;intro w1 ay;have ia:zB w (w1.alloc (.cells #[zi e1,zi X,zi Y,zi e4] 124)):=ay.alloc ay.size _;have zdH:=(HH.below ia).cell;rw[hN]at zdH;have kR:=qB.new w1 (e1,(X:Int),(Y:Int),e4);have k0:=fun n os=>cell_grown (HH.below ia).Ob zdH n os
 have k1:=fun n os=>cell_grown kR.lt kR.cells.2.1 n os
 have zqw:=kR.cells.2.2.1;have aQ:=ae ia;clear ay ia HG kS HH zdH kR;dsimp only at k1 zqw;go_wp2_with fail
 generalize w1.alloc (.cells #[zi e1,zi X,zi Y,zi e4] 124)=W at*;go_quiet_grown ((go_at_call 132;with_reducible exact Calls.grown_of (aa HP _)))
 go_wp2;go_ret2;have hb:zB w (grow (W.drewN nq) osq):=zTs aQ mT;exact⟨q,c',rfl,HBQ.below hb,HQ,hb⟩
theorem PK(p g c B:Nat)(L:LI) h x n E w(hE:E≠0)(hpc:zC 137 #[zq p,zi h,zi x,zi n] w (zr (.tuple #[.slice none 0 0,bc E]) fun w'=>zB w w')) :
  zC 93 #[zq p,zi h,zi x,zi n] w (zr (.tuple #[.slice none 0 0,bc E]) fun w'=>zB w w'):=by
 have HP:=ae hpc;rw[aF _ hE]at HP ⊢;go_enter func93,ntmps93
 go_wp2_with fail
 refine HP.m ?_;intro w1 ay;have HB:=ae ay;go_wp2;go_ret2;exact zpQ
theorem Jz p g c B L h(x n:Nat) w(hh:Hp w B p g c L)(hc:aX L h=0)(hn:(x:Int)+n<=(ao L h).2.2.1) :
  zC 93 #[zq p,zi h,zi x,zi n] w fun e w'=>∃a' c',e=zt #[.slice a' n c',.nilIface]/\cW w' w.heap.size (.slice a' n c') ((L.drop ((ao L h).2.1.toNat+x)).take n)/\zB w w':=by
 have HP:=ae (Fq p g c B L h x n w hh hc hn);have gj:=hh.nE hc;have hl:=hh.len;have hRl:((L.drop ((ao L h).2.1.toNat+x)).take n).length=n:=Tb;generalize (L.drop ((ao L h).2.1.toNat+x)).take n=R at*;have HC:=ae (fun q c' W(hb:Bs W q c' R)=>qn q c' R W hb);rw[hRl]at HC;go_enter func93,ntmps93
 go_wp2_with fail
 refine HP.mono ?_;rintro e w1 ⟨q,c',rfl,aH,hq,ay⟩;have qt:=ae (HC q c' w1 aH);have HB:=ae ay;go_wp2_with fail
 refine qt.mono ?_;rintro e w2 ⟨a',c2,rfl,az,aK⟩;have HO:=ae az;have bz:=zTr HB aK;have Rx:=ae HB.size;go_wp2;go_ret2;exact⟨a',c2,rfl,HO.lower Rx,bz⟩
theorem ZQ p g c B L h x n w(hh:Hp w B p g c L)(hx:x<=9223372036854775807)(hn:n<=9223372036854775807) :
  zC 93 #[zq p,zi h,zi x,zi n] w fun e w'=>∃a' c',e=zt #[.slice a' (CT L h x n).length c',bc (mo L h x n)]/\cW w' w.heap.size (.slice a' (CT L h x n).length c') (CT L h x n)/\zB w w':=by
 by_cases h0:mo L h x n=0
 ·obtain⟨h1,h2,h3,h4⟩:=lV.1 h0;obtain⟨X,rfl⟩:=qAN h2;obtain⟨N,rfl⟩:=qAN h3;have gj:=hh.nE h1;have hl:=hh.len;have hR:CT L h X N=(L.drop ((ao L h).2.1.toNat+X)).take N:=by unfold CT;rw[zy h0,zTn,zTn]
  have hRl:(CT L h X N).length=N:=by rw[hR];simp;omega
  rw[hRl,h0,aC];refine(Jz p g c B L h X N w hh h1 h4).mono fun e w' ⟨a',c',he,ho,hb⟩=>⟨a',c',he,?_,hb⟩
  rw[<-hR]at ho;exact ho
 ·have hR:CT L h x n=[]:=by unfold CT;rw[zn h0]
  rw[hR];by_cases h1:aX L h=0
  ·have eQ:x<0\/n<0\/(ao L h).2.2.1<x+n:=qAM fun hc=>h0 (lV.2 ⟨h1,Sg,Sg,Sg⟩)
   have e3:mo L h x n=3:=zmy;rw[e3];exact(PK p g c B L h x n 3 w Si (Ah p g c B L h x n w hh h1 hx hn eQ)).mono fun e w' ⟨he,hb⟩=>⟨none,0,he,cW.nil _ _,hb⟩
  ·have e3:mo L h x n=aX L h:=by unfold mo;rw[zy h1]
   rw[e3];exact(PK p g c B L h x n (aX L h) w h1 (JA p g c B L h x n w hh h1)).mono fun e w' ⟨he,hb⟩=>⟨none,0,he,cW.nil _ _,hb⟩
theorem Jw(p g c B:Nat)(L:LI) h x E a(n cap:Nat) w(hE:E≠0)(hn:n<=140737488351232)(hpc:zC 137 #[zq p,zi h,zi x,zi n] w (zr (.tuple #[.slice none 0 0,bc E]) fun w'=>zB w w')) :
  zC 91 #[zq p,zi h,zi x,.slice a n cap] w (zr (bc E) fun w'=>zB w w'):=by
 have HP:=ae hpc;rw[aF _ hE]at HP ⊢;go_enter func91,ntmps91
 go_wp2_with fail
 refine HP.m ?_;exact ziJ
theorem Uh p g c B L h(x:Nat) a cap l w(hh:Hp w B p g c L)(hb:Bs w a cap l)(hc:aX L h=0)(hn:(x:Int)+l.length<=(ao L h).2.2.1) :
  zC 91 #[zq p,zi h,zi x,.slice a l.length cap] w (zr .nilIface fun w'=>Hp w' B p g c (splice L ((ao L h).2.1.toNat+x) l)/\au (bA p g) (bA p g) w w'):=by
 have HP:=ae (Fq p g c B L h x l.length w hh hc hn);obtain⟨g1,g2,g3⟩:=aV.1 hc;have g4:=aN.1 g2;have Ae:=yg hh.bC g4.1 g4.2 g3 (p:=x) (r:=l) hn;have gj:=hh.nE hc;have hl:=hh.len;have fC:=hb.2.2.1;have HKE:=ae Ae.1;have HH:=ae hh;have qp:=ae hb;by_cases h0:l=[]
 ·subst h0;have mw:splice L ((ao L h).2.1.toNat+x) []=L:=by simp[splice]
  rw[mw];simp only[qBS]at HP hn fC ⊢;generalize (ao L h).2.1.toNat+x=off at*;go_enter func91,ntmps91
  go_wp2_with fail
  refine HP.mono ?_;rintro e w1 ⟨q,c',rfl,aH,hq,ay⟩;have HB:=ae ay;have yJ:Sem.run prog (Builtin.copy_ #[29,29] 3 #[.slice q 0 c',.slice a 0 cap]) w1=.ok (zi 0) w1:=by have:=run_copy_none (P:=prog) w1 29 29 3 5 q a 0 c' 0 cap underlying29 aT Sk;simpa[goInt]using this
  go_wp2;go_ret;exact⟨rfl,HH.below HB,au.aI HB⟩
 ·have ew:=qBE.2 h0;have fc:(ao L h).2.1.toNat+x+l.length<=L.length:=by omega
  generalize (ao L h).2.1.toNat+x=off at*;go_enter func91,ntmps91
  go_wp2_with fail
  refine HP.mono ?_;rintro e w1 ⟨q,c',rfl,aH,hq,ay⟩;obtain rfl:=hq ew;have yI:=HH.below ay;obtain⟨cur,bK⟩:=yI.row;have yJ:Sem.run prog (Builtin.copy_ #[29,29] 3 #[.slice (some ⟨g,off,none⟩) l.length c',.slice a l.length cap]) w1=.ok (zi l.length) (lB w1 g cur off l) :=nk w1 _ _ _ underlying29 aT _ g off _ _ c cur a cap L l zNr h0 fc bK (qp.below ay);have zic:=ae (yI.lay bK fc qp.1 HKE);have HT:=ae (au.aI (S:=bA p g) ay);clear ay HP aH hq yI bK;generalize lB w1 g cur off l=w2 at*;go_wp2;go_ret;exact⟨rfl,zic.1,HT.trans zic.2⟩
theorem Ui p g c B L h x a cap l w(hh:Hp w B p g c L)(hb:Bs w a cap l)(hx:x<=9223372036854775807) :
  zC 91 #[zq p,zi h,zi x,.slice a l.length cap] w (zr (bc (mo L h x l.length)) fun w'=>Hp w' B p g c (uL L h x l)/\au (bA p g) (bA p g) w w'):=by
 have fC:=hb.2.2.1;by_cases h0:mo L h x l.length=0
 ·obtain⟨h1,h2,h3,h4⟩:=lV.1 h0;obtain⟨X,rfl⟩:=qAN h2;have hR:uL L h X l=splice L ((ao L h).2.1.toNat+X) l:=by unfold uL;rw[zy h0,zTn]
  rw[hR,h0,aC];exact Uh p g c B L h X a cap l w hh hb h1 h4
 ·have hR:uL L h x l=L:=by unfold uL;rw[zn h0]
  rw[hR];by_cases h1:aX L h=0
  ·have eQ:x<0\/(l.length:Int)<0\/(ao L h).2.2.1<x+l.length:=qAM fun hc=>h0 (lV.2 ⟨h1,Sg,Sg,Sg⟩)
   have e3:mo L h x l.length=3:=zmy;rw[e3];exact(Jw p g c B L h x 3 a l.length cap w Si fC (Ah p g c B L h x l.length w hh h1 hx Sg eQ)).mono fun e w' ⟨he,hb⟩=>⟨he,hh.below hb,au.aI hb⟩
  ·have e3:mo L h x l.length=aX L h:=by unfold mo;rw[zy h1]
   rw[e3];exact(Jw p g c B L h x (aX L h) a l.length cap w h1 fC (JA p g c B L h x l.length w hh h1)).mono fun e w' ⟨he,hb⟩=>⟨he,hh.below hb,au.aI hb⟩
end
theorem ZX q s x h w(hq:w.cell? (zp q)=some (zi h)) :
  zC 136 #[.agg #[.string s,zi x],zq q] w (zr (.bool (x == h)) fun w'=>zB w w'):=by
 have qT:(w.alloc (.cells #[.string s,zi x] 134)).cell? (zp q)=some (zi h):=(((Below.refl w.heap.size w).alloc zNr _).cell (qAA hq)).trans hq;go_enter func136,ntmps136
 exact zdm
theorem Np q h a cap l w(hs:fF Dl 2 w a cap l)(hq:w.cell? (zp q)=some (zi h)) :
  zC 146 #[.slice a l.length cap,.func (.func 136) #[] #[zq q]] w fun e w'=>∃i:Int,e=.returned (zi i)/\decide (0<=i)=l.any (fun r=>r.2 == h)/\zB w w':=by
 have hl:=hs.2.2.1;have HS:=ae hs;have HQ:=ae hq;go_enter func146,ntmps146
 go_wp2;go_loopw [5,8] (fun _ iv wr=>∃k:Nat,k<=l.length/\iv=zi k/\(l.take k).any (fun r=>r.2 == h)=false/\zB w wr) (fun _ iv _=>l.length-(intOf iv).toNat)
 case atStart=>exact zl0
 case round =>
  obtain⟨k,hk,rfl,bQ,ai⟩:=hrel;by_cases aB:k<l.length
  ·have aG:l≠[]:=by intro e;rw[e]at aB;simp at aB
   obtain⟨b1,o1,rfl,eT⟩:=(HS.below ai).2.2.2 aG;obtain⟨f,hf⟩:∃f,l[k]?=some f:=⟨l[k],zLg aB⟩;obtain⟨q0,q1⟩:=fF.root (cap:=0) eT hf;have hq:=(ai.cell (qAA HQ)).trans HQ;obtain⟨s,x⟩:=f;have HC:=ae (ZX q s x h wr hq);have uO:l.take (k+1)=l.take k++[(s,x)]:=by rw[qAv,hf];rfl
   have x8:=ae uO;have AP:=ae bQ;have zia:=ae (qAs hf);have aJ:=ae ai;dsimp only at*;cases hx:(x == h)
   ·have eX:(l.take (k+1)).any (fun r=>r.2 == h)=false:=by rw[aa x8,qCR,aa AP];simp[hx]
    have QX:=ae eX;rw[hx]at HC;go_wp2_with (go_at_call 136;refine HC.m ?_;intro w1 ay;have aQ:=zTr aJ ay)
    go_roundw
    case rel=>exact⟨k+1,Sg,Tc,QX,aQ⟩
    case measure=>exact Te
   ·have eX:l.any (fun r=>r.2 == h)=true:=qBH.2 ⟨_,zia,hx⟩;have QX:=ae eX;rw[hx]at HC;clear eX hx;go_wp2_with (go_at_call 136;refine HC.m ?_;intro w1 ay;have aQ:=zTr aJ ay)
    go_ret;exact⟨k,rfl,by rw[aa QX];exact qAE Sg,aQ⟩
  ·obtain rfl:k=l.length:=by omega
   rw[qAk]at bQ;have AP:=ae bQ;have aJ:=ae ai;go_wp2;go_ret;exact⟨-1,rfl,by rw[aa AP];rfl,aJ⟩
theorem SA q h a cap l w(hs:fF Dl 2 w a cap l)(hq:w.cell? (zp q)=some (zi h)) :
  zC 135 #[.slice a l.length cap,.func (.func 136) #[] #[zq q]] w (zr (.bool (l.any (fun r=>r.2 == h))) fun w'=>zB w w'):=by
 have HI:=ae (Np q h a cap l w hs hq);generalize l.any (fun r=>r.2 == h)=R,l.length=N at*;go_enter func135,ntmps135
 go_wp2_with fail
 refine HI.mono ?_;rintro e w1 ⟨i,rfl,hi,ay⟩;have HB:=ae ay;have HR:=ae hi;go_wp2;go_ret;exact⟨by rw[<-aa HR];rfl,HB⟩
theorem zdM p g c B L h w(hh:Hp w B p g c L)(hc:aX L h≠0) :
  zC 90 #[zq p,zi h] w (zr (bc (aX L h)) fun w'=>zB w w'):=by
 have uD:zB w (w.alloc (.cells #[zi h] 3)):=zBr.alloc zNr _;have kS:=(hh.below uD).cell;have eX:(w.alloc (.cells #[zi h] 3)).cell? (zp w.heap.size)=some (zi h):=Y8;have hd:=zef (zo g) c L h (w.alloc (.cells #[zi h] 3)).drew (hh.bs.below (bF uD));rw[aF _ hc]at hd ⊢;have HD:Hid (zC 133 #[.slice (zo g) L.length c,zi h] (w.alloc (.cells #[zi h] 3)).drew fun e w'=>∃a' c',e=zt #[.slice a' (cK L h).length c',.iface 105 (zi (aX L h))]/\zB w w'/\w'.cell? (zp p)=some (.slice (zo g) L.length c)/\w'.cell? (zp w.heap.size)=some (zi h)):=ae (hd.mono fun e w' ⟨a',c',he,aH,hb⟩=>⟨a',c',he,(bF uD).trans (hb.mono (bF uD).size),(hb.cell (p:=(zp p)) (qAA kS)).trans kS,(hb.cell (p:=⟨w.heap.size,0,none⟩) (qAA eX)).trans eX⟩);have hl:=hh.len;clear hh hc hd;generalize (cK L h).length=D,aX L h=X,L.length=N at*;go_enter func90,ntmps90
 go_wp2_with fail
 generalize w.alloc (.cells #[zi h] 3)=wx at*;go_region_held3 (fun w'=>w'.cell? (zp p)=some (.slice (zo g) N c)/\w'.cell? (zp w.heap.size)=some (zi h)) (first | go_keep | (go_split_ands;refine⟨?_,?_⟩ <;> go_keep))
  ((go_at_call 133;refine HD.mono ?_;rintro e w1 ⟨a',c',rfl,ay,r0,r1⟩))
 have HB:=ae ay;go_wp2;go_ret;exact zpQ
theorem zdN p g c B L h w(hh:Hp w B p g c L)(hB:B<=w.heap.size)(hc:aX L h=0) R(hR:(aE L 8).any (fun r=>r.2 == h)=R) :
  zC 90 #[zq p,zi h] w (zr (bc (nD L h)) fun w'=>∃g' c',Hp w' B p g' c' (sZ L h)/\au (bA p g) (bA p g') w w'):=by
 have uD:zB w (w.alloc (.cells #[zi h] 3)):=zBr.alloc zNr _;have kS:=(hh.below uD).cell;have eX:(w.alloc (.cells #[zi h] 3)).cell? (zp w.heap.size)=some (zi h):=Y8;have hd:=zee (zo g) c L h (w.alloc (.cells #[zi h] 3)).drew (hh.bs.below (bF uD)) hc;obtain⟨g1,g2,g3⟩:=aV.1 hc;have g4:=aN.1 g2;have hp5:=du g4.1 g4.2;have hlen:=hh.len;have Mv:(cK L h).length=L.length:=by unfold cK;rw[zy hc,length_splice YS]
 have iF:=AF hh.B2 h;have HD:Hid (zC 133 #[.slice (zo g) L.length c,zi h] (w.alloc (.cells #[zi h] 3)).drew fun e w'=>∃g' c' cur',e=zt #[.slice (zo g') L.length c',.nilIface]/\Row w' w.heap.size g' c' cur' (cK L h)/\zB w w'/\w'.cell? (zp p)=some (.slice (zo g) L.length c)/\w'.cell? (zp w.heap.size)=some (zi h)):=ae (hd.mono fun e w' ⟨g',c',cur',he,hr,hb⟩=>⟨g',c',cur',by rw[he,Mv],hr.low (bF uD).size,(bF uD).trans (hb.mono (bF uD).size),(hb.cell (p:=(zp p)) (qAA kS)).trans kS,(hb.cell (p:=⟨w.heap.size,0,none⟩) (qAA eX)).trans eX⟩);have HRT:=ae (fun(W:World) (hW:zB w W)=>yD (zo g) c L W (hh.bs.below hW) hh.bC.gR);have xh:=iO L 8;have HCT:=ae (fun(a:OA) (cap:Nat) (W:World) (hs:fF Dl 2 W a cap (aE L 8)) (hq:W.cell? (zp w.heap.size)=some (zi h))=>SA w.heap.size h a cap (aE L 8) W hs hq);rw[hR]at HCT;have HFE:Hid (R=true->nD L h=7/\sZ L h=L):=ae (fun e=>by
  have e1:nD L h=7:=by unfold nD;rw[zn (fun h=>h hc),zy (hR.trans e)]
  exact⟨e1,by unfold sZ;rw[e1];rfl⟩)
 have HFN:Hid (R=false->nD L h=0/\sZ L h=cK L h/\aD (cK L h)):=ae (fun e=>by have e1:nD L h=0:=qh.2 ⟨hc,hR.trans e⟩;exact⟨e1,by unfold sZ;rw[zy e1],WE hh.bC e1⟩);have HH:=ae hh;have iE:=ae iF;have HDL:=ae Mv;generalize nD L h=FE,sZ L h=FB,cK L h=DL,aE L 8=RT at*;generalize hN:L.length=N at*;go_enter func90,ntmps90
 go_wp2_with fail
 generalize w.alloc (.cells #[zi h] 3)=wx at*;go_region_held3 (fun w'=>w'.cell? (zp p)=some (.slice (zo g) N c)/\w'.cell? (zp w.heap.size)=some (zi h)) (first | go_keep | (go_split_ands;refine⟨?_,?_⟩ <;> go_keep))
  ((go_at_call 133;refine HD.mono ?_;rintro e w1 ⟨g',c',cur',rfl,Lm,ay,r0,r1⟩))
 have QR:=ae Lm;have zoI:=ae (HRT w1 ay);have aQ:=ae ay;have Ry:=ae r1;go_wp2_with fail
 refine zoI.mono ?_;rintro e w2 ⟨v2,rfl,fL,aK⟩;obtain⟨a2,c2,rfl,oy⟩:=fL.uM tw Sg;have qT:=(aK.cell (p:=⟨w.heap.size,0,none⟩) (qAA Ry)).trans Ry;have zlR:=ae (HCT a2 c2 w2 oy qT);have lJ:=ae (QR.below aK);have bz:=zTr aQ aK;go_wp2_with fail
 refine zlR.m ?_;intro w3 bD;have mr:=zTs bz bD;have Zs:=lJ.below bD;cases R with
 | true =>have dF:=ae mr;have AZ:=ae (HFE rfl).1;have HE2:=ae (HFE rfl).2;go_wp2;go_ret;refine⟨by rw[aa AZ];rfl,g,c,?_,au.aI dF⟩;rw[aa HE2];exact HH.below dF
 | false =>obtain⟨e1,e2,e3⟩:=HFN rfl;have xI:=ae (HH.set mr Zs iE e3 hB);rw[aa HDL]at xI;have Lz:=(HH.below mr).cell;rw[hN]at Lz;have zsn:=(HH.below mr).fr;have AZ:=ae e1;have HE2:=ae e2;go_wp2;go_ret;refine⟨by rw[aa AZ];rfl,g',c',?_⟩;rw[aa HE2];exact xI
theorem JD p g c B L h w(hh:Hp w B p g c L)(hB:B<=w.heap.size) :
  zC 90 #[zq p,zi h] w (zr (bc (nD L h)) fun w'=>∃g' c',Hp w' B p g' c' (sZ L h)/\au (bA p g) (bA p g') w w'):=by
 by_cases hc:aX L h=0
 ·exact zdN p g c B L h w hh hB hc _ rfl
 ·have e1:nD L h=aX L h:=by unfold nD;rw[zy hc]
  have e2:sZ L h=L:=by unfold sZ;rw[e1,zn hc]
  rw[e1,e2];exact(zdM p g c B L h w hh hc).mono fun e w' ⟨he,hb⟩=>⟨he,g,c,hh.below hb,au.aI hb⟩
section
variable {w w':World} {B p g c:Nat} {L:LI}
theorem tR(h:Hp w B p g c L)(hB:B<=w.heap.size){a}{cap}{I}(aH:Bs w a cap I)(hf:aD I)(hl:I.length=L.length) :
  zC 152 #[zq p,.slice a I.length cap] w (zr .nilIface fun w'=>∃g' c',Hp w' B p g' c' I/\au (bA p g) (bA p g') w w'):=by
 have HL:=ae (JC a cap I w aH hf);have HH:=ae h;have hc:=h.cell;have jE:=h.len;have iE:=ae aH.1;have HF:=ae hf;rw[<-hl]at hc jE;obtain⟨N,hN⟩:∃N,I.length=N:=⟨_,rfl⟩;rw[hN]at hc jE HL ⊢;have HN:=ae hN;go_enter func152,ntmps152
 go_wp2_with fail
 refine HL.mono ?_;rintro e w1 ⟨p1,g1,c1,rfl,yI,ay⟩;have eT:=yI.cell;have ziM:=(ay.block p HH.Ob).trans HH.qq;have zso:=qAd _ _ 0 _ _ ziM;have Jr:=(ay.cell (p:=(zp p)) HH.Ob).trans hc;have xI:Hid (Hp (w1.setCell (zp p) (.slice (zo g1) N c1)) B p g1 c1 I/\au (bA p g) (bA p g1) w (w1.setCell (zp p) (.slice (zo g1) N c1))):=ae (by obtain⟨cur,hr⟩:=yI.row;rw[<-aa HN];exact HH.set ay hr iE HF hB);rw[aa HN]at eT;clear yI ziM ay HL HH iE HF HN hc;go_wp2;go_ret;exact⟨rfl,g1,c1,xI.1,xI.2⟩
