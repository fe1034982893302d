import Derived.Test.YtoiebmeajhpgcaaGreatDoorJPo
set_option maxRecDepth 100000
set_option maxHeartbeats 16000000
set_option linter.all false
namespace Go.Proofs.YtoiebmeajhpgcaaGreatDoor
variable {l:LI}{k:Nat}
open Tryz
open Go.RowKit
theorem iH n w :
  zC 108 #[zi n] w (zr (.bool (eC n)) fun w'=>w=w'):=by
 unfold eC;by_cases h1:1<=n
 ·rw[qAE h1,qCd];exact QH
 ·rw[qAG h1,qCa];exact QH
theorem mL a cap l h w(hb:Bs w a cap l)(hl:288<=l.length)(h1:1<=h)(h2:h<=40) :
  zC 55 #[.slice a l.length cap,zi h] w (zr (.tuple #[kV (ao l h),.bool (aw l h != 0)]) fun w'=>zB w w'):=by
 have hp:=du h1 h2;have Zu:((bT h:Nat):Int)=5*(h-1):=XM;obtain⟨a1,fQ,ay⟩:=dP (P:=prog) (t:=29) underlying29 aT hb (bT h+1) (bT h+3) Sg Sg;obtain⟨a2,gN,aK⟩:=dP (P:=prog) (t:=29) underlying29 aT hb (bT h+3) (bT h+5) Sg Sg;have e1:bT h+3-(bT h+1)=2:=Sg;have e2:bT h+5-(bT h+3)=2:=Sg;rw[e1]at fQ ay;rw[e2]at gN aK;have l1:((l.drop (bT h+1)).take 2).length=2:=Tb;have l2:((l.drop (bT h+3)).take 2).length=2:=Tb;have HN1:=ae (fun(W:World) (hW:zB w W)=>Dn a1 _ _ W (ay.below hW) Sg);have pP:=ae (fun(W:World) (hW:zB w W)=>Dn a2 _ _ W (aK.below hW) Sg);rw[l1]at HN1;rw[l2]at pP;have g1:numOf ((l.drop (bT h+1)).take 2)=dm l (bT h+1) 2:=rfl;have g2:numOf ((l.drop (bT h+3)).take 2)=dm l (bT h+3) 2:=rfl;rw[g1]at HN1;rw[g2]at pP;obtain⟨b,off,rfl,bf⟩:=hb.at (bT h) Sg;have xG:=qAA bf;dsimp only at xG;have h3:=hb.2.2.1;have iT:0<=aw l h/\aw l h<=255:=hb.1.getD (bT h);have ht:l.getD (bT h) 0=aw l h:=rfl;rw[ht]at bf;have zkR:w.cell? ⟨b,off+(5*(h-1)).toNat,none⟩=some (.int .u8 (aw l h)):=bf;unfold ao;have q1:((bT h+1:Nat):Int)=(bT h:Int)+1:=Sg;have q3:((bT h+3:Nat):Int)=(bT h:Int)+3:=Sg;have q5:((bT h+5:Nat):Int)=(bT h:Int)+5:=Sg;rw[q1,q3,Zu]at fQ;rw[q3,q5,Zu]at gN;have znM:5*(h-1)<(l.length:Int):=Sg;clear bf hb ay aK l1 l2 g1 g2 e1 e2 ht q1 q3 q5;generalize dm l (bT h+1) 2=x at*;generalize dm l (bT h+3) 2=y at*;generalize aw l h=t at*;generalize bT h=p at*;generalize l.length=N at*;go_enter func55,ntmps55
 go_wp2_with fail
 refine(HN1 _ (((Below.refl _ w).alloc zNr _).alloc Sk _)).m ?_;intro w1 fM;subst fM;go_wp2_with fail
 refine(pP _ (((Below.refl _ w).alloc zNr _).alloc Sk _)).m ?_;intro w1 fM;subst fM;go_wp2_with fail
 go_region
 go_wp2;have fC:Below (w.alloc (.cells #[zi h,zi x,zi y,zi (t-1)] 124)).heap.size (w.alloc (.cells #[zi h,zi x,zi y,zi (t-1)] 124)) (((w.alloc (.cells #[zi h,zi x,zi y,zi (t-1)] 124)).alloc (.cells #[zi h,zi x,zi y,zi (t-1)] 124)).drew):=(zBr.alloc zNr _).drew;refine qBV (vv results55 _ _ w.heap.size (h,x,y,t-1) rfl ((qB.new w (h,x,y,t-1)).below fC Sk)) rfl ?_;exact⟨rfl,((Below.refl _ w).alloc zNr _).trans (fC.mono Sk)⟩
theorem IJ a cap l w(hb:Bs w a cap l)(hl:288<=l.length) :
  zC 67 #[.slice a l.length cap] w fun e w'=>∃v,e=.returned v/\cX xY 4 124 w' w.heap.size v (entsK l 40)/\zB w w':=by
 obtain⟨i0,dU,cO,cU,cV⟩:=qAO O7;have HB:=ae hb;have fC:=hb.2.2.1;go_enter func67,ntmps67
 go_wp2_with fail
 go_loopw [3,4] (fun v hv wr=>∃k:Nat,k<=40/\hv=zi ((k:Int)+1)/\cX xY 4 124 wr w.heap.size v (entsK l k)/\zB w wr) (fun _ hv _=>41-(intOf hv).toNat)
 case atStart=>exact zbM
 case round =>
  obtain⟨k,hk,rfl,az,ai⟩:=hrel;obtain⟨va,vm,vc,rfl⟩:=az.shape;by_cases aB:k<40
  ·have aH:=HB.below ai;have HG:=ae (mL a cap l ((k:Int)+1) wr aH hl Sg Sg);have HEY:=ae (fun ht=>JK (l:=l) (k:=k) ht);have qs:=ae (fun ht=>P8 (l:=l) (k:=k) ht);have jD:=ae (dt l k);have HO:=ae az;have aJ:=ae ai;generalize PA:ao l ((k:Int)+1)=nE at*;obtain⟨x,y,z,t⟩:=nE;unfold kV at HG;dsimp only at HG;have bW:=aJ.size;by_cases ht:aw l ((k:Int)+1)=0
   ·have HE:=ae (qs ht);rw[ht]at HG;go_wp2_with fail
    refine HG.m ?_;intro w1 ay;have ia:=zTs aJ ay;have bz:=ae (ia.alloc ia.size (.cells #[zi x,zi y,zi z,zi t] 124));have oj:=ae ((HO.below ay).below (zBr.alloc zNr (.cells #[zi x,zi y,zi z,zi t] 124)));go_wp2;go_roundw
    case rel=>exact⟨k+1,Sg,Tc,by rw[aa HE];exact oj,bz⟩
    case measure=>exact Te
   ·have HE:=ae (HEY ht);rw[qBZ.2 ht]at HG;go_wp2_with fail
    refine HG.m ?_;intro w1 ay;have ia:=zTs aJ ay;have dr:=ia.alloc ia.size (.cells #[zi x,zi y,zi z,zi t] 124);have dF:=ae (dr.alloc dr.size (.cells #[zi x,zi y,zi z,zi t] 124));have oE:=ae (((HO.below ay).below (zBr.alloc zNr (.cells #[zi x,zi y,zi z,zi t] 124))).below (zBr.alloc zNr (.cells #[zi x,zi y,zi z,zi t] 124)));have Ac:=ay.size;have kq:=ae (by have:=qAB (w1.alloc (.cells #[zi x,zi y,zi z,zi t] 124)) (.cells #[zi x,zi y,zi z,zi t] 124);simp only[zB,cJ]at this;exact this);exact yi
  ·obtain rfl:k=40:=by omega
   have HO:=ae az;have aJ:=ae ai;exact zla
theorem N4 a cap l w(hb:Bs w a cap l)(aG:l≠[]) :
  zC 53 #[.slice a l.length cap] w fun e w'=>∃g c,e=.returned (.slice (zo g) l.length c)/\Own w' w.heap.size g c l/\zB w w':=by
 obtain⟨i0,hi,cO,cU,cV⟩:=qAO dw;have HB:=ae hb;go_enter func53,ntmps53
 go_wp2_with (at_builtin;refine lL rfl _ _ 29 rfl i0 underlying29 hi cO cU cV _ _ l rfl rfl HB aG ?_)
 exact zmu
def wipeK(l:LI)(p:Nat):Nat->LI
 | 0=>l
 | k+1=>(wipeK l p k).set (p+k) 0
theorem oY l p k:(wipeK l p k).length=l.length:=by
 induction k with
 | zero=>rfl
 | succ k ih=>simp[wipeK,ih]
theorem zaP l p:∀k j,j<k->p+k<=l.length->(wipeK l p k).getD (p+j) 0=0:=by
 intro k;induction k with
 | zero=>intro j hj;omega
 | succ k ih =>
  intro j hj hk;have hlen:=oY l p k;by_cases h:j=k
  ·subst h;simp only[wipeK,List.getD];exact zes
  ·have h1:=ih j Sg Sg;simp only[wipeK,List.getD];rw[qBK Sg];exact h1
theorem Xl l p:∀k j,(j<p\/p+k<=j)->(wipeK l p k).getD j 0=l.getD j 0:=by
 intro k;induction k with
 | zero=>intro j _;rfl
 | succ k ih =>intro j hj;rw[<-ih j Sg];simp[wipeK,List.getD];rw[qBK Sg]
theorem nG n j:(af n).getD j 0=0:=by have:=mz n 0 j;rwa[qCE]at this
theorem J4 l p n(h:p+n<=l.length):wipeK l p n=splice l p (af n):=by
 have hz:=ag n;have hs:=length_splice (z:=l) (l:=af n) (off:=p) Sg;apply cr
 ·rw[oY,hs]
 ·intro j hj;rw[oY]at hj;by_cases h1:j<p\/p+n<=j
  ·rw[Xl l p n j h1,bh Sg Sg]
  ·obtain⟨i,rfl⟩:∃i,j=p+i:=⟨j-p,Sg⟩;rw[zaP l p n i Sg h,cC Sg Sg,nG]
theorem wR a cap l p n w(hb:Bs w a cap l)(fc:p+n<=l.length)(hl:l.length<=6400)(h0:0<l.length) :
  zC 58 #[.slice a l.length cap,zi p,zi n] w fun e w'=>∃g c,e=.returned (.slice (zo g) l.length c)/\Own w' w.heap.size g c (splice l p (af n))/\zB w w':=by
 rw[<-J4 l p n fc];have HC:=ae (N4 a cap l w hb (by intro e;rw[e]at h0;simp at h0));go_enter func58,ntmps58
 go_wp2_with fail
 refine HC.mono ?_;rintro e w1 ⟨g,c,rfl,az,ai⟩;have HO:=ae az;have HB:=ae ai;have Px:=az.base;go_wp2_with fail
 go_loopw [8] (fun v wr=>∃k:Nat,k<=n/\v=zi k/\Own wr w.heap.size g c (wipeK l p k)/\zB w wr) (fun v _=>n-(intOf v).toNat)
 case atStart=>exact⟨0,qAH _,rfl,HO,HB⟩
 case round =>
  obtain⟨k,hk,rfl,az,ai⟩:=hrel;by_cases aB:k<n
  ·have kS:=az.cell (p+k) (by rw[oY];omega);have oI:=az.frozen (p+k);have oj:=ae (az.set (p+k) 0);have bz:=ae (ai.setCell (p:=⟨g,p+k,none⟩) Px (.int .u8 0));generalize (wipeK l p k).getD (p+k) 0=x at*;exact Nf
  ·obtain rfl:k=n:=by omega
   have oj:=ae az;have bz:=ae ai;go_wp2;go_ret;exact⟨g,c,rfl,oj,bz⟩
theorem IL L p x a l t(h:p+5<=L.length):putK (putK (putK L p (t+1) 1) (p+1) a 2) (p+3) l 2=splice L p (fg (x,a,l,t)):=by
 have hr:(fg (x,a,l,t)).length=5:=rfl;have hs:=length_splice (z:=L) (l:=fg (x,a,l,t)) (off:=p) Sg;have l1:(putK L p (t+1) 1).length=L.length:=cg _ _ _ _;have l2:(putK (putK L p (t+1) 1) (p+1) a 2).length=L.length:=by rw[cg,l1]
 apply cr
 ·rw[cg,l2,hs]
 ·intro j hj;rw[cg,l2]at hj;by_cases h1:j<p\/p+5<=j
  ·rw[lT _ _ _ _ _ Sg,lT _ _ _ _ _ Sg,lT _ _ _ _ _ Sg,bh Sg Sg]
  ·rcases (show j=p\/j=p+1\/j=p+2\/j=p+3\/j=p+4 by omega)with rfl|rfl|rfl|rfl|rfl
   ·have:=tB L j (t+1) 1 0 Sg Sg;rw[lT _ _ _ _ _ Sg,lT _ _ _ _ _ Sg];rw[qAq]at this;rw[this];have e:=cC (z:=L) (l:=fg (x,a,l,t)) (off:=j) (j:=0) Sg Sg;rw[qAq]at e;rw[e];simp[fg]
   ·have:=tB (putK L p (t+1) 1) (p+1) a 2 0 Sg Sg;rw[lT _ _ _ _ _ Sg];exact zmr
   ·have:=tB (putK L p (t+1) 1) (p+1) a 2 1 Sg Sg;rw[lT _ _ _ _ _ Sg];rw[show p+1+1=p+2 by omega]at this;rw[this,cC Sg Sg];simp[fg]
   ·have:=tB (putK (putK L p (t+1) 1) (p+1) a 2) (p+3) l 2 0 Sg Sg;exact zmr
   ·have:=tB (putK (putK L p (t+1) 1) (p+1) a 2) (p+3) l 2 1 Sg Sg;rw[show p+3+1=p+4 by omega]at this;rw[this,cC Sg Sg];simp[fg]
theorem Yk b len cap x a l t w(hr:eC x=false\/(eC x=true/\t<0)\/(eC x=true/\¬t<0/\15<t)\/(eC x=true/\¬t<0/\¬15<t/\l<1)\/(eC x=true/\¬t<0/\¬15<t/\¬l<1/\1000<l)) :
  zC 57 #[.slice b len cap,.agg #[zi x,zi a,zi l,zi t]] w (Ends w [] (zi 1)):=by
 have HH:=ae (fun W=>iH x W);rcases hr with h1 | ⟨h1,h2⟩ | ⟨h1,h2,h3⟩ | ⟨h1,h2,h3,h4⟩ | ⟨h1,h2,h3,h4,h5⟩
 all_goals
  rw[h1]at HH;exact JH
theorem Yj b(len cap:Nat) x a l t w(hlen:288<=(len:Int)/\(len:Int)<=6400)(h1:eC x=true)(h2:0<=t/\t<=15)(h3:1<=l/\l<=1000)(hr:a<288\/(¬a<288/\(len:Int)<a)\/(¬a<288/\¬(len:Int)<a/\(len:Int)-a<l)) :
  zC 57 #[.slice b len cap,.agg #[zi x,zi a,zi l,zi t]] w (Ends w [] (zi 3)):=by
 have HH:=ae (fun W=>iH x W);rw[h1]at HH;obtain⟨t1,t2⟩:=h2;obtain⟨t3,t4⟩:=h3;obtain⟨t5,t6⟩:=hlen;rcases hr with q1|⟨q1,q2⟩|⟨q1,q2,q3⟩
 all_goals
  exact JH
theorem rR{p n s}(h1:1<=s/\s<=4)(h2:0<=n/\n<=oW s)(h3:0<=p/\p<=l.length-s):dZ l p n s=(putK l p.toNat n s.toNat,0):=by unfold dZ;rw[zn (fun h=>h.elim (fun h=>h h1) (fun h=>Sg)),zn (fun h=>h h3)]
theorem zgm b cap L(x a l t:Int) w(aH:Bs w b cap L)(hlen:288<=(L.length:Int)/\(L.length:Int)<=6400)(h1:eC x=true)(h2:0<=t/\t<=15)(h3:1<=l/\l<=1000)(h4:288<=a/\l<=L.length-a) :
  zC 57 #[.slice b L.length cap,.agg #[zi x,zi a,zi l,zi t]] w (Ends w (splice L (bT x) (fg (x,a,l,t))) (zi 0)):=by
 have HH:=ae (fun W=>iH x W);have hx:=aN.1 h1;have hp:=du hx.1 hx.2;have Zu:((bT x:Nat):Int)=5*(x-1):=XM;rw[h1]at HH;obtain⟨t1,t2⟩:=h2;obtain⟨t3,t4⟩:=h3;obtain⟨t5,t6⟩:=hlen;obtain⟨t7,t8⟩:=h4;have g1:¬t<0:=Sg;have g2:¬15<t:=Sg;have g3:¬l<1:=Sg;have g4:¬1000<l:=Sg;have g5:¬a<288:=Sg;have g6:¬(L.length:Int)<a:=Sg;have g7:¬(L.length:Int)-a<l:=Sg;have HF:=ae (IL L (bT x) x a l t Sg);have l1:(putK L (bT x) (t+1) 1).length=L.length:=cg _ _ _ _;have l2:(putK (putK L (bT x) (t+1) 1) (bT x+1) a 2).length=L.length:=by rw[cg,l1]
 have l3:(putK (putK (putK L (bT x) (t+1) 1) (bT x+1) a 2) (bT x+3) l 2).length=L.length:=by rw[cg,l2]
 have m1:oW (1:Int)=255:=rfl;have m2:oW (2:Int)=65535:=rfl;have o1:dZ L (5*(x-1)) (t+1) 1=(putK L (bT x) (t+1) 1,0):=zbB;have o2:dZ (putK L (bT x) (t+1) 1) (5*(x-1)+1) a 2=(putK (putK L (bT x) (t+1) 1) (bT x+1) a 2,0):=zbB;have o3:dZ (putK (putK L (bT x) (t+1) 1) (bT x+1) a 2) (5*(x-1)+3) l 2=(putK (putK (putK L (bT x) (t+1) 1) (bT x+1) a 2) (bT x+3) l 2,0):=zbB;have nh:=ae (fun(W:World) (hW:Bs W b cap L)=>vx b cap L (5*(x-1)) (t+1) 1 W hW Sg);have Gg:=ae (fun(W:World) (q:OA) (c:Nat) (hW:Bs W q c (putK L (bT x) (t+1) 1))=>vx q c (putK L (bT x) (t+1) 1) (5*(x-1)+1) a 2 W hW Sg);have HP3:=ae (fun(W:World) (q:OA) (c:Nat) (hW:Bs W q c (putK (putK L (bT x) (t+1) 1) (bT x+1) a 2))=>vx q c (putK (putK L (bT x) (t+1) 1) (bT x+1) a 2) (5*(x-1)+3) l 2 W hW Sg);rw[o1]at nh;rw[o2,l1]at Gg;rw[o3,l2]at HP3;have qp:=ae aH;have qs:=ae (qB.new w (x,a,l,t));have iX:Hid (zB w (w.alloc (.cells #[zi x,zi a,zi l,zi t] 124))):=ae (zBr.alloc zNr _);clear h1 aH o1 o2 o3 Zu;rw[<-aa HF];have Mk:=ae l3;clear l3 HF;generalize putK L (bT x) (t+1) 1=L1 at*;generalize putK L1 (bT x+1) a 2=L2 at*;generalize putK L2 (bT x+3) l 2=L3 at*;dsimp only at nh Gg HP3;go_enter func57,ntmps57
 go_wp2_with (go_at_call 108;refine(HH _).m ?_;rintro w1 rfl)
 refine(nh _ (qp.below iX)).mono ?_;rintro e w1 ⟨a1,c1,rfl,ay,Ue⟩;have kR:=qs.below Ue Sk;obtain⟨d0,d1,d2,d3⟩:=kR.cells;have aQ:=zTr iX Ue;have wD:=ae kR;have zfb:=ae (Gg w1 a1 c1 ay);rw[l1];clear ay Ue kR nh Gg iX qs qp;go_wp2_with fail
 refine(aa zfb).mono ?_;rintro e w2 ⟨a2,c2,rfl,aK,PF⟩;have qc:=wD.below PF wD.lt;clear d0 d1 d2 d3;obtain⟨d0,d1,d2,d3⟩:=qc.cells;have bz:=zTr aQ PF;have zfa:=ae (HP3 w2 a2 c2 aK);rw[l2];clear aK PF qc zfb HP3 aQ wD;go_wp2_with fail
 refine(aa zfa).mono ?_;rintro e w3 ⟨a3,c3,rfl,bD,zdI⟩;have dF:=zTr bz zdI;have zlT:=ae bD;clear bD zdI zfa bz d0 d1 d2 d3;go_wp2;go_ret2;exact⟨a3,c3,rfl,zlT,dF⟩
theorem GR b cap L e w(aH:Bs w b cap L)(hq:ef L.length=true) :
  zC 57 #[.slice b L.length cap,kV e] w (Ends w (cR L e) (zi (dJ L e))):=by
 obtain⟨x,a,l,t⟩:=e;have hl:=cm.1 hq;unfold kV;dsimp only;have h1:¬ef L.length=false:=zab;by_cases h0:dJ L (x,a,l,t)=0
 ·have hL:cR L (x,a,l,t)=splice L (bT x) (fg (x,a,l,t)):=by unfold cR;rw[zy h0]
  obtain⟨_,h2,h3⟩:=df.1 h0;dsimp only at h2 h3;rw[hL,h0];exact zgm b cap L x a l t w aH hl h2 Sg Sg Sg
 ·have hL:cR L (x,a,l,t)=[]:=by unfold cR;rw[zn h0]
  rw[hL];by_cases h2:eC x=false\/t<0\/15<t\/l<1\/1000<l
  ·have e:dJ L (x,a,l,t)=1:=by unfold dJ;rw[zn h1,zy h2]
   rw[e];refine Yk b L.length cap x a l t w ?_;cases e1:eC x with
   | false=>exact .inl rfl
   | true =>rw[e1]at h2;right;have my:=h2.elim (fun h=>Um) id;simp only[qBL];omega
  ·have my:eC x=true:=by
    cases e:eC x with
    | true=>rfl
    | false=>exact absurd (.inl e) h2
   have Rt:=fun h=>h2 (.inr h)
   by_cases h4:a<288\/L.length-a<l
   ·have e:dJ L (x,a,l,t)=3:=by unfold dJ;rw[zn h1,zn h2,zy h4]
    rw[e];exact Yj b L.length cap x a l t w hl my Sg Sg Sg
   ·exact zm2
theorem vw a cap l(k:Nat) w(hb:Bs w a cap l)(hl:288<=l.length)(gS:l.length<=6400)(hk:k<8) :
  zC 63 #[.slice a l.length cap,zi k] w fun e w'=>∃a' c',e=.returned (.slice a' 11 c')/\Bs w a' c' (rowAt l k)/\w=w':=by
 obtain⟨a',hs,pI⟩:=dP (P:=prog) (t:=29) underlying29 aT hb (200+11*k) (211+11*k) Sg Sg;have e1:211+11*k-(200+11*k)=11:=Sg;rw[e1]at hs pI;have q1:((200+11*k:Nat):Int)=200+11*(k:Int):=Sg;have q2:((211+11*k:Nat):Int)=211+11*(k:Int):=Sg;rw[q1,q2]at hs;have HB:=ae pI;go_enter func63,ntmps63
 go_wp2;go_ret;exact⟨a',_,rfl,HB,rfl⟩
theorem Zd(hk:k<l.length)(h:l.getD k 0≠0):isRoot l=true:=by unfold isRoot;refine qBH.2 ⟨l.getD k 0,?_,qBZ.2 h⟩;exact Qj
theorem TJ(h:∀j,j<l.length->l.getD j 0=0):isRoot l=false:=by unfold isRoot;rw[qBz];intro x hx;obtain⟨j,hj,rfl⟩:=qAm hx;have:=h j hj;rw[show l.getD j 0=l[j] by simp[List.getD,hj]]at this;rw[this];simp
theorem IG a cap l w(hb:Bs w a cap l) :
  zC 62 #[.slice a l.length cap] w (zr (.bool (!isRoot l)) fun w'=>w=w'):=by
 have hn:=hb.2.2.1;have HB:=ae hb;have HY:=ae (fun k=>Zd (l:=l) (k:=k));have HN:=ae (TJ (l:=l));generalize isRoot l=R at*;go_enter func62,ntmps62
 go_wp2_with fail
 go_loop [3] (fun v=>∃k:Nat,k<=l.length/\v=zi k/\∀j,j<k->l.getD j 0=0) (fun v=>l.length-(intOf v).toNat)
 case atStart=>exact YR
 case round =>
  obtain⟨k,hk,rfl,bQ⟩:=hrel;by_cases aB:k<l.length
  ·obtain⟨b,off,rfl,hc⟩:=HB.at k aB;have HA:=ae (fun(h:l.getD k 0=0) (j:Nat) (hj:j<k+1)=>show l.getD j 0=0 from by
    by_cases e:j=k
    ·rw[e];exact h
    ·exact bQ j Sg)
   have HY2:=ae (HY k aB);generalize l.getD k 0=c at*;by_cases hz:c=0
   ·subst hz;go_wp2
    go_round
    case rel=>exact⟨k+1,Sg,Tc,HA rfl⟩
    case measure=>exact Te
   ·have HR:=ae (HY2 hz);go_wp2;go_ret;exact⟨by rw[aa HR];rfl,rfl⟩
  ·obtain rfl:k=l.length:=by omega
   have HR:=ae (HN bQ);go_wp2;go_ret;exact⟨by rw[aa HR];rfl,rfl⟩
theorem yv a cap l w(hb:Bs w a cap l)(hl:288<=l.length)(gS:l.length<=6400) :
  zC 60 #[.slice a l.length cap] w fun e w'=>∃v,e=.returned v/\cX Dl 2 134 w' w.heap.size v (aE l 8)/\zB w w':=by
 obtain⟨i0,dU,cO,cU,cV⟩:=qAO Jb;have HB:=ae hb;have fC:=hb.2.2.1;clear hb;go_enter func60,ntmps60
 go_wp2_with fail
 go_loopw [3,4] (fun v hv wr=>∃k:Nat,k<=8/\hv=zi k/\cX Dl 2 134 wr w.heap.size v (aE l k)/\zB w wr) (fun _ hv _=>8-(intOf hv).toNat)
 case atStart=>exact zbM
 case round =>
  obtain⟨k,hk,rfl,az,ai⟩:=hrel;obtain⟨va,vm,vc,rfl⟩:=az.shape;by_cases aB:k<8
  ·have aH:=HB.below ai;have HG:=ae (vw a cap l k wr aH hl gS aB);have Fe:(rowAt l k).length=11:=aY Sg;have HEY:=ae (fun ht=>El (l:=l) (k:=k) ht);have qs:=ae (fun ht=>IA (l:=l) (k:=k) ht);have jD:=ae (iO l k);have HO:=ae az;have aJ:=ae ai;have bW:=aJ.size;clear az ai aH;generalize rowAt l k=r at*;go_wp2_with fail
   refine HG.mono ?_;rintro e w1 ⟨a1,c1,rfl,ay,fM⟩;subst fM;have HZ:=ae (IG a1 c1 r wr ay);rw[Fe]at HZ;have aQ:=ae ay;clear ay HG;by_cases ht:isRoot r=true
   ·have HE:=ae (HEY ht);rw[ht]at HZ;obtain⟨a2,hhi,aK⟩:=jK (P:=prog) (t:=29) underlying29 aT aQ 8 Sg;rw[Fe,show((8:Nat):Int)=8 from rfl]at hhi;have h8:(r.take 8).length=8:=by rw[zLt];omega
    have uV:=ae (IH a2 c1 (r.take 8) wr aK);rw[h8]at uV;obtain⟨b,off,rfl,bf⟩:=aQ.at 10 Sg;have iT:=aQ.1.getD 10;unfold rootOf at HE;clear ht HEY qs aK h8 aQ;generalize (bI (r.take 8)).1=s at*;generalize (bI (r.take 8)).2=cc at*;generalize r.getD 10 0=x at*;have dF:=ae (aJ.alloc aJ.size (.cells #[.string s,zi x] 134));have oE:=ae (HO.below (zBr.alloc zNr (.cells #[.string s,zi x] 134)));have kq:Hid ((wr.alloc (.cells #[.string s,zi x] 134)).heap[wr.heap.size]?=some (.cells (Dl (s,x)).toArray 134 (0,0))):=ae (qAB wr _);clear HO aJ;go_wp2_with (first|(go_at_call 62;refine HZ.m ?_;intro w2 xg;subst xg)|(go_at_call 110;refine uV.m ?_;intro w2 xg;subst xg)|(at_builtin;refine aS rfl _ _ 131 rfl w.heap.size i0 (.agg #[.string ByteArray.empty,zi 0]) 24 underlying131 dU cO cU cV rfl Si Si _ _ rfl oE wr.heap.size (s,x) rfl kq rfl (VA _) (qAF jD Sg) Tb ?_))
    exact zmi
   ·have ht':isRoot r=false:=by simpa using ht
    have HE:=ae (qs ht');rw[ht']at HZ;clear ht ht' HEY qs aQ;go_wp2_with (go_at_call 62;refine HZ.m ?_;intro w2 xg;subst xg)
    exact sC
  ·obtain rfl:k=8:=by omega
   exact zoq
theorem Own.low{w}{B B' g c}(h:Own w B' g c l)(hB:B<=B'):Own w B g c l:=by exact AK
theorem zgn b cap L x a l t w(aH:Bs w b cap L)(h0:dJ L (x,a,l,t)=0) :
  zC 57 #[.slice b L.length cap,.agg #[zi x,zi a,zi l,zi t]] w fun e w'=>∃g c,e=zt #[.slice (zo g) L.length c,zi 0]/\Own w' w.heap.size g c (cR L (x,a,l,t))/\zB w w':=by
 have hL:cR L (x,a,l,t)=splice L (bT x) (fg (x,a,l,t)):=by unfold cR;rw[zy h0]
 obtain⟨z0,h1,z2⟩:=df.1 h0;dsimp only at h1 z2;have hlen:=cm.1 z0;obtain⟨t1,t2,t3,t4,t7,t8⟩:=z2;rw[hL];have HH:=ae (fun W=>iH x W);have hx:=aN.1 h1;have hp:=du hx.1 hx.2;have Zu:((bT x:Nat):Int)=5*(x-1):=XM;rw[h1]at HH;obtain⟨t5,t6⟩:=hlen;have g1:¬t<0:=Sg;have g2:¬15<t:=Sg;have g3:¬l<1:=Sg;have g4:¬1000<l:=Sg;have g5:¬a<288:=Sg;have g6:¬(L.length:Int)<a:=Sg;have g7:¬(L.length:Int)-a<l:=Sg;have HF:=ae (IL L (bT x) x a l t Sg);have l1:(putK L (bT x) (t+1) 1).length=L.length:=cg _ _ _ _;have l2:(putK (putK L (bT x) (t+1) 1) (bT x+1) a 2).length=L.length:=by rw[cg,l1]
 have l3:(putK (putK (putK L (bT x) (t+1) 1) (bT x+1) a 2) (bT x+3) l 2).length=L.length:=by rw[cg,l2]
 have m1:oW (1:Int)=255:=rfl;have m2:oW (2:Int)=65535:=rfl;have o1:dZ L (5*(x-1)) (t+1) 1=(putK L (bT x) (t+1) 1,0):=zbB;have o2:dZ (putK L (bT x) (t+1) 1) (5*(x-1)+1) a 2=(putK (putK L (bT x) (t+1) 1) (bT x+1) a 2,0):=zbB;have nh:=ae (fun(W:World) (hW:Bs W b cap L)=>vx b cap L (5*(x-1)) (t+1) 1 W hW Sg);have Gg:=ae (fun(W:World) (q:OA) (c:Nat) (hW:Bs W q c (putK L (bT x) (t+1) 1))=>vx q c (putK L (bT x) (t+1) 1) (5*(x-1)+1) a 2 W hW Sg);have ZS:(256:Int) ^ 2=65536:=rfl;have HP3:Hid (∀ (W:World) (q:OA) (c:Nat),Bs W q c (putK (putK L (bT x) (t+1) 1) (bT x+1) a 2)->zC 109 #[.slice q (putK (putK L (bT x) (t+1) 1) (bT x+1) a 2).length c,zi (5*(x-1)+3),zi l,zi 2] W fun e w'=>∃g c',e=zt #[.slice (zo g) (putK (putK L (bT x) (t+1) 1) (bT x+1) a 2).length c',zi 0]/\Own w' W.heap.size g c' (putK (putK (putK L (bT x) (t+1) 1) (bT x+1) a 2) (bT x+3) l 2)/\zB W w'):=ae (fun W q c hW=>NX q c _ (5*(x-1)+3) l 2 W hW Sg Sg Sg (bT x+3) Sg Sg Sg Sg);rw[o1]at nh;rw[o2,l1]at Gg;rw[l2]at HP3;have qp:=ae aH;have qs:=ae (qB.new w (x,a,l,t));have iX:Hid (zB w (w.alloc (.cells #[zi x,zi a,zi l,zi t] 124))):=ae (zBr.alloc zNr _);clear h1 aH o1 o2 Zu h0 z0 hL ZS;rw[<-aa HF];clear l3 HF;generalize putK L (bT x) (t+1) 1=L1 at*;generalize putK L1 (bT x+1) a 2=L2 at*;generalize putK L2 (bT x+3) l 2=L3 at*;dsimp only at nh Gg HP3;go_enter func57,ntmps57
 go_wp2_with (go_at_call 108;refine(HH _).m ?_;rintro w1 rfl)
 refine(nh _ (qp.below iX)).mono ?_;rintro e w1 ⟨a1,c1,rfl,ay,Ue⟩;have kR:=qs.below Ue Sk;obtain⟨d0,d1,d2,d3⟩:=kR.cells;have aQ:=zTr iX Ue;have wD:=ae kR;have zfb:=ae (Gg w1 a1 c1 ay);rw[l1];clear ay Ue kR nh Gg iX qs qp;go_wp2_with fail
 refine(aa zfb).mono ?_;rintro e w2 ⟨a2,c2,rfl,aK,PF⟩;have qc:=wD.below PF wD.lt;clear d0 d1 d2 d3;obtain⟨d0,d1,d2,d3⟩:=qc.cells;have bz:=zTr aQ PF;have zfa:=ae (HP3 w2 a2 c2 aK);rw[l2];clear aK PF qc zfb HP3 aQ wD;go_wp2_with fail
 refine(aa zfa).mono ?_;rintro e w3 ⟨g3,c3,rfl,bD,zdI⟩;have dF:=zTr bz zdI;have zlT:=ae (bD.low bz.size);clear bD zdI zfa bz d0 d1 d2 d3;go_wp2;go_ret2;exact⟨g3,c3,rfl,zlT,dF⟩
def nmK(l:LI)(p:Nat)(s:BA):Nat->LI
 | 0=>l
 | k+1=>(nmK l p s k).set (p+k) ((c7 s).getD k 0)
theorem p8 l p s k:(nmK l p s k).length=l.length:=by
 induction k with
 | zero=>rfl
 | succ k ih=>simp[nmK,ih]
theorem zjX l p s:∀k j,j<k->p+k<=l.length->(nmK l p s k).getD (p+j) 0=(c7 s).getD j 0:=by
 intro k;induction k with
 | zero=>intro j hj;omega
 | succ k ih =>
  intro j hj hk;have hlen:=p8 l p s k;by_cases h:j=k
  ·subst h;simp only[nmK,List.getD];exact zes
  ·have h1:=ih j Sg Sg;simp only[nmK];rw[<-h1];simp only[List.getD];rw[qBK Sg]
theorem VO l p s:∀k j,(j<p\/p+k<=j)->(nmK l p s k).getD j 0=l.getD j 0:=by
 intro k;induction k with
 | zero=>intro j _;rfl
 | succ k ih =>intro j hj;rw[<-ih j Sg];simp only[nmK,List.getD];rw[qBK Sg]
theorem zbu{i j}{c}(hi:i<l.length):(l.set i c).getD j 0=if j=i then c else l.getD j 0:=by
 by_cases h:j=i
 ·subst h;rw[zy rfl,List.getD,qBy hi];rfl
 ·rw[zn h,List.getD,qBK (fun e=>h e.symm)];rfl
theorem zgC L p s h(fc:p+11<=L.length)(hn:iW s)(h1:1<=h)(h2:h<=40) :
  (nmK (splice L p (af 11)) p s s.size).set (p+10) h=splice L p (gu (s,h)):=by
 have hz:=ag 11;have hs8:=hn.2.1;have aG:¬kp (s,h)=true:=zmJ;have hrr:gu (s,h)=bH s++[0,0,h%256]:=by unfold gu;rw[zn aG]
 have xU:=cE s hs8;have xh:(gu (s,h)).length=11:=by rw[hrr,zLa,xU];rfl
 have l0:(splice L p (af 11)).length=L.length:=length_splice Sg;have l1:(nmK (splice L p (af 11)) p s s.size).length=L.length:=by rw[p8,l0]
 have l2:(splice L p (gu (s,h))).length=L.length:=length_splice Sg;have hm:h%256=h:=Sg;apply cr
 ·rw[qAz,l1,l2]
 ·intro j hj;rw[qAz,l1]at hj;rw[zbu Sg];by_cases e10:j=p+10
  ·rw[zy e10,e10,cC Sg Sg,hrr,List.getD,qAR Sg,xU]
   show h=h%256
   omega
  ·rw[zn e10];by_cases ho:j<p\/p+11<=j
   ·rw[VO _ _ _ _ _ Sg,bh Sg Sg,bh Sg Sg]
   ·obtain⟨i,rfl⟩:∃i,j=p+i:=⟨j-p,Sg⟩;rw[cC (l:=gu (s,h)) Sg Sg,hrr];by_cases hi:i<s.size
    ·rw[zjX _ _ _ _ i hi Sg,List.getD,List.getD,qAZ Sg];have:=zN s i hi;simp only[List.getD]at this;exact this.symm
    ·rw[VO _ _ _ _ _ Sg,cC Sg Sg,nG];by_cases h8:i<8
     ·rw[List.getD,qAZ Sg];have:=zO s i Sg;simp only[List.getD]at this;exact this.symm
     ·rcases (show i=8\/i=9 by omega)with rfl|rfl
      ·rw[List.getD,qAR Sg,xU];rfl
      ·rw[List.getD,qAR Sg,xU];rfl
theorem Yi b len cap i s h w(hi:i<0\/7<i) :
  zC 64 #[.slice b len cap,zi i,.agg #[.string s,zi h]] w (AR w [] (zi 1)):=by
 by_cases h1:i<0
 ·exact N7
 ·have h2:7<i:=by omega
  exact N7
theorem wS b cap L(i:Nat) s h w(aH:Bs w b cap L)(hl:288<=L.length)(gS:L.length<=6400)(hi:i<=7) :
  zC 58 #[.slice b L.length cap,zi (200+11*(i:Int)),zi 11] (w.alloc (.cells #[.string s,zi h] 134)) fun e w'=>∃g c,e=.returned (.slice (zo g) L.length c)/\Own w' (w.heap.size+1) g c (splice L (200+11*i) (af 11))/\Below (w.heap.size+1) (w.alloc (.cells #[.string s,zi h] 134)) w':=by
 have gT:zB w (w.alloc (.cells #[.string s,zi h] 134)):=zBr.alloc zNr _;have:=wR b cap L (200+11*i) 11 _ (aH.below gT) Sg gS Sg;simp only[zB,cJ]at this;exact this
theorem zb8 b cap L(i:Nat) s h w(aH:Bs w b cap L)(hl:288<=L.length)(gS:L.length<=6400)(hi:i<=7)(h0:s.size=0)(hh:h=0) :
  zC 64 #[.slice b L.length cap,zi i,.agg #[.string s,zi h]] w (AR w (splice L (200+11*i) (af 11)) (zi 0)):=by
 subst hh;have HW:=ae (wS b cap L i s 0 w aH hl gS hi);have he:=sy s h0;have qs:=ae (GA.new w (s,0));have iE:=ae (dB (off:=200+11*i) aH.1 (cI 11));have jD:=ae (length_splice (z:=L) (l:=af 11) (off:=200+11*i) YS);generalize splice L (200+11*i) (af 11)=X at*;go_enter func64,ntmps64
 go_wp2_with fail
 refine HW.mono ?_;rintro e w1 ⟨g,c,rfl,az,ay⟩;have jl:=qs.below ay Sg;obtain⟨c0,c1⟩:=jl.cells;have HO:=ae az;have aQ:=ae (((Below.refl _ w).alloc zNr _).trans (ay.mono Sg));dsimp only at c0 c1;go_wp2;go_ret2;exact⟨some (zp g),c,by rw[aa jD];rfl,HO.bs iE (by rw[aa jD];omega),aQ,Fr.at (by have:=HO.base;omega)⟩
theorem zca b cap L(i:Nat) s h w(aH:Bs w b cap L)(hl:288<=L.length)(gS:L.length<=6400)(hi:i<=7)(h0:¬(s.size=0/\h=0))(hh:eC h=false) :
  zC 64 #[.slice b L.length cap,zi i,.agg #[.string s,zi h]] w (AR w [] (zi 1)):=by
 have HW:=ae (wS b cap L i s h w aH hl gS hi);have qs:=ae (GA.new w (s,h));have HH:=ae (fun W=>iH h W);rw[hh]at HH;generalize splice L (200+11*i) (af 11)=X at*;have uo:(s.toList.isEmpty=true/\¬h=0)\/s.toList.isEmpty=false:=by
  by_cases hs:s.size=0
  ·exact .inl ⟨sy s hs,fun e=>h0 ⟨hs,e⟩⟩
  ·exact .inr (qk s Sg)
 rcases uo with ⟨he,aG⟩|he
 all_goals
  go_enter func64,ntmps64
  go_wp2_with fail
  refine HW.mono ?_;rintro e w1 ⟨g,c,rfl,az,ay⟩;have jl:=qs.below ay Sg;obtain⟨c0,c1⟩:=jl.cells;have aQ:=ae (((Below.refl _ w).alloc zNr _).trans (ay.mono Sg));dsimp only at c0 c1;go_wp2_with (go_at_call 108;refine(HH _).m ?_;intro w2 xg;subst xg)
  go_ret2;exact⟨none,0,rfl,eu _,aQ,Fr.nil _⟩
theorem zb9 b cap L(i:Nat) s h w(aH:Bs w b cap L)(hl:288<=L.length)(gS:L.length<=6400)(hi:i<=7)(hs:s.size<=140737488351232)(hh:eC h=true)(hn:¬iW s) :
  zC 64 #[.slice b L.length cap,zi i,.agg #[.string s,zi h]] w (AR w [] (zi 2)):=by
 have HW:=ae (wS b cap L i s h w aH hl gS hi);have qs:=ae (GA.new w (s,h));have HH:=ae (fun W=>iH h W);have RC:=ae (fun W=>yw s W hs hn);have yI:=aN.1 hh;rw[hh]at HH;generalize splice L (200+11*i) (af 11)=X at*;have uo:s.toList.isEmpty=true\/s.toList.isEmpty=false:=by cases s.toList.isEmpty <;> simp
 rcases uo with he|he
 all_goals
  go_enter func64,ntmps64
  go_wp2_with fail
  refine HW.mono ?_;rintro e w1 ⟨g,c,rfl,az,ay⟩;have jl:=qs.below ay Sg;obtain⟨c0,c1⟩:=jl.cells;have aQ:=ae (((Below.refl _ w).alloc zNr _).trans (ay.mono Sg));dsimp only at c0 c1;go_wp2_with (first|(go_at_call 108;refine(HH _).m ?_;intro w2 xg;subst xg)|(go_at_call 31;refine(RC _).m ?_;intro w2 xg;subst xg))
  go_ret2;exact⟨none,0,rfl,eu _,aQ,Fr.nil _⟩
theorem zgl b cap L(i:Nat) s h w(aH:Bs w b cap L)(hl:288<=L.length)(gS:L.length<=6400)(hi:i<=7)(hh:eC h=true)(hn:iW s) :
  zC 64 #[.slice b L.length cap,zi i,.agg #[.string s,zi h]] w (AR w (splice L (200+11*i) (gu (s,h))) (zi 0)):=by
 have HW:=ae (wS b cap L i s h w aH hl gS hi);have qs:=ae (GA.new w (s,h));have HH:=ae (fun W=>iH h W);have RC:=ae (fun W=>Bo s W hn);have yI:=aN.1 hh;have aG:¬h=0:=Sg;have he:s.toList.isEmpty=false:=qk s hn.1;have hs8:=hn.2.1;have uJ:=ae (zgC L (200+11*i) s h Sg hn yI.1 yI.2);have iE:=ae (dB (z:=L) (off:=200+11*i) aH.1 (FW (s,h)));have Hi:(splice L (200+11*i) (af 11)).length=L.length:=length_splice YS;rw[hh]at HH;have g1:¬(i:Int)<0:=Sg;have g2:¬(7:Int)<i:=Sg;clear aH hh hn;generalize splice L (200+11*i) (af 11)=X at*;generalize splice L (200+11*i) (gu (s,h))=Y at*;go_enter func64,ntmps64
 go_wp2_with fail
 refine HW.mono ?_;rintro e w1 ⟨g,c,rfl,az,ay⟩;have jl:=qs.below ay Sg;obtain⟨c0,c1⟩:=jl.cells;have ja:=ae jl;have HO:=ae az;have Px:=az.base;have aQ:=ae ay;have fQ:=ay.size;simp only[zB,cJ]at fQ;dsimp only at c0 c1;clear jl az ay HW;go_wp2_with (first|(go_at_call 108;refine(HH _).m ?_;intro w2 xg;subst xg)|(go_at_call 31;refine(RC _).m ?_;intro w2 xg;subst xg))
 go_loopw [11] (fun v wr=>∃k:Nat,k<=s.size/\v=zi k/\Own wr (w.heap.size+1) g c (nmK X (200+11*i) s k)/\Below (w.heap.size+1) w1 wr) (fun v _=>s.size-(intOf v).toNat)
 case atStart=>exact⟨0,qAH _,rfl,HO,zBr⟩
 case round =>
  obtain⟨k,hk,rfl,az,ai⟩:=hrel;have jl:=ja.below ai Sg;clear c0 c1;obtain⟨c0,c1⟩:=jl.cells;dsimp only at c0 c1;have zkH:w.heap.size<g:=Sg;by_cases aB:k<s.size
  ·have kS:=az.cell (200+11*i+k) (by rw[p8];omega);have oI:=az.frozen (200+11*i+k);have oj:Hid (Own (wr.setCell ⟨g,200+11*i+k,none⟩ (.int .u8 (s[k].toNat:Int))) (w.heap.size+1) g c (nmK X (200+11*i) s (k+1))):=ae (by have:=az.set (200+11*i+k) ((c7 s).getD k 0);rw[iu s k aB]at this;unfold nmK;rw[iu s k aB];exact this);have bz:Hid (Below (w.heap.size+1) w1 (wr.setCell ⟨g,200+11*i+k,none⟩ (.int .u8 (s[k].toNat:Int)))):=ae (ai.setCell Px _);clear az ai HO aQ jl ja uJ iE;generalize (nmK X (200+11*i) s k).getD (200+11*i+k) 0=x0 at*;exact Nf
  ·obtain rfl:k=s.size:=by omega
   have kS:=az.cell (200+11*i+10) (by rw[p8];omega);have oI:=az.frozen (200+11*i+10);have e210:200+11*i+10=210+11*i:=Sg;have oj:=ae (az.set (200+11*i+10) h);rw[aa uJ,e210]at oj;rw[e210]at kS oI;have HYL:Hid (Y.length=L.length):=ae (by rw[<-aa uJ,qAz,p8,Hi]);have bz:Hid (Below (w.heap.size+1) w1 (wr.setCell ⟨g,210+11*i,none⟩ (.int .u8 h))):=ae (ai.setCell Px _);clear az ai HO jl ja uJ e210;generalize (nmK X (200+11*i) s s.size).getD (210+11*i) 0=x0 at*;go_wp2;go_ret2;refine⟨some (zp g),c,by rw[aa HYL];rfl,oj.bs iE (by rw[aa HYL];omega),?_,Fr.at Sg⟩;exact((Below.refl _ w).alloc zNr _).trans (aQ.mono Sg) |>.trans (bz.mono Sg)
theorem rm b cap L i r w(aH:Bs w b cap L)(hq:ef L.length=true)(hs:r.1.size<=140737488351232) :
  zC 64 #[.slice b L.length cap,zi i,vp r] w (AR w (rn L i r) (zi (EA L i r))):=by
 obtain⟨s,h⟩:=r;have hl:=cm.1 hq;dsimp only at hs;unfold vp;dsimp only;by_cases hi:i<0\/7<i
 ·have e:EA L i (s,h)=1:=by unfold EA;rw[zn zab,zy hi]
  have e2:rn L i (s,h)=[]:=zil;rw[e,e2];exact Yi b L.length cap i s h w hi
 ·have e:EA L i (s,h)=fA (s,h):=by unfold EA;rw[zn zab,zn hi]
  obtain⟨I,rfl⟩:=qAN (show 0<=i by omega);unfold rn;rw[e,zTn];by_cases h0:kp (s,h)=true
  ·have e1:fA (s,h)=0:=by unfold fA;rw[zy h0]
   have e2:gu (s,h)=af 11:=by unfold gu;rw[zy h0]
   rw[e1,zy rfl,e2];have:=iP.1 h0;exact zb8 b cap L I s h w aH Sg Sg Sg this.1 this.2
  ·have C5:=fun h=>h0 (iP.2 h)
   cases hh:eC h with
   | false =>
    have e1:fA (s,h)=1:=by unfold fA;rw[zn h0,zy hh]
    rw[e1,zn Si];exact zca b cap L I s h w aH Sg Sg Sg C5 hh
   | true =>
    by_cases hn:dG s=true
    ·have e1:fA (s,h)=0:=by unfold fA;rw[zn h0,zn zfA,zy hn]
     rw[e1,zy rfl];exact zgl b cap L I s h w aH Sg Sg Sg hh (cL.1 hn)
    ·have e1:fA (s,h)=2:=by unfold fA;rw[zn h0,zn zfA,zn hn]
     rw[e1,zn Si];exact zb9 b cap L I s h w aH Sg Sg Sg hs hh (fun h=>hn (cL.2 h))
theorem Y5{R:List (BA×Int)}{r}{s}(h:R[k]?=some r):bP (R.drop k) s=if r.1=s then r.2 else bP (R.drop (k+1)) s:=by
 obtain⟨hk,rfl⟩:=zLs h;rw[qBf hk];unfold bP;by_cases e:R[k].1=s
 ·rw[zy e,List.find?_cons_of_pos (p:=fun(r:(BA×Int))=>r.1 == s) (ng.2 e)];rfl
 ·rw[zn e,List.find?_cons_of_neg (p:=fun(r:(BA×Int))=>r.1 == s) (fun h=>e (ng.1 h))]
theorem Yp a cap L s w(aH:Bs w a cap L)(hl:288<=L.length)(gS:L.length<=6400) :
  zC 32 #[.slice a L.length cap,.string s] w (zr (zi (bP (aE L 8) s)) fun w'=>zB w w'):=by
 have HR:=ae (yv a cap L w aH hl gS);have hlen:=iO L 8;have fC:=aH.2.2.1;generalize aE L 8=R at*;generalize L.length=N at*;clear aH;generalize hLD:bP R s=V at*;go_enter func32,ntmps32
 go_wp2_with fail
 refine HR.mono ?_;rintro e w1 ⟨v1,rfl,eV,ay⟩;obtain⟨a1,c1,rfl,jA⟩:=eV.uM tw Sg;have sN:=ae jA;have aQ:=ae ay;have HV:Hid (bP (R.drop 0) s=V):=ae (by rw[qCE];exact hLD);clear eV jA ay HR hLD;go_wp2_with fail
 go_loopw [6] (fun iv wr=>∃k:Nat,k<=R.length/\iv=zi (k:Int)/\bP (R.drop k) s=V/\wr=w1) (fun iv _=>R.length-(intOf iv).toNat)
 case atStart=>exact⟨0,qAH _,rfl,HV,rfl⟩
 case round =>
  obtain⟨k,hk,rfl,hV,ku⟩:=hrel;subst ku;by_cases aB:k<R.length
  ·obtain⟨b1,o1,rfl,eT⟩:=sN.2.2.2 Ye;obtain⟨r,hr⟩:∃r,R[k]?=some r:=⟨R[k],zLg aB⟩;obtain⟨q0,q1⟩:=fF.root (cap:=0) eT hr;rw[Y5 hr]at hV;obtain⟨t,h⟩:=r;dsimp only at*;clear eT hr;by_cases e:t=s
   ·rw[zy e]at hV;have heq:=wJ.2 e;have HVV:=ae hV;go_wp2;go_ret;exact⟨by rw[<-aa HVV];rfl,aQ⟩
   ·rw[zn e]at hV;have heq:=gC e;have HVV:=ae hV;go_wp2;go_roundw
    case rel=>exact⟨k+1,Sg,Tc,HVV,trivial⟩
    case measure=>exact Te
  ·have Rn:k=R.length:=by omega
   have h0:0=V:=by rw[Rn,List.drop_length]at hV;exact hV
   have HVV:=ae h0;go_wp2;go_ret;exact⟨by rw[<-aa HVV];rfl,aQ⟩
