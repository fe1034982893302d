import Derived.Test.YtoiebmeajhpgcaaGreatDoorJSr
set_option maxRecDepth 100000
set_option maxHeartbeats 16000000
set_option linter.all false
namespace Go.Proofs.YtoiebmeajhpgcaaGreatDoor
variable {L l:LI}{h x:Int}{a:OA}{k cap i c B:Nat}{e:(Int×I3)}{w w':World}
open Tryz
open Go.RowKit
def InL(n:Nat)(e:(Int×I3)):Prop:=0<=e.2.1/\0<=e.2.2.1/\e.2.1+e.2.2.1<=n
theorem zac(hb:bZ L)(hl:288<=L.length)(h1:1<=h)(h2:h<=40):(0<=(ao L h).2.1/\(ao L h).2.1<=65535)/\0<=(ao L h).2.2.1/\(ao L h).2.2.1<=65535:=by have hp:=du h1 h2;unfold ao;dsimp only;rw[eY _ _ Sg,eY _ _ Sg];have e1:=hb.getD (bT h+1);have e2:=hb.getD (bT h+1+1);have e3:=hb.getD (bT h+3);have e4:=hb.getD (bT h+3+1);omega
theorem XA:strOf []={ data:=#[]}:=rfl
theorem Ch a cap L h w(aH:Bs w a cap L)(hl:288<=L.length)(h1:1<=h)(h2:h<=40)(fu:aw L h≠0->InL L.length (ao L h)) :
  zC 68 #[.slice a L.length cap,zi h] w (zr (.tuple #[zi (bw L h).1,.string (strOf (bw L h).2)]) fun w'=>zB w w'):=by
 have HE:=ae (mL a cap L h w aH hl h1 h2);unfold kV at HE;have tL:=zac (h:=h) aH.1 hl h1 h2;by_cases ht:aw L h=0
 ·rw[mM ht];rw[ht]at HE;dsimp only;rw[XA];have fC:=aH.2.2.1;clear aH fu ht h1 h2 hl tL;generalize ao L h=E at*;obtain⟨x1,x2,x3,x4⟩:=E;dsimp only at*;generalize L.length=N at*;go_enter func68,ntmps68
  go_wp2_with fail
  refine HE.m ?_;intro w1 ay;have aQ:=ae (ay.alloc ay.size (.cells #[zi x1,zi x2,zi x3,zi x4] 124));clear ay HE;go_wp2;exact zpR
 ·have ho:bw L h=nQ L (ao L h):=by unfold bw;rw[zn ht]
  rw[ho];rw[qBZ.2 ht]at HE;obtain⟨i1,i2,i3⟩:=fu ht;have fC:=aH.2.2.1;unfold nQ;generalize ao L h=E at*;obtain⟨x1,x2,x3,x4⟩:=E;dsimp only at*;obtain⟨X2,rfl⟩:=qAN i1;obtain⟨X3,rfl⟩:=qAN i2;obtain⟨p1,fQ,ay⟩:=dP (P:=prog) (t:=29) underlying29 aT aH X2 (X2+X3) Sg Sg;rw[show X2+X3-X2=X3 by omega,show((X2+X3:Nat):Int)=(X2:Int)+X3 by omega]at fQ;rw[show X2+X3-X2=X3 by omega]at ay;have e1:ju L (X2:Int) (X3:Int)=(L.drop X2).take X3:=by unfold ju;rw[zTn,zTn]
  rw[e1];have l1:((L.drop X2).take X3).length=X3:=Tb;have HCV:=ae (fun(W:World) (hW:zB w W)=>jX (P:=prog) (t:=29) (e:=9) underlying29 underlying5 underlying9 (ay.below hW));rw[l1]at HCV;generalize strOf ((L.drop X2).take X3)=s at*;clear aH ay e1 l1 ho fu ht h1 h2;generalize L.length=N at*;go_enter func68,ntmps68
  go_wp2_with fail
  refine HE.m ?_;intro w1 ay;have jz:=ay.alloc ay.size (.cells #[zi x1,zi (X2:Int),zi (X3:Int),zi x4] 124);obtain⟨c0,c1,c2,c3⟩:=(qB.new w1 (x1,(X2:Int),(X3:Int),x4)).cells;have hcv:∀n,(convert 29 9 (.slice p1 X3 (cap-X2))).run prog ((w1.alloc (.cells #[zi x1,zi (X2:Int),zi (X3:Int),zi x4] 124)).drewN n)=.ok (.string s) ((w1.alloc (.cells #[zi x1,zi (X2:Int),zi (X3:Int),zi x4] 124)).drewN n):=fun n=>HCV _ (below_drewN jz n)
  have aQ:=ae jz;dsimp only at c0 c1 c2 c3;clear ay jz HE HCV;go_wp2_with fail
  generalize w1.alloc (.cells #[zi x1,zi (X2:Int),zi (X3:Int),zi x4] 124)=W at*;go_quiet (fail)
  go_wp2;go_ret2;exact⟨rfl,below_drewN aQ nq⟩
theorem WU(hb:bZ L):bZ (bw L h).2:=by
 unfold bw nQ ju;split
 ·intro z hz;cases hz
 ·intro z hz;exact hb z (qBF (qAj hz))
def layK(l:LI)(p:Nat)(o:LI):Nat->LI
 | 0=>l
 | k+1=>(layK l p o k).set (p+k) (o.getD k 0)
theorem nS l p o k:(layK l p o k).length=l.length:=by
 induction k with
 | zero=>rfl
 | succ k ih=>simp[layK,ih]
theorem zgY l p o:∀k j,j<k->p+k<=l.length->(layK l p o k).getD (p+j) 0=o.getD j 0:=by
 intro k;induction k with
 | zero=>intro j hj;omega
 | succ k ih =>
  intro j hj hk;have hlen:=nS l p o k;by_cases h:j=k
  ·subst h;simp only[layK,List.getD];exact zes
  ·have h1:=ih j Sg Sg;simp only[layK,List.getD]at h1 ⊢;rw[qBK Sg];exact h1
theorem zc2 l p o:∀k j,(j<p\/p+k<=j)->(layK l p o k).getD j 0=l.getD j 0:=by
 intro k;induction k with
 | zero=>intro j _;rfl
 | succ k ih =>intro j hj;rw[<-ih j Sg];simp[layK,List.getD];rw[qBK Sg]
theorem OZ l p o(h:p+o.length<=l.length):layK l p o o.length=splice l p o:=by
 have hs:=length_splice (z:=l) (l:=o) (off:=p) h;apply cr
 ·rw[nS,hs]
 ·intro j hj;rw[nS]at hj;by_cases h1:j<p\/p+o.length<=j
  ·rw[zc2 l p o o.length j h1,bh h Sg]
  ·obtain⟨i,rfl⟩:∃i,j=p+i:=⟨j-p,Sg⟩;rw[zgY l p o o.length i Sg h,cC h Sg]
def enO(b:Option (Int×I3)):(Int×I3):=b.getD (0,0,0,0)
theorem zhV{a}{l:List (Int×I3)}(h:l[k]?=some e):(l.take (k+1)).foldl (Da a) none=Da a ((l.take k).foldl (Da a) none) e:=by rw[qAv,h,qBb];rfl
theorem zeG{a}(l:List (Int×I3)):∀x,l.foldl (Da a) none=some x->x∈l:=fun x hx=>by
 have:=AJ a l none (fun x hx=>TG);rw[hx]at this;rcases this.1 with h | h
 ·cases h
 ·exact h
theorem qB.drewN{g}(h:qB w g e) k:qB (w.drewN k) g e:=h
theorem pT S w n:au S S w (w.drewN n):=by
 induction n with
 | zero=>exact au.refl _ _
 | succ n ih=>exact ih.trans (au.drew _ _)
theorem XP a cap L w(aH:Bs w a cap L)(hf:aD L) :
  zC 38 #[.slice a L.length cap] w fun e w'=>∃a' c',e=.returned (.tuple #[.slice a' L.length c',.bool (rW L).isSome])/\Bs w' a' c' ((rW L).getD L)/\zB w w'/\((a'=a/\c'=cap)\/Fr w.heap.size a'):=by
 have hl:=hf.len;have hel:=dt L 40;have hLl:=aH.2.2.1;have HE:=ae (fun(W:World) (hW:zB w W)=>IJ a cap L W (aH.below hW) hl.1);have AY:=ae (fun(e:(Int×I3)) (he:e∈entsK L 40)=>eN hf he);have fP:=ae (oc.start hf);have Xb:=ae (fun(x:Int) (l1 l2:List (Int×I3)) (s:oc L x l1 l2)=>s.nf hf);have W5:=ae (fun(x:Int) (l1 r:List (Int×I3)) (e:(Int×I3)) (s:oc L x l1 (e::r)) (he:¬x<e.2.1)=>s.next hf he);have W7:=ae (fun(x:Int) (l1 r:List (Int×I3)) (e:(Int×I3)) (s:oc L x l1 (e::r)) (he:x<e.2.1)=>s.move hf he);have ze2:=ae (fun(x:Int) (l1:List (Int×I3)) (s:oc L x l1 [])=>s.stop);have Gi:=ae (fun(e:(Int×I3)) (he:e∈entsK L 40) (W:World) (hW:zB w W)=>Ch a cap L e.1 W (aH.below hW) hl.1 (eN hf he).2.1 (eN hf he).2.2.1 (fun _=>by have h1:=eN hf he;have h2:ao L e.1=e:=h1.1.symm;rw[h2];exact⟨Sg,Sg,Sg⟩));have HPE:=ae (fun(x y z t:Int) (W:World) (hW:zB w W) (h0:dJ L (x,y,z,t)=0)=>zgn a cap L x y z t W (aH.below hW) h0);have xJ:Hid (∀ (e:(Int×I3)),e∈entsK L 40->∀x:Nat,288<=x->(x:Int)<e.2.1->dJ L (e.1,(x:Int),e.2.2.1,e.2.2.2)=0/\(cR L (e.1,(x:Int),e.2.2.1,e.2.2.2)).length=L.length/\wY L e.1 x=splice (cR L (e.1,(x:Int),e.2.2.1,e.2.2.2)) x (bw L e.1).2/\(bw L e.1).2.length=e.2.2.1.toNat/\bZ (wY L e.1 x)):=ae (fun e he x hx aB=>by have h1:=eN hf he;have h2:ao L e.1=e:=h1.1.symm;have gj:=hf.nE h1.2.1 h1.2.2.1 h1.2.2.2.1;rw[h2]at gj;have h3:dJ L (e.1,(x:Int),e.2.2.1,e.2.2.2)=0:=df.2 ⟨hf.gR,aN.2 ⟨h1.2.1,h1.2.2.1⟩,gj.2.2.2.2.1,gj.2.2.2.2.2,gj.2.1,gj.2.2.1,Tu,Tu⟩;refine⟨h3,nP h3,by unfold wY;rw[h2],?_,K6 aH.1 _ _⟩;unfold bw nQ ju;rw[zn h1.2.2.2.1,h2];dsimp only;rw[zLt,zLd];omega);have HBO:Hid (∀h:Int,c7 (strOf (bw L h).2)=(bw L h).2):=ae (fun h=>iN _ (WU aH.1));have qp:=ae aH;clear aH hf;generalize rW L=MS at*;generalize entsK L 40=EN at*;generalize hN:L.length=N at*;have HN:=ae hN;clear hN;go_enter func38,ntmps38
 go_wp2_with fail
 go_loopw [4] (fun xv wr=>∃ (x:Int) (l1 l2:List (Int×I3)),xv=zi x/\oc L x l1 l2/\zB w wr) (fun xv _=>(6401-intOf xv).toNat)
 case atStart=>exact⟨288,[],_,rfl,fP,zBr⟩
 case round =>
  obtain⟨x,l1,l2,rfl,eF,ai⟩:=hrel;clear fP;obtain⟨W0,hW0⟩:∃W0,W0=wr:=⟨wr,rfl⟩;have Ms:=eF.b1;have mh:=eF.b2;rw[aa HN]at mh;have jz:zB w (wr.alloc (.cells #[zi 0,zi 0,zi 0,zi 0] 124)):=ai.alloc ai.size _;have AZ:=ae (HE _ jz);have zoS:=ae (qB.new wr (0,0,0,0));have TT:=ai.size;have U6:=ae eF;have oF:=ae jz;clear eF ai jz HE;rw[<-hW0]at*;generalize hG:W0.heap.size=G at*;clear hW0;go_wp2_with fail
  refine AZ.mono ?_;rintro e w1 ⟨v1,rfl,ru,ay⟩;have GD:=ae (fun k (hk:v1.ownBlock=some k)=>ru.block k hk);obtain⟨a1,c1,rfl,fQ⟩:=ru.uM pd Sg;have hGs:G+1<=w1.heap.size:=by have:=ay.size;rw[cJ,hG]at this;exact this
  have kR:=zoS.below ay (by rw[cJ,hG];omega);have sN:=ae fQ;have zrD:=fQ.2.2.1;have aQ:=zTr oF ay;have wD:=ae kR;have HBG:Hid (∀k,(Value.slice a1 EN.length c1).ownBlock=some k->G<k):=ae (fun k hk=>by have:=GD k hk;rw[cJ,hG]at this;omega);clear ru fQ ay kR AZ zoS oF GD;go_wp2_with fail
  go_loopw [7] (fun iv wr=>∃k:Nat,k<=EN.length/\iv=zi k/\qB wr G (enO ((EN.take k).foldl (Da x) none))/\au (fun j=>j=G) (fun j=>j=G) w1 wr) (fun iv _=>EN.length-(intOf iv).toNat)
  case atStart=>exact⟨0,qAH _,rfl,wD,au.refl _ _⟩
  case round =>
   obtain⟨k,hk,rfl,gj,kx⟩:=hrel;by_cases aB:k<EN.length
   ·have aG:EN≠[]:=by intro e;rw[e]at aB;simp at aB
    obtain⟨b1,o1,rfl,eT⟩:=sN.2.2.2 aG;obtain⟨f,hf⟩:∃f,EN[k]?=some f:=⟨EN[k],zLg aB⟩;obtain⟨p0,p1,p2,p3⟩:=fF.nE (cap:=0) eT hf;have hbG:=HBG b1 rfl;have q0:=(qAJ (a:=⟨b1,o1+k*4,none⟩) (kx.block b1 (qAA p0) Sg)).trans p0;have q1:=(qAJ (a:=⟨b1,o1+k*4+1,none⟩) (kx.block b1 (qAA p1) Sg)).trans p1;have q2:=(qAJ (a:=⟨b1,o1+k*4+2,none⟩) (kx.block b1 (qAA p2) Sg)).trans p2;have q3:=(qAJ (a:=⟨b1,o1+k*4+3,none⟩) (kx.block b1 (qAA p3) Sg)).trans p3;have Cv:=zhV (a:=x) hf;have o6:=zeG (a:=x) (EN.take k);have fu:=AY f (qAs hf);have Hu:=ae kx;have hkE:(k:Int)<(EN.length:Int):=Sg
    obtain⟨z1,z2,z3,z4⟩:=f;dsimp only at*;obtain⟨_,i1,i2,_,i3,i4,i5,i6⟩:=fu;have hlen:=gj.lt;have g0:=gj.fr 0;have g1:=gj.fr 1;have g2:=gj.fr 2;have g3:=gj.fr 3;cases hb:(EN.take k).foldl (Da x) none with
    | none =>
     rw[hb]at gj Cv;obtain⟨d0,d1,d2,d3⟩:=gj.cells;have rF:=ae gj;unfold enO at d0 d1 d2 d3;dsimp only[Option.getD]at d0 d1 d2 d3;by_cases hxz:x<=z2
     ·have e1:Da x none (z1,z2,z3,z4)=some (z1,z2,z3,z4):=by unfold Da;rw[zy ⟨hxz,fun y hy=>by cases hy⟩]
      rw[e1]at Cv;have HBT:=ae Cv;have dx:decide (z2 >= x)=true:=qAE hxz;clear eT hf aG p0 p1 p2 p3 Cv hb o6 e1 gj kx;generalize EN.length=M at*;go_wp2_with fail
      go_quiet (fail)
      go_wp2;go_roundw
      case rel=>exact⟨k+1,Sg,Tc,by rw[aa HBT];exact(rF.drewN nq).set z1 z2 z3 z4,(((((Hu.trans (pT _ _ nq)).trans (au.setCell _ _ rfl)).trans (au.setCell _ _ rfl)).trans (au.setCell _ _ rfl)).trans (au.setCell _ _ rfl))⟩
      case measure=>exact Te
     ·have e1:Da x none (z1,z2,z3,z4)=none:=by unfold Da;rw[zn (fun h=>hxz h.1)]
      rw[e1]at Cv;have HBT:=ae Cv;have dx:decide (z2 >= x)=false:=qAG hxz;clear eT hf aG p0 p1 p2 p3 Cv hb o6 e1 gj kx;generalize EN.length=M at*;go_wp2_with fail
      go_quiet (fail)
      go_wp2;go_roundw
      case rel=>exact⟨k+1,Sg,Tc,by rw[aa HBT];exact rF.drewN nq,Hu.trans (pT _ _ nq)⟩
      case measure=>exact Te
    | some y =>
     rw[hb]at gj Cv;have hyi:=(AY y (qAj (o6 y hb))).2.1;obtain⟨d0,d1,d2,d3⟩:=gj.cells;have rF:=ae gj;unfold enO at d0 d1 d2 d3;dsimp only[Option.getD]at d0 d1 d2 d3;obtain⟨y1,y2,y3,y4⟩:=y;dsimp only at d0 d1 d2 d3 hyi;have hy0:(y1 == 0)=false:=by rw[qAU];omega
     by_cases hxz:x<=z2
     ·have dx:decide (z2 >= x)=true:=qAE hxz;by_cases hzy:z2<y2
      ·have e1:Da x (some (y1,y2,y3,y4)) (z1,z2,z3,z4)=some (z1,z2,z3,z4):=by unfold Da;rw[zy ⟨hxz,fun y hy=>by cases hy;exact hzy⟩]
       rw[e1]at Cv;have HBT:=ae Cv;have dz:decide (z2<y2)=true:=qAE hzy;clear eT hf aG p0 p1 p2 p3 Cv hb o6 e1 gj kx;generalize EN.length=M at*;go_wp2_with fail
       go_quiet (fail)
       go_wp2;go_roundw
       case rel=>exact⟨k+1,Sg,Tc,by rw[aa HBT];exact(rF.drewN nq).set z1 z2 z3 z4,(((((Hu.trans (pT _ _ nq)).trans (au.setCell _ _ rfl)).trans (au.setCell _ _ rfl)).trans (au.setCell _ _ rfl)).trans (au.setCell _ _ rfl))⟩
       case measure=>exact Te
      ·have e1:Da x (some (y1,y2,y3,y4)) (z1,z2,z3,z4)=some (y1,y2,y3,y4):=by unfold Da;rw[zn (fun h=>hzy (h.2 _ rfl))]
       rw[e1]at Cv;have HBT:=ae Cv;have dz:decide (z2<y2)=false:=qAG hzy;clear eT hf aG p0 p1 p2 p3 Cv hb o6 e1 gj kx;generalize EN.length=M at*;go_wp2_with fail
       go_quiet (fail)
       go_wp2;go_roundw
       case rel=>exact⟨k+1,Sg,Tc,by rw[aa HBT];exact rF.drewN nq,Hu.trans (pT _ _ nq)⟩
       case measure=>exact Te
     ·have e1:Da x (some (y1,y2,y3,y4)) (z1,z2,z3,z4)=some (y1,y2,y3,y4):=by unfold Da;rw[zn (fun h=>hxz h.1)]
      rw[e1]at Cv;have HBT:=ae Cv;have dx:decide (z2 >= x)=false:=qAG hxz;clear eT hf aG p0 p1 p2 p3 Cv hb o6 e1 gj kx;generalize EN.length=M at*;go_wp2_with fail
      go_quiet (fail)
      go_wp2;go_roundw
      case rel=>exact⟨k+1,Sg,Tc,by rw[aa HBT];exact rF.drewN nq,Hu.trans (pT _ _ nq)⟩
      case measure=>exact Te
   ·have hkE:k=EN.length:=by omega
    rw[hkE,qAk]at gj;change qB wr G (enO (bsL x EN))at gj;rw[Xb x l1 l2 U6]at gj;have mi:¬((k:Int)<(EN.length:Int)):=Sg
    have dr:zB w wr:=aQ.trans (kx.below (fun j hj=>by rw[hj];omega) aQ.size);cases l2 with
    | nil =>have T3:=ze2 x l1 U6;obtain⟨d0,d1,d2,d3⟩:=gj.cells;unfold enO at d0;dsimp only[List.head?,Option.getD]at d0;have HMS:=ae T3;have bz:=ae dr;have zrm:=ae (qp.below dr);clear gj kx dr hkE aB hk T3 d1 d2 d3 W7 W5 xJ HPE Gi;go_wp2;go_ret2;refine⟨a,cap,by rw[aa HMS];rfl,?_,bz,.inl ⟨rfl,rfl⟩⟩;rw[aa HMS];exact zrm
    | cons e r =>
     have zdD:qB wr G e:=gj;by_cases hxe:x<e.2.1
     ·obtain⟨T3,Ly⟩:=W7 x l1 r e U6 hxe;have fu:=AY e Ly;obtain⟨X,rfl⟩:=qAN (show 0<=x by omega);rw[zTn]at T3;obtain⟨u1,u2,u3,u4,u5⟩:=xJ e Ly X Sg hxe;have oj:=ae (Gi e Ly wr dr);have Lj:=HBO e.1;generalize bw L e.1=OB at*;obtain⟨ot,os⟩:=OB;dsimp only at*;have znm:(strOf os).size=os.length:=by rw[<-bY,Lj]
      have zq7:=ae Lj;generalize strOf os=SS at*;have HMS:=ae T3;have HU2:=ae u2;have HU3:=ae u3;have HU5:=ae u5;have HU1:=ae u1;have rF:=ae zdD;have bz:=ae dr;obtain⟨_,i1,i2,_,i3,i4,i5,i6⟩:=fu;obtain⟨z1,z2,z3,z4⟩:=e;dsimp only at*;obtain⟨d0,d1,d2,d3⟩:=zdD.cells;dsimp only at d0 d1 d2 d3;have Fc:(SS.size:Int)<=1000:=Sg
      have fc:X+SS.size<=N:=Sg
      have cO:(z1 == 0)=false:=by rw[qAU];omega
      have Rx:=ae znm;clear gj zdD kx dr hkE aB hk T3 Lj u1 u2 u3 u4 u5 Ly W7 W5 xJ Gi Xb ze2 U6 znm;go_wp2_with fail
      refine oj.mono ?_;rintro e w2 ⟨rfl,aK⟩;have qc:=rF.below aK rF.lt;have mr:=zTs bz aK;clear d0 d1 d2 d3;obtain⟨d0,d1,d2,d3⟩:=qc.cells;have g1:=qc.fr 1;have Pt:=qc.lt;have Lx:qB (w2.setCell ⟨G,1,none⟩ (zi X)) G (z1,(X:Int),z3,z4):=qAI w2 G 1 _ _ (zi X) qc;have qW:zB w (w2.setCell ⟨G,1,none⟩ (zi X)):=mr.setCell (by show w.heap.size<=G;omega) _;obtain⟨f0,f1,f2,f3⟩:=Lx.cells;dsimp only at d0 d1 d2 d3 f0 f1 f2 f3;have QT:=ae (HPE z1 X z3 z4 _ qW HU1);have fh:=ae qW;clear qc Lx aK mr qW oj HPE rF bz HU1;go_wp2_with fail
      refine QT.mono ?_;rintro e w5 ⟨g5,c5,rfl,ho5,il⟩;have LF:=zTs fh il;have zkx:=ho5.low fh.size;have Rz:=ae zkx;have oM:=ae LF;have hg5:=zkx.base;clear ho5 il LF zkx QT fh d0 d1 d2 d3 f0 f1 f2 f3 g1;generalize cR L (z1,(X:Int),z3,z4)=P at*;go_wp2_with fail
      go_loopw [12] (fun iv wr=>∃k:Nat,k<=SS.size/\iv=zi k/\Own wr w.heap.size g5 c5 (layK P X (c7 SS) k)/\zB w wr) (fun iv _=>SS.size-(intOf iv).toNat)
      case atStart=>exact⟨0,qAH _,rfl,Rz,oM⟩
      case round =>
       obtain⟨j,hj,rfl,ho,ai⟩:=hrel;by_cases o7:j<SS.size
       ·have kS:=ho.cell (X+j) (by rw[nS,aa HU2];omega);have oI:=ho.frozen (X+j);have HO6:Hid (Own (wr.setCell ⟨g5,X+j,none⟩ (.int .u8 (SS[j].toNat:Int))) w.heap.size g5 c5 (layK P X (c7 SS) (j+1))):=ae (by have:=ho.set (X+j) ((c7 SS).getD j 0);rw[iu SS j o7]at this;unfold layK;rw[iu SS j o7];exact this);have HB6:Hid (zB w (wr.setCell ⟨g5,X+j,none⟩ (.int .u8 (SS[j].toNat:Int)))):=ae (ai.setCell hg5 _);clear ho ai Rz oM;generalize (layK P X (c7 SS) j).getD (X+j) 0=x0 at*;go_wp2;go_roundw
        case rel=>exact⟨j+1,Sg,Tc,HO6,HB6⟩
        case measure=>exact Te
       ·obtain rfl:j=SS.size:=by omega
        have e9:SS.size=(c7 SS).length:=(bY SS).symm;have kP:layK P X (c7 SS) SS.size=wY L z1 X:=by rw[e9,OZ P X (c7 SS) (by rw[<-e9,aa HU2];omega),aa HU3,aa zq7]
        rw[kP]at ho;have Jj:(wY L z1 X).length=N:=by rw[<-kP,nS,aa HU2]
        have HO6:=ae (ho.bs HU5 (by rw[Jj];omega));have HB6:=ae ai;have HLM:=ae Jj;clear ho ai Rz oM e9 kP Jj;go_wp2;go_ret2;refine⟨some (zp g5),c5,by rw[aa HMS];rfl,?_,HB6,.inr (Fr.at hg5)⟩;rw[aa HMS];exact HO6
     ·obtain⟨Ad,hex,hez⟩:=W5 x l1 r e U6 Sg;have Ly:e∈EN:=by have h1:=Xb x l1 (e::r) U6;exact zeG EN e h1
      have fu:=AY e Ly;obtain⟨d0,d1,d2,d3⟩:=zdD.cells;have DG:=ae Ad;have bz:=ae dr;obtain⟨_,i1,i2,_,i3,i4,i5,i6⟩:=fu;obtain⟨z1,z2,z3,z4⟩:=e;dsimp only at*;have cO:(z1 == 0)=false:=by rw[qAU];omega
      clear gj zdD kx dr hkE aB hk Ad Ly W7 W5 xJ Gi Xb ze2 U6 HPE hex;go_wp2;go_roundw
      case rel=>exact⟨x+z3,_,_,Tc,DG,bz⟩
      case measure=>exact Te
theorem zeO{e:Int}(h:l[k]?=some e):(l.take (k+1)).any (fun y=>y == x)=((l.take k).any (fun y=>y == x) || (e == x)):=by rw[qAv,h,qCR];simp
theorem XQ a cap L h w(aH:Bs w a cap L)(hf:aD L)(h1:1<=h)(h2:h<=40) :
  zC 111 #[.slice a L.length cap,zi h] w fun e w'=>∃v,e=.returned v/\cX jx 1 3 w' w.heap.size v (dR L h)/\zB w w':=by
 obtain⟨i0,dU,cO,cU,cV⟩:=qAO jR;have fC:=aH.2.2.1;have hl:=hf.len;have HO:=ae (Ch a cap L h w aH hl.1 h1 h2 (fun ht=>by have:=hf.nE h1 h2 ht;unfold InL;omega));have HH:=ae (fun(x:Int) (W:World) (hW:zB w W)=>lq a cap L x W (aH.below hW) hf.gR);have HBO:=ae (WU (L:=L) (h:=h) aH.1);have HRL:Hid (dR L h=ke L (bw L h).2 (bw L h).1.toNat):=ae rfl;have zrT:-1<=(bw L h).1/\(bw L h).1<=15:=by
  unfold bw;by_cases ht:aw L h=0
  ·rw[zy ht];decide
  ·rw[zn ht];have:=hf.nE h1 h2 ht;unfold nQ;exact Tu
 have Ln:(bw L h).2.length<=6400:=by
  unfold bw;split
  ·decide
  ·unfold nQ ju;dsimp only;exact zcR
 clear aH hf hl;generalize dR L h=RF at*;generalize (bw L h).1=t at*;generalize (bw L h).2=l at*;obtain⟨s,hs⟩:∃s,strOf l=s:=⟨_,rfl⟩;rw[hs]at HO;have lE:c7 s=l:=by rw[<-hs];exact iN l HBO
 have bW:s.size=l.length:=by rw[<-lE,bY]
 have QN:=ae lE;have zrW:s.size<=6400:=Sg;have Rx:=ae bW;clear hs lE bW Ln;generalize L.length=N at*;go_enter func111,ntmps111
 go_wp2_with fail
 refine HO.m ?_;intro w1 ay;have aQ:=ae ay;clear ay HO;go_wp2_with fail
 go_loopw [7,8] (fun v iv wr=>∃k:Nat,k<=15/\k<=l.length/\(k:Int)<=max t 0/\iv=zi k/\cX jx 1 3 wr w.heap.size v (ke L l k)/\zB w wr) (fun _ iv _=>16-(intOf iv).toNat)
 case atStart=>exact⟨0,qAH _,qAH _,Sg,rfl,cX.nil _ _,aQ⟩
 case round =>
  obtain⟨k,hk,tP,Hb,rfl,az,ai⟩:=hrel;obtain⟨va,vm,vc,rfl⟩:=az.shape;by_cases aB:(k:Int)<t/\k<l.length
  ·obtain⟨kF,fR⟩:=aB;have hi:k<s.size:=by have:=aa Rx;omega
   have Af:(k:Int)<(s.size:Int):=Sg;obtain⟨X,hX⟩:∃X:Int,((s[k]'hi).toNat:Int)=X:=⟨_,rfl⟩;have Hi:l.getD k 0=X:=by rw[<-aa QN,iu s k hi];exact hX
   have hXb:0<=X/\X<=255:=by have:=HBO.getD k;rw[Hi]at this;exact this
   have hT:ke L l (k+1)=dO L (ke L l k) X:=by rw[Bn fR,Hi]
   have HT:=ae hT;have xh:=zwq L l k;have HHX:=ae (HH X wr ai);have od:=ae az;have aJ:=ae ai;have zr9:k+1<=l.length:=fR;clear Hi hT az ai;by_cases hc:aX L X=0
   ·rw[hc]at HHX;have oK:Hid (ke L l (k+1)=if (ke L l k).any (fun y=>y == X)=true then ke L l k else ke L l k++[X]):=ae zpH;clear hc HT;generalize zdK:ke L l k=acc at*;have zrs:=ae zdK;clear zdK;go_wp2_with fail
    refine HHX.m ?_;intro w2 aK;have fL:=od.below aK;obtain⟨va2,vc2,ev,oy⟩:=fL.uM jw Sg;simp only[qAS]at ev;obtain⟨rfl,rfl,rfl⟩:=ev;have zh7:=ae oy;have oj:=ae fL;have bz:=zTr aJ aK;have ziL:=oy.2.2.1;clear fL oy aK HHX od aJ;go_wp2_with fail
    go_loop [11,12] (fun hv jv=>∃j:Nat,j<=acc.length/\jv=zi j/\hv=.bool ((acc.take j).any (fun y=>y == X))) (fun _ jv=>acc.length-(intOf jv).toNat)
    case atStart=>exact⟨0,qAH _,rfl,rfl⟩
    case round =>
     obtain⟨j,hj,rfl,rfl⟩:=hrel;by_cases o7:j<acc.length
     ·have aG:acc≠[]:=by intro e;rw[e]at o7;simp at o7
      obtain⟨b3,o3,rfl,uQ⟩:=zh7.2.2.2 aG;obtain⟨y,hy⟩:∃y,acc[j]?=some y:=⟨acc[j],zLg o7⟩;have q0:=fF.num (cap:=0) uQ hy;have HSN:=ae (zeO (x:=X) hy);clear uQ hy aG;generalize (acc.take j).any (fun y=>y == X)=hd at*;cases hd with
      | true =>
       go_wp2
       go_round
       case rel=>exact⟨j+1,Sg,Tc,by rw[aa HSN,Bool.true_or]⟩
       case measure=>exact Te
      | false =>
       go_wp2
       go_round
       case rel=>exact⟨j+1,Sg,Tc,by rw[aa HSN,qDQ]⟩
       case measure=>exact Te
     ·obtain rfl:j=acc.length:=by omega
      rw[qAk];generalize acc.any (fun y=>y == X)=hd at*;cases hd with
      | true =>rw[zy rfl]at oK;exact JJ
      | false =>
       rw[zn Sk]at oK;have oE:=ae (oj.below ((Below.refl _ w2).alloc zNr (.cells #[zi X] 3)));have dF:=ae (bz.alloc bz.size (.cells #[zi X] 3));have kq:Hid ((w2.alloc (.cells #[zi X] 3)).heap[w2.heap.size]?=some (.cells (jx X).toArray 3 (0,0))):=ae (qAB w2 _);have Fc:=bz.size;clear oj bz zh7;go_wp2_with (at_builtin;refine aS rfl _ _ 88 rfl w.heap.size i0 (zi 0) 8 underlying88 dU cO cU cV rfl Si Si _ _ rfl oE w2.heap.size X rfl kq rfl (lZ _) Sg Tb ?_)
       intro v9 w9 aU ji;rw[<-aa oK]at aU;have pO:=ae aU;have kE:=ae (dF.trans ji);obtain⟨a9,m9,c9,rfl⟩:=aU.shape;clear aU ji oE dF kq;go_wp2;go_roundw
       case rel=>exact⟨k+1,Sg,Sg,Sg,Tc,pO,kE⟩
       case measure=>exact Te
   ·have oK:Hid (ke L l (k+1)=ke L l k):=ae (by rw[aa HT];unfold dO;rw[zy hc]);have hcb:(aX L X == 0)=false:=qAU.2 hc;clear hc HT;generalize aX L X=CC at*;go_wp2_with fail
    refine HHX.m ?_;intro w2 aK;have oj:=ae (od.below aK);have bz:=zTr aJ aK;clear aK HHX od aJ;exact JJ
  ·have kP:RF=ke L l k:=by
    rw[aa HRL];by_cases hq:(k:Int)<t
    ·have:k=l.length:=by omega
     rw[this];exact zbZ Sg
    ·have:t.toNat=k:=by omega
     rw[this]
   have AO:=ae kP;have od:=ae az;have aJ:=ae ai;have uo:¬(k:Int)<t\/((k:Int)<t/\¬(k:Int)<(s.size:Int)):=by have:=aa Rx;omega
   clear kP az ai aB;rcases uo with hc|⟨hc,lI⟩
   all_goals
    go_wp2;go_ret;exact⟨_,rfl,by rw[aa AO];exact od,aJ⟩
theorem XS a1 a2 c1 c2 A B w(hA:fF jx 1 w a1 c1 A)(hB:fF jx 1 w a2 c2 B) :
  zC 112 #[.slice a1 A.length c1,.slice a2 B.length c2] w (zr (.bool (Ca A B)) fun w'=>∃n,w'=w.drewN n):=by
 have hla:=hA.2.2.1;have Ha:=hB.2.2.1;by_cases hl:A.length=B.length
 ·have e1:Ca A B=lexL A B:=by unfold Ca;rw[zy hl]
  rw[e1,<-hl];have HA:=ae hA;have HB:=ae hB;have HL:=ae hl;obtain⟨R,hR⟩:∃R,lexL A B=R:=⟨_,rfl⟩;rw[hR];have HR:=ae hR;go_enter func112,ntmps112
  go_wp2_with fail
  go_loopw [5] (fun iv wr=>∃k n:Nat,k<=A.length/\iv=zi k/\lexL (A.drop k) (B.drop k)=R/\wr=w.drewN n) (fun iv _=>A.length-(intOf iv).toNat)
  case atStart=>exact⟨0,0,qAH _,rfl,HR,rfl⟩
  case round =>
   obtain⟨k,n,hk,rfl,Co,rfl⟩:=hrel;by_cases aB:k<A.length
   ·have zhg:k<B.length:=by have:=aa HL;omega
    have znJ:A≠[]:=Ye;have znI:B≠[]:=by intro e;rw[e]at zhg;simp at zhg
    obtain⟨b1,o1,rfl,eT⟩:=HA.2.2.2 znJ;obtain⟨b2,o2,rfl,lI⟩:=HB.2.2.2 znI;obtain⟨x,hx⟩:∃x,A[k]?=some x:=⟨A[k],zLg aB⟩;obtain⟨y,hy⟩:∃y,B[k]?=some y:=⟨B[k],zLg zhg⟩;have q1:=fF.num (cap:=0) eT hx;have q2:=fF.num (cap:=0) lI hy;have fZ:=zgW hx hy;rw[Co]at fZ;by_cases Gv:x=y
    ·subst Gv;rw[zy rfl]at fZ;have fP:=ae fZ;go_wp2_with fail
     go_quiet (fail)
     go_wp2;go_roundw
     case rel=>exact⟨k+1,n+nq,Sg,Tc,fP.symm,rfl⟩
     case measure=>exact Te
    ·rw[zn Gv]at fZ;have fP:=ae fZ;have hxb:=qAU.2 Gv;go_wp2_with fail
     go_quiet (fail)
     go_wp2_with fail
     go_quiet (fail)
     go_wp2;go_ret;refine⟨by rw[aa fP];rfl,?_⟩;exact⟨_,by rw[World.drewN_drewN,World.drewN_drewN]⟩
   ·obtain rfl:k=A.length:=by omega
    have hf:R=false:=by rw[<-Co,List.drop_length];cases B.drop A.length <;> rfl
    have HF:=ae hf;go_wp2;go_ret;exact⟨by rw[aa HF];rfl,n,rfl⟩
 ·have e1:Ca A B=decide (A.length<B.length):=by unfold Ca;rw[zn hl]
  rw[e1];have hlI:=qAU.2 Sg;generalize A.length=NA,B.length=NB at*;go_enter func112,ntmps112
  go_wp2;go_ret;exact⟨rfl,0,rfl⟩
def sIV(r:OA×Nat×LI):Value:=.slice r.1 r.2.2.length r.2.1
def Wt(w:World)(t:Nat)(W:List (LI)):Prop :=∃rs:List (OA×Nat×LI),rs.map (·.2.2)=W/\w.heap[t]?=some (.cells (rs.map sIV).toArray 88 (0,0))/\∀r∈rs,fF jx 1 w r.1 r.2.1 r.2.2
theorem Zg:(prog.info? 88).map (fun i=>(i.zero,i.size,i.bytes))=some (some (.slice none 0 0),1,24):=SQ
theorem fF.same{α:Type}{enc:α->List Value}{k:Nat}{w w':World}{a:OA}{cap:Nat}{l:List α}(h:fF enc k w a cap l)(hs:∀b off,a=some ⟨b,off,none⟩->l≠[]->w'.heap[b]?=w.heap[b]?):fF enc k w' a cap l:=by obtain⟨h1,h2,h3,h4⟩:=h;refine⟨h1,h2,h3,fun aG=>?_⟩;obtain⟨b,off,rfl,hc⟩:=h4 aG;refine⟨b,off,rfl,fun i x hx j u hj=>?_⟩;have q:=hc i x hx j u hj;exact(qAJ (a:=⟨b,off+i*k+j,none⟩) (hs b off rfl aG)).trans q
section
variable {w w':World} {t:Nat} {W:List (LI)}
theorem Wt.lt(h:Wt w t W):t<w.heap.size:=by obtain⟨rs,_,h1,_⟩:=h;exact(zAg h1).1
theorem Wt.below(h:Wt w t W)(hb:zB w w'):Wt w' t W:=by have hl:=h.lt;obtain⟨rs,h0,h1,h2⟩:=h;exact⟨rs,h0,(hb.block t hl).trans h1,fun r hr=>(h2 r hr).below hb⟩
theorem Wt.fr(h:Wt w t W) i:w.frozen? (zw t i)=false:=by obtain⟨rs,_,h1,_⟩:=h;exact qAd w t i _ _ h1
theorem Wt.at(h:Wt w t W)(hi:i<W.length):∃a c,w.cell? (zw t i)=some (.slice a (W.getD i []).length c)/\fF jx 1 w a c (W.getD i []):=by obtain⟨rs,rfl,h1,h2⟩:=h;rw[zLm]at hi;have e:(rs.map (·.2.2)).getD i []=rs[i].2.2:=zdQ;rw[e];refine⟨rs[i].1,rs[i].2.1,?_,h2 _ (qAf hi)⟩;rw[qAD _ _ _ _ _ _ h1];simp[sIV,hi]
theorem Wt.apart(h:Wt w t W)(hs:fF jx 1 w a c l):∀b off,a=some ⟨b,off,none⟩->l≠[]->b≠t:=by
 rintro b off rfl aG rfl;obtain⟨rs,_,h1,_⟩:=h;obtain⟨b',off',e,hc⟩:=hs.2.2.2 aG;simp only[qAQ,qBI,qBj]at e;obtain⟨rfl,rfl⟩:=e;cases l with
 | nil=>exact aG rfl
 | cons x r =>
  have q:=hc 0 x rfl 0 _ rfl;rw[qAD _ _ _ _ _ _ h1]at q;rw[List.getElem?_toArray,qBN]at q;cases hr:rs[off+0*1+0]? with
  | none=>rw[hr]at q;simp at q
  | some r=>rw[hr]at q;simp[sIV]at q
theorem Wt.set(h:Wt w t W)(hi:i<W.length)(hs:fF jx 1 w a c l):Wt (w.setCell ⟨t,i,none⟩ (.slice a l.length c)) t (W.set i l):=by
 have Uf:∀ {a:OA} {c:Nat} {l:LI},fF jx 1 w a c l->fF jx 1 (w.setCell ⟨t,i,none⟩ (.slice a l.length c)) a c l:=fun {a c l} hs=>hs.same (fun b off e aG=>qAV _ _ _ _ (h.apart hs b off e aG))
 have zoh:∀ {a':OA} {c':Nat} {l':LI},fF jx 1 w a' c' l'->fF jx 1 (w.setCell ⟨t,i,none⟩ (.slice a l.length c)) a' c' l':=fun {a' c' l'} TU=>TU.same (fun b off e aG=>qAV _ _ _ _ (h.apart TU b off e aG))
 obtain⟨rs,rfl,h1,h2⟩:=h;rw[zLm]at hi;refine⟨rs.set i (a,c,l),by rw[List.map_set],?_,fun r hr=>?_⟩
 ·rw[qAI w t i _ _ _ h1,List.map_set];simp[sIV]
 ·rcases List.mem_or_eq_of_mem_set hr with hr|rfl
  ·exact zoh (h2 r hr)
  ·exact zoh hs
def rdI(w:World)(v:Value):LI:=match v with
 | .slice (some a) n _=>(List.range n).map (fun i=>match w.cell? ⟨a.block,a.off+i,none⟩with | some (.int _ z)=>z | _=>0)
 | _=>[]
theorem zgh(h:fF jx 1 w a c l):rdI w (.slice a l.length c)=l:=by
 by_cases aG:l=[]
 ·subst aG;cases a <;> rfl
 ·obtain⟨b,off,rfl,hc⟩:=h.2.2.2 aG;apply qCf
  ·simp[rdI]
  ·intro i h1 h2;have q:=fF.num (cap:=c) hc (zLg h2);simp only[rdI,qCx,List.getElem_range];rw[q]
def muO(w:World)(t:Nat):Nat:=match w.heap[t]? with
 | some (.cells cur _ _)=>muW (cur.toList.map (rdI w))
 | _=>0
theorem Wt.mu(h:Wt w t W):muO w t=muW W:=by
 obtain⟨rs,rfl,h1,h2⟩:=h;unfold muO;rw[h1];dsimp only
 congr 1
 rw[qDK];exact qCw (fun r hr=>zgh (h2 r hr))
end
theorem YY n:madeCells (Value.slice none 0 0).cells n=((List.replicate n ((none,0,[]):OA×Nat×LI)).map sIV).toArray:=by
 apply Array.toList_inj.1;apply qCf
 ·simp[madeCells]
 ·intro j h1 h2;simp[madeCells,Value.cells,Nat.mod_one,sIV]
theorem A4{ops}{rest}{o}{a}{Q}(hg:o.guard=none) l c(t:TypeId)(sW:o.op=Op.makeSlice t l c)(h1:prog.underlying t=some (.slice 88)) kl kc L C(hl:a.eval l=.int kl L)(hc:a.eval c=.int kc C)(hL:L=41)(hC:C=41)(hK:∀w',Wt w' w.heap.size (List.replicate 41 [])->w'.heap.size=w.heap.size+1->zB w w'->wpList prog ops Q rest (a.put o.dst (.slice (some (zp w.heap.size)) 41 41)) w') :
  wpList prog ops Q (o::rest) a w:=by
 obtain⟨i,h2,h3,h4,h5⟩:=qAO Zg;refine wpList_plain hg fun K hK'=>?_
 have cF:=run_make (P:=prog) w t 88 i _ h1 h2 h3 kl kc 41 41 Sg Sg Xu Sg;subst hL;subst hC;unfold Oper.wp;simp[execOp,sW,hl,hc,cF,Result.andThen];refine hK' _ _ (hK _ ⟨List.replicate 41 (none,0,[]),Sk,?_,fun r hr=>?_⟩ Sk (zBr.alloc zNr _))
 ·rw[qAB,h4,qCN];exact qBB (fun x=>some (Obj.cells x 88 (0,0))) (YY 41)
 ·rw[(List.mem_replicate.1 hr).2];exact⟨zNr,fun _=>rfl,qAH _,fun h=>absurd rfl h⟩
theorem zbg s h{rs:LI}{j}(hx:rs[j]?=some x):Vp s h (rs.take (j+1))=st1 (Vp s h (rs.take j)) h x:=by unfold Vp;rw[qAv,hx,qBb];rfl
theorem BS W(j:Nat):gW W (j:Int)=W.getD j []:=by unfold gW;rw[zTn]
theorem zfx{R:LI}(hx:R[k]?=some x):wi (R.take (k+1))=(wi (R.take k)).set x.toNat [x]:=by rw[qAv,hx];exact zfy _ _
def boN(v:Value):Nat:=match v with | .bool true=>1 | _=>0
theorem fF.zif{α:Type}{enc:α->List Value}{k:Nat}{w w':World}{t:Nat}{a:OA}{cap:Nat}{l:List α}(h:fF enc k w a cap l)(hk:∀x,(enc x)≠[])(ht:au (fun k=>k=t) (fun k=>k=t) w w')(hn:∀b off,a=some ⟨b,off,none⟩->l≠[]->b≠t):fF enc k w' a cap l:=by
 refine h.same (fun b off e aG=>ht.block b ?_ (hn b off e aG));obtain⟨b',off',e',hc⟩:=h.2.2.2 aG;rw[e]at e';simp only[qAQ,qBI,qBj]at e';obtain⟨rfl,rfl⟩:=e';cases l with
 | nil=>exact absurd rfl aG
 | cons x r =>
  cases hx:enc x with
  | nil=>exact absurd hx (hk x)
  | cons u v =>have q:=hc 0 x rfl 0 u (by rw[hx];rfl);exact qAA q
theorem zjZ x:jx x≠[]:=by unfold jx;simp
theorem zjY x:Dl x≠[]:=by unfold Dl;simp
theorem zfV(w:World) x:fF jx 1 (w.alloc (.cells #[zi x] 3)) (some (zp w.heap.size)) 1 [x]:=by
 refine⟨zNr,fun e=>TB,Sk,fun _=>⟨w.heap.size,0,rfl,fun i y hy j u hj=>?_⟩⟩;have hi:i=0:=by have:=(zLs hy).1;simp at this;exact this
 subst hi;obtain rfl:x=y:=by simpa using hy
 have hj0:j=0:=by have:=(zLs hj).1;simp[jx]at this;exact this
 subst hj0;rw[qAD _ _ _ _ _ _ (qAB w _)];simpa[jx]using hj
theorem XO a cap L w(aH:Bs w a cap L)(hf:aD L) :
  zC 69 #[.slice a L.length cap] w fun e w'=>∃t W,e=.returned (.slice (some (zp t)) 41 41)/\Wt w' t W/\W.length=41/\(∀h,0<=h->gW W h=wF L h)/\w.heap.size<=t/\zB w w':=by
 obtain⟨i0,dU,cO,cU,cV⟩:=qAO jR;have hl:=hf.len;have fC:=aH.2.2.1;have hr:=kJ hf;have hrf:=fD L;have HR:=ae (fun(W:World) (hW:zB w W)=>yv a cap L W (aH.below hW) hl.1 hl.2);have HRE:=ae (fun(h:Int) (W:World) (hW:zB w W) (h1:1<=h) (h2:h<=40)=>XQ a cap L h W (aH.below hW) hf h1 h2);have HRH:Hid (qu L=(aE L 8).map (·.2)):=ae rfl;have xh:=iO L 8;have AO:Hid (∀W,wy (qu L) (dR L) W->(M6 (dR L) W 40).2=false->∀h,gW W h=wF L h):=ae (fun W I hz h=>(zbb hr hrf I hz).eq hr hrf h);have zrb:Hid (∀W,wy (qu L) (dR L) W->∀k,k<=40->Prog (qu L) (dR L) (W,false) (M6 (dR L) W k)):=ae (fun W I k hk=>(D7 hr hrf I k hk).1);have zq6:Hid (∀ (h:Int) (s:List (LI)×Bool),0<=h->wy (qu L) (dR L) s.1->gW s.1 h≠[]->∀j,Prog (qu L) (dR L) s (Vp s h ((dR L h).take j))):=ae (fun h s hh I hw j=>(D6 hr hrf hh _ s I hw (fun x hx=>qAj hx)).1);have HDW:Hid (∀W,wy (qu L) (dR L) W->∀h,0<=h->Dg (gW W h)/\(gW W h).length<=41):=ae (fun W I h hh=>by
  refine⟨?_,?_⟩
  ·by_cases e:gW W h=[]
   ·rw[e];intro x hx;cases hx
   ·exact((I.y9 h hh e).dg hr hrf).1
  ·have h1:=I.short h hh;have h2:=zew W;rw[I.len]at h2;omega)
 have MC:=ae (zi3 (refs:=dR L) hr);have uV:=ae hr;have HRF:=ae hrf;have HRL:Hid (∀h,1<=h->h<=40->(dR L h).length<=15):=ae (fun h h1 h2=>by
  refine qAF (zwq L _ _) ?_;unfold bw;split
  ·decide
  ·rename_i ht
   have:=hf.nE h1 h2 ht;unfold nQ;dsimp only;omega)
 clear aH hf hr hrf;generalize qu L=RH at*;generalize dR L=rf at*;generalize aE L 8=R at*;generalize hN:L.length=N at*;clear hN;go_enter func69,ntmps69
 go_wp2_with (at_make;refine A4 rfl _ _ 145 rfl underlying145 _ _ _ _ rfl rfl rfl rfl ?_)
 intro w1 zdj fQ ay;have QR:=ae (HR w1 ay);have zlJ:Hid (Wt w1 w.heap.size (wi (RH.take 0))):=ae zdj;have aQ:=ae ay;obtain⟨t,ht⟩:∃t,t=w.heap.size:=⟨_,rfl⟩;rw[<-ht]at zlJ ⊢;have htl:t<w1.heap.size:=Sg
 have HTE:=ae ht;clear zdj ay HR fQ ht;go_wp2_with fail
 refine QR.mono ?_;rintro e w2 ⟨v2,rfl,gS,aK⟩;have H5:=ae (fun k (hk:v2.ownBlock=some k)=>gS.block k hk);obtain⟨a2,c2,rfl,oy⟩:=gS.uM tw Sg;have ze0:=ae (zlJ.below aK);have bz:=zTr aQ aK;have HAP:Hid (∀b off,a2=some ⟨b,off,none⟩->R≠[]->b≠t):=ae (fun b off e _=>by have:=H5 b (by rw[e];rfl);omega);have rJ:=ae oy;have zqv:=oy.2.2.1;have zrR:t<w2.heap.size:=ze0.lt;clear gS aK oy QR zlJ aQ H5;go_wp2_with fail
 go_loopw [5] (fun iv wr=>∃k:Nat,k<=R.length/\iv=zi (k:Int)/\Wt wr t (wi (RH.take k))/\au (fun k=>k=t) (fun k=>k=t) w2 wr) (fun iv _=>R.length-(intOf iv).toNat)
 case atStart=>exact⟨0,qAH _,rfl,ze0,au.refl _ _⟩
 case round =>
  obtain⟨k,hk,rfl,uB,kx⟩:=hrel;by_cases aB:k<R.length
  ·obtain⟨b1,o1,rfl,eT⟩:=(rJ.zif zjY kx HAP).2.2.2 Ye;obtain⟨r,hr⟩:∃r,R[k]?=some r:=⟨R[k],zLg aB⟩;obtain⟨q0,q1⟩:=fF.root (cap:=0) eT hr;have hrx:RH[k]?=some r.2:=by rw[aa HRH,qBN,hr];rfl
   have hxb:=uV r.2 (qAs hrx);have Wb:=zfx hrx;obtain⟨s,x⟩:=r;dsimp only at*;obtain⟨X,rfl⟩:=qAN (show 0<=x by omega);rw[zTn]at Wb;have hwl:(wi (RH.take k)).length=41:=zaR _;obtain⟨ta,tc,htc,_⟩:=uB.at (i:=X) Sg;have htf:=uB.fr X;have zdi:=(uB.below (zBr.alloc zNr (.cells #[zi (X:Int)] 3))).set (i:=X) Sg (zfV _ (X:Int));rw[<-Wb,World.setCell_alloc_past _ _ _ _ uB.lt]at zdi;have zdi:=zdi.below (bF zBr);have bD:=kx.trans (((au.setCell (S:=fun k=>k=t) wr (a:=⟨t,X,none⟩) (.slice (some ⟨wr.heap.size,0,none⟩) 1 1) rfl).trans (au.alloc _ _ (.cells #[zi (X:Int)] 3))).trans (au.drew _ _));have zoC:=ae bD;have znH:R≠[]:=Ye
   have aG:b1≠t:=HAP b1 o1 rfl znH;have MF:Hid (b1<w2.heap.size):=ae (by obtain⟨b',off',e',Ub⟩:=rJ.2.2.2 znH;simp only[qAQ,qBI,qBj]at e';obtain⟨rfl,rfl⟩:=e';exact qAA (Ub k _ hr 0 _ rfl));have zrQ:=uB.lt;have zeZ:=ae zdi;have hq9:=(zoC.block b1 MF aG);have g1:=qAA q1;have hq8:(((wr.setCell ⟨t,X,none⟩ (.slice (some ⟨wr.heap.size,0,none⟩) 1 1)).alloc (.cells #[zi (X:Int)] 3)).drew).cell? ⟨b1,o1+k*2+1,none⟩=some (zi (X:Int)) :=(qAJ (a:=⟨b1,o1+k*2+1,none⟩) (hq9.trans (kx.block b1 MF aG).symm)).trans q1;clear hq9 bD;have x0:(0:Int)<=(X:Int):=Sg
   have x1:(X:Int)<41:=Sg
   clear zdi kx uB eT hr hrx Wb hwl q0;go_wp2_with fail
   go_region_held3 (fun w'=>w'.cell? ⟨b1,o1+k*2+1,none⟩=some (zi (X:Int))) (first | go_keep | exact hq8) (fail)
   generalize (((wr.setCell ⟨t,X,none⟩ (.slice (some ⟨wr.heap.size,0,none⟩) 1 1)).alloc (.cells #[zi (X:Int)] 3)).drew)=w9 at*;clear hq8 htc htf;go_wp2;go_roundw
   case rel=>exact⟨k+1,Sg,Tc,zeZ,zoC⟩
   case measure=>exact Te
  ·have hkR:k=R.length:=by omega
   have hRl:RH.length=R.length:=by rw[aa HRH,zLm]
   have hwi:wi (RH.take k)=wi RH:=by rw[hkR,<-hRl,qAk]
   rw[hwi]at uB;have mi:¬((k:Int)<(R.length:Int)):=Sg
   have zq3:=ae uB;have qo:=ae (bz.trans (kx.below (B:=w.heap.size) (fun k hk=>by rw[hk,aa HTE];exact zNr) bz.size));clear uB kx hkR hRl hwi aB hk ze0 HAP rJ HRH uV bz;generalize wi RH=Wz at*;go_wp2_with fail
   go_loopw [6,7,8,9,10,11] (fun bv _ _ _ _ _ wr=>∃ (b:Bool) (W:List (LI)),bv=.bool b/\wy RH rf W/\(b=false->(M6 rf W 40).2=false)/\Wt wr t W/\zB w wr) (fun bv _ _ _ _ _ wr=>2*muO wr t+boN bv)
   case atStart=>exact⟨true,Wz,rfl,MC,fun h=>Um,zq3,qo⟩
   case round =>
    obtain⟨b,W,rfl,hI,hbf,uB,ai⟩:=hrel;have hmu:=uB.mu;cases b with
    | false =>have HX:=ae (AO W hI (hbf rfl));have HWT:=ae uB;have aJ:=ae ai;have jD:=ae hI.len;clear hI hbf uB ai hmu;go_wp2;go_ret;exact⟨t,W,rfl,HWT,jD,fun h _=>HX h,by rw[aa HTE];exact zNr,aJ⟩
    | true =>
     have HI:=ae hI;have HMU:=ae hmu;have HWT:=ae uB;have aJ:=ae ai;have HP:=ae (zrb W hI);have zlL:Hid (M6 rf W 0=(W,false)):=ae rfl;have zoF:Hid (∀k,M6 rf W (k+1)=stH rf (M6 rf W k) ((k:Int)+1)):=ae (fun k=>rfl);obtain⟨wa,TR⟩:∃wa,wa=wr:=⟨_,rfl⟩;rw[<-TR]at HMU;have HWA:=ae TR;clear hI hbf uB ai hmu TR;go_wp2_with fail
     generalize Lk:M6 rf W=sp at*;have HSP:=ae Lk;clear Lk;go_loopw [6,7,8,9,10,11] (fun bv hv _ _ _ _ wr=>∃k:Nat,k<=40/\hv=zi ((k:Int)+1)/\bv=.bool (sp k).2/\Wt wr t (sp k).1/\zB w wr) (fun _ hv _ _ _ _ _=>41-(intOf hv).toNat)
     case atStart=>exact⟨0,qAH _,rfl,by rw[aa zlL],by rw[aa zlL];exact HWT,aJ⟩
     case round =>
      obtain⟨k,hk,rfl,rfl,uB,ai⟩:=hrel;by_cases aB:k<40
      ·obtain⟨K,hK⟩:∃K:Nat,K=k+1:=⟨_,rfl⟩;have hKi:(k:Int)+1=(K:Int):=by omega
       rw[hKi];have hSS:=zoF k;rw[hKi]at hSS;have hpr:=HP k hk;have hIk:=hpr.inv;have hlen:=hIk.len;obtain⟨ta,tc,htc,hts⟩:=uB.at (i:=K) Sg;have zlM:=ae (HRE (K:Int) wr ai Sg Sg);have zp6:=HRL (K:Int) Sg Sg;have k0:(0:Int)<=(K:Int):=Sg
       have k1:(K:Int)<41:=Sg
       have k2:(K:Int)<=40:=Sg
       have hgK:gW (sp k).1 (K:Int)=(sp k).1.getD K []:=BS _ _;have HK:=ae hK;have BK:=hts.2.2.1;have HIK:=ae hIk;have Db:=ae hlen;have J0:=ae ai;have zeZ:=ae uB;by_cases ZD:(sp k).1.getD K []=[]
       ·have HE:Hid (sp (k+1)=sp k):=ae (by rw[hSS];unfold stH;rw[zy (by rw[hgK];exact ZD)]);rw[ZD]at htc;have zrS:wr.cell? ⟨t,K,none⟩=some (.slice ta 0 tc):=htc;clear hSS hpr hIk hlen htc hts hKi hK uB ai hgK ZD BK zlM zp6 HIK;go_wp2;go_roundw
        case rel=>exact⟨k+1,Sg,zaQ,by rw[aa HE],by rw[aa HE];exact zeZ,J0⟩
        case measure=>exact zbm
       ·have ew:0<((sp k).1.getD K []).length:=qBE.2 ZD;have hlz:(((((sp k).1.getD K []).length:Nat):Int) == 0)=false:=qAU.2 Sg;have HE:Hid (sp (k+1)=Vp (sp k) (K:Int) (rf (K:Int))):=ae (by rw[hSS];unfold stH;rw[zn (by rw[hgK];exact ZD)]);have HPJ:=ae (zq6 (K:Int) (sp k) k0 hIk (by rw[hgK];exact ZD));have HDG:=ae (fun x hx=>HRF (K:Int) x hx);clear hSS hpr hIk hlen hts hKi hK uB ai hgK ZD;generalize ((sp k).1.getD K []).length=gl at*;go_wp2_with fail
        refine zlM.mono ?_;rintro e w5 ⟨v5,rfl,hl5,il⟩;obtain⟨a5,c5,rfl,zhd⟩:=hl5.uM jw Sg;have zoz:=ae (zeZ.below il);have oM:=zTr J0 il;have zrr:=ae (zoz.apart zhd);have HS5:=ae zhd;have zsv:=zhd.2.2.1;clear hl5 il zhd htc hlz ew BK zlM zeZ J0;generalize rf (K:Int)=r at*;have HR0:Hid (Vp (sp k) (K:Int) (r.take 0)=sp k):=ae rfl;have HRS:=ae (fun j x hx=>zbg (sp k) (K:Int) (rs:=r) (j:=j) (x:=x) hx);generalize hsj:(fun j=>Vp (sp k) (K:Int) (r.take j))=sj at*;have HSJ:Hid (∀j,Vp (sp k) (K:Int) (r.take j)=sj j):=ae (fun j=>by rw[<-hsj]);clear hsj;go_wp2_with fail
        go_loopw [6,9,10,11] (fun bv iv _ _ wr=>∃j:Nat,j<=r.length/\iv=zi (j:Int)/\bv=.bool (sj j).2/\Wt wr t (sj j).1/\au (fun k=>k=t) (fun k=>k=t) w5 wr) (fun _ iv _ _ _=>r.length-(intOf iv).toNat)
        case atStart=>exact⟨0,qAH _,rfl,by rw[<-aa HSJ,aa HR0],by rw[<-aa HSJ,aa HR0];exact zoz,au.refl _ _⟩
        case round =>
         obtain⟨j,hj,rfl,rfl,uB,kx⟩:=hrel;by_cases o7:j<r.length
         ·have aG:r≠[]:=by intro e;rw[e]at o7;simp at o7
          have hS:=HS5.zif zjZ kx zrr;obtain⟨b3,o3,rfl,uQ⟩:=hS.2.2.2 aG;obtain⟨x,hx⟩:∃x,r[j]?=some x:=⟨r[j],zLg o7⟩;have hxb:=HDG x (qAs hx);obtain⟨X,rfl⟩:=qAN (show 0<=x by omega);have q0:=fF.num (cap:=0) uQ hx;have hI:=(HPJ j).inv;rw[aa HSJ]at hI;have eF:=HRS j _ hx;rw[aa HSJ,aa HSJ]at eF;have zr4:=hI.len;obtain⟨a1,c1,kF,fQ⟩:=uB.at (i:=K) Sg;obtain⟨a3,c3,Af,xF⟩:=uB.at (i:=X) Sg;have kA:=uB.fr X;obtain⟨d1,d2⟩:=HDW _ hI (K:Int) k0;obtain⟨d3,d4⟩:=HDW _ hI (X:Int) Sg;rw[BS]at d1 d2 d3 d4;have zno:shB (sj j).1 (K:Int) (X:Int)=(decide ((sj j).1.getD X []=[]) || decide (rk ((sj j).1.getD K []++[(X:Int)])<rk ((sj j).1.getD X []))):=by unfold shB;rw[BS,BS]
          have dL:((sj j).1.set (X:Int).toNat (gW (sj j).1 (K:Int)++[(X:Int)]),true)=((sj j).1.set X ((sj j).1.getD K []++[(X:Int)]),true):=by rw[BS,zTn]
          unfold st1 at eF;rw[zno,dL]at eF;have fP:=ae eF;have HWT:=ae uB;have Hu:=ae kx;have GC:=ae d1;have HD3:=ae d3;have sN:=ae fQ;have QP:=ae xF;have zlI:=ae hxb;have x0:(0:Int)<=(X:Int):=Sg
          have x1:(X:Int)<41:=Sg
          have zqe:t<wr.heap.size:=uB.lt;have g3:=qAA q0;have Hi:X<(sj j).1.length:=Sg
          clear eF zno dL uB kx hI fQ xF uQ hx aG hS hxb d1 d3;generalize (sj j).1.getD K []=gh at*;generalize (sj j).1.getD X []=gx at*;generalize hsw:(sj j).1=sw at*;generalize hsb:(sj j).2=sb at*;have HSW:=ae hsw;have HSB:=ae hsb;clear hsw hsb;go_wp2_with (at_builtin;refine jq rfl _ _ 88 rfl wr.heap.size i0 (zi 0) 8 underlying88 dU cO cU cV rfl Si Si (.slice none 0 0) [] rfl (cX.nil _ _) a1 c1 gh rfl sN jw lZ Tb zNr ?_)
          intro v6 w6 Cq uS
          try rw[qAg]at Cq
          have q6:=(uS.cell (p:=⟨b3,o3+j,none⟩) g3).trans q0;have hb7:zB w6 (w6.alloc (.cells #[zi (X:Int)] 3)):=zBr.alloc zNr _;have HO7:=ae (Cq.below hb7);have HB7:=ae (uS.trans (hb7.mono uS.size));have HG7:Hid ((w6.alloc (.cells #[zi (X:Int)] 3)).heap[w6.heap.size]?=some (.cells (jx (X:Int)).toArray 3 (0,0))):=ae (qAB w6 _);have zrV:=uS.size;have hgh:gh.length<=1000:=Sg
          obtain⟨a6,m6,c6,rfl⟩:=Cq.shape;clear Cq uS hb7;go_wp2_with (at_builtin;refine aS rfl _ _ 88 rfl wr.heap.size i0 (zi 0) 8 underlying88 dU cO cU cV rfl Si Si _ _ rfl HO7 w6.heap.size (X:Int) rfl HG7 rfl (lZ _) hgh Tb ?_)
          intro v8 w8 ziw hb8;have ZM:=HB7.trans hb8;have q8:=(ZM.cell (p:=⟨b3,o3+j,none⟩) g3).trans q0;have k8:=(ZM.cell (p:=⟨t,X,none⟩) zqe).trans Af;have HS8:=ae (QP.below ZM);have U5:=ae (HWT.below ZM);have zaF:=ae (Hu.trans (au.aI ZM));have xU:(gh++[(X:Int)]).length=gh.length+1:=Sk
          obtain⟨a8,c8,rfl,zhc⟩:=ziw.uM jw Sg;have HN8:=ae zhc;have HLS:=ae (XS a8 a3 c8 c3 (gh++[(X:Int)]) gx w8 zhc HS8);have hwl:Ca (gh++[(X:Int)]) gx=decide (rk (gh++[(X:Int)])<rk gx):=zaZ (GC.snoc zlI.1 zlI.2) HD3;rw[hwl]at HLS;have zsh:=zhc.2.2.1;have zsb:=HS8.2.2.1;clear ziw hb8 ZM zhc xU hwl HO7 HB7 HG7 q6 q0 kF Af HWT Hu sN QP zlI;generalize hgn:gh++[(X:Int)]=gn at*;clear hgn;generalize decide (rk gn<rk gx)=lessB at*;have Q2:Hid (∀w9,Wt w9 t sw->fF jx 1 w9 a8 c8 gn->Wt (w9.setCell ⟨t,X,none⟩ (.slice a8 gn.length c8)) t (sw.set X gn)):=ae (fun w9 h1 h2=>h1.set Hi h2);by_cases ZD:gx=[]
          ·subst ZD;have JZ:Hid (sj (j+1)=(sw.set X gn,true)):=ae (by rw[aa fP];simp);have k8':w8.cell? ⟨t,X,none⟩=some (.slice a3 0 c3):=k8;have f8:=U5.fr X;have HW9:=ae (Q2 w8 U5 HN8);have HT9:=ae (zaF.trans (au.setCell (S:=fun k=>k=t) w8 (a:=⟨t,X,none⟩) (.slice a8 gn.length c8) rfl));clear k8 HLS fP U5 zaF HN8 Q2;generalize gn.length=gnl at*;go_wp2;go_roundw
           case rel=>exact⟨j+1,Sg,Tc,by rw[aa JZ],by rw[aa JZ];exact HW9,HT9⟩
           case measure=>exact Te
          ·have hpx:0<gx.length:=qBE.2 ZD;have hlz:(((gx.length:Nat):Int) == 0)=false:=qAU.2 Sg;rw[qAG ZD,qDQ]at fP;clear ZD;cases lessB with
           | true =>
            have JZ:Hid (sj (j+1)=(sw.set X gn,true)):=ae (by rw[aa fP];simp);clear fP;generalize zkG:gx.length=gxl at*;clear zkG;go_wp2_with fail
            refine HLS.mono ?_;rintro e w9 ⟨rfl,n9,hw9⟩;have ji:zB w8 w9:=by rw[hw9];exact below_drewN zBr n9
            have q9:=(ji.cell (p:=⟨b3,o3+j,none⟩) (qAA q8)).trans q8;have k9:=(ji.cell (p:=⟨t,X,none⟩) (qAA k8)).trans k8;have zkm:=U5.below ji;have f9:=zkm.fr X;have HW9:=ae (Q2 w9 zkm (HN8.below ji));have HT9:=ae ((zaF.trans (au.aI ji)).trans (au.setCell (S:=fun k=>k=t) w9 (a:=⟨t,X,none⟩) (.slice a8 gn.length c8) rfl));clear hw9 ji q8 k8 zkm HLS U5 zaF HN8 Q2 HS8;generalize gn.length=gnl at*;go_wp2;go_roundw
            case rel=>exact⟨j+1,Sg,Tc,by rw[aa JZ],by rw[aa JZ];exact HW9,HT9⟩
            case measure=>exact Te
           | false =>
            have JZ:Hid (sj (j+1)=sj j):=ae (by rw[aa fP];simp);clear fP;generalize zkG:gx.length=gxl at*;clear zkG;go_wp2_with fail
            refine HLS.mono ?_;rintro e w9 ⟨rfl,n9,hw9⟩;have ji:zB w8 w9:=by rw[hw9];exact below_drewN zBr n9
            have HW9:=ae (U5.below ji);have HT9:=ae (zaF.trans (au.aI ji));clear hw9 ji q8 k8 HLS U5 zaF HN8 Q2 HS8;go_wp2;go_roundw
            case rel=>exact⟨j+1,Sg,Tc,by rw[aa JZ,aa HSB],by rw[aa JZ,aa HSW];exact HW9,HT9⟩
            case measure=>exact Te
         ·have hjq:sj j=Vp (sp k) (K:Int) r:=by rw[<-aa HSJ,show j=r.length by omega,qAk]
          rw[hjq,<-aa HE]at uB;rw[hjq,<-aa HE];have zq4:=ae uB;have kE:=ae (oM.trans (kx.below (B:=w.heap.size) (fun k hk=>by rw[hk,aa HTE];exact zNr) oM.size));have mi:¬((j:Int)<(r.length:Int)):=Sg
          clear uB kx hjq o7 hj;go_wp2;go_roundw
          case rel=>exact⟨k+1,Sg,zaQ,rfl,zq4,kE⟩
          case measure=>exact zbm
      ·obtain rfl:k=40:=by omega
       have hpr:=HP 40 zNr;have hle:muO wr t=muW (sp 40).1:=uB.mu;have ze0:=ae uB;have zoY:=ae ai;have Mh:=ae hpr;have uK:=ae hle;have zir:(M6 rf W 40)=sp 40:=by rw[aa HSP]
       have zoG:=ae zir;clear hpr hle uB ai aB hk zir zoF HP zlL;generalize sp 40=s9 at*;obtain⟨s1,s2⟩:=s9;dsimp only at*;go_wp2;go_roundw
       case rel=>exact⟨s2,s1,rfl,Mh.inv,fun h=>by have e:=Mh.flag h;have e1:s1=W:=qBB Prod.fst e;rw[e1,aa zoG];exact h,ze0,zoY⟩
       case measure =>
        rw[<-aa HWA,aa uK,aa HMU];cases s2 with
        | true =>have:=Mh.less rfl rfl;dsimp only at this;simp only[boN];omega
        | false =>have e:=Mh.flag rfl;have e1:s1=W:=qBB Prod.fst e;rw[e1];simp only[boN];omega
theorem zcQ L k:G0 L (k+1)=if aw L ((k:Int)+1)≠0/\G3 L ((k:Int)+1)=true then G0 L k++[(k:Int)+1]else G0 L k:=by
 unfold G0;rw[qBl,qAc,qCF];by_cases h:aw L ((k:Int)+1)≠0/\G3 L ((k:Int)+1)=true
 ·rw[zy h];simp[h.1,h.2]
 ·rw[zn h];by_cases h1:aw L ((k:Int)+1)=0
  ·simp[h1]
  ·have h2:G3 L ((k:Int)+1)=false:=by
    cases e:G3 L ((k:Int)+1)with
    | false=>rfl
    | true=>exact absurd ⟨h1,e⟩ h
   simp[h2]
theorem zna L k:∀x∈G0 L k,x ∉ jn L k:=fun x h1 h2=>(VX.1 h1).2.2 (xc.1 h2).2.2
theorem zcP L k:(G0 L k).length<=k:=by unfold G0;exact qAF (qBe _ _) Sk
theorem cX.zlB{v1 v2}{l1 l2}(h1:cX jx 1 3 w B v1 l1)(h2:cX jx 1 3 w B v2 l2)(n1:l1=[]->v1=.slice none 0 0)(n2:l2=[]->v2=.slice none 0 0)(hd:∀x∈l1,x ∉ l2):∀g,v1.ownBlock=some g->v2.ownBlock≠some g:=by
 intro g e1 e2;cases l1 with
 | nil=>rw[n1 rfl]at e1;cases e1
 | cons x r1 =>
  cases l2 with
  | nil=>rw[n2 rfl]at e2;cases e2
  | cons y r2 =>
   rcases h1.2 with ⟨rfl,_⟩|⟨g1,c1,u1,rfl,_,ay,_,_,_,t1⟩
   ·cases e1
   rcases h2.2 with ⟨rfl,_⟩|⟨g2,c2,u2,rfl,_,aK,_,_,_,t2⟩
   ·cases e2
   simp[Value.ownBlock]at e1 e2;subst e1;subst e2;rw[ay]at aK;simp at aK;subst aK;have a1:u1.toList[0]?=some (zi x):=by have:=qBB (fun l=>l[0]?) t1;simpa[jx]using this
   have a2:u1.toList[0]?=some (zi y):=by have:=qBB (fun l=>l[0]?) t2;simpa[jx]using this
   rw[a1]at a2;have:x=y:=by simpa using a2
   exact hd x Sk (by rw[this];simp)
theorem cX.zio{α:Type}{enc:α->List Value}{k T:Nat}{w w':World}{B:Nat}{v v':Value}{l':List α}(h':cX enc k T w B v' l')(ha:∀g,v.ownBlock=some g->v'.ownBlock≠some g)
  (hk:∀j,j<w.heap.size->v.ownBlock≠some j->w'.heap[j]?=w.heap[j]?):cX enc k T w' B v' l':=by
 refine⟨h'.1,?_⟩;rcases h'.2 with h0|⟨g,cap,cur,rfl,hB,hc,h3⟩
 ·exact .inl h0
 ·exact .inr ⟨g,cap,cur,rfl,hB,(hk g (zAg hc).1 (fun e=>ha g e rfl)).trans hc,h3⟩
theorem XR a cap L w(aH:Bs w a cap L)(hf:aD L) :
  zC 39 #[.slice a L.length cap] w fun e w'=>∃v1 v2,e=.returned (.tuple #[v1,v2])/\cX jx 1 3 w' w.heap.size v1 (G0 L 40)/\cX jx 1 3 w' w.heap.size v2 (jn L 40)/\zB w w':=by
 obtain⟨i0,dU,cO,cU,cV⟩:=qAO jR;have hl:=hf.len;have fC:=aH.2.2.1;have HW:=ae (XO a cap L w aH hf);have HE:=ae (fun(h:Int) (W:World) (hW:zB w W) (h1:1<=h) (h2:h<=40)=>mL a cap L h W (aH.below hW) hl.1 h1 h2);unfold kV at HE;have HLS:=ae (fun k=>zcQ L k);have HDS:=ae (fun k=>Qf L k);have Mk:=ae (fun k=>zcP L k);have HDL:=ae (fun k=>xr L k);have HDJ:=ae (fun k=>zna L k);have H0:Hid (G0 L 0=[]/\jn L 0=[]):=ae ⟨rfl,rfl⟩;have Xa:Hid (∀h,G3 L h=decide (wF L h≠[])):=ae (fun h=>rfl);clear aH hf;generalize G0 L=lk at*;generalize jn L=dk at*;generalize hN:L.length=N at*;clear hN;go_enter func39,ntmps39
 go_wp2_with fail
 refine HW.mono ?_;rintro e w1 ⟨t,W,rfl,zdj,hwl,hgw,htl,ay⟩;have HWT:=ae zdj;have aQ:=ae ay;have HGW:=ae hgw;clear zdj ay hgw HW;go_wp2_with fail
 go_loopw [5,6,7,8,9] (fun v1 v2 hv _ _ wr=>∃k:Nat,k<=40/\hv=zi ((k:Int)+1)/\cX jx 1 3 wr w1.heap.size v1 (lk k)/\cX jx 1 3 wr w1.heap.size v2 (dk k)/\(lk k=[]->v1=.slice none 0 0)/\(dk k=[]->v2=.slice none 0 0)/\zB w1 wr) (fun _ _ hv _ _ _=>41-(intOf hv).toNat)
 case atStart=>exact⟨0,qAH _,rfl,by rw[H0.1];exact cX.nil _ _,by rw[H0.2];exact cX.nil _ _,fun _=>rfl,fun _=>rfl,zBr⟩
 case round =>
  obtain⟨k,hk,rfl,ru,nU,Gx,xj,ai⟩:=hrel;by_cases aB:k<40
  ·obtain⟨K,hK⟩:∃K:Nat,K=k+1:=⟨_,rfl⟩;have hKi:(k:Int)+1=(K:Int):=by omega
   have hls:=HLS k;have T8:=HDS k;have hll:=Mk k;have Mv:=HDL k;rw[hKi]at hls T8;rw[hKi];have HEX:=ae (HE (K:Int) wr (zTs aQ ai) Sg Sg);have Jh:=Xa (K:Int);rw[<-HGW (K:Int) Sg,BS]at Jh;obtain⟨ta,tc,htc,hts⟩:=HWT.at (i:=K) Sg;have k0:(0:Int)<=(K:Int):=Sg
   have k1:(K:Int)<41:=Sg
   have k2:(K:Int)<=40:=Sg
   have HK:=ae hK;have BK:=hts.2.2.1;have HAP:=ae (cX.zlB ru nU Gx xj (HDJ k));have B7:=ae ru;have oj:=ae nU;have HN1:=ae Gx;have pP:=ae xj;have aJ:=ae ai;obtain⟨va1,vm1,vc1,hv1⟩:=ru.shape;obtain⟨va2,vm2,vc2,hv2⟩:=nU.shape;subst hv1;subst hv2;clear ru nU Gx xj ai hts hKi hK;generalize ao L (K:Int)=E at*;obtain⟨e1,e2,e3,e4⟩:=E;dsimp only at HEX;by_cases ht:aw L (K:Int)=0
   ·have JY:Hid (lk (k+1)=lk k/\dk (k+1)=dk k):=ae ⟨by rw[hls,zn (fun h=>h.1 ht)],by rw[T8,zn (fun h=>h.1 ht)]⟩;rw[show(aw L (K:Int) != 0)=false by rw[ht];rfl]at HEX;clear hls T8 Jh ht htc BK;go_wp2_with fail
    refine HEX.mono ?_;rintro e w2 ⟨rfl,aK⟩;have bD:zB wr (w2.alloc (.cells #[zi e1,zi e2,zi e3,zi e4] 124)):=aK.alloc aK.size _;have QV:=ae (B7.below bD);have QU:=ae (oj.below bD);have dF:=zTr aJ bD;clear aK bD HEX B7 oj aJ;go_wp2;go_roundw
    case rel=>exact⟨k+1,Sg,zaQ,by rw[JY.1];exact QV,by rw[JY.2];exact QU,by rw[JY.1];exact HN1,by rw[JY.2];exact pP,dF⟩
    case measure=>exact zbm
   ·rw[qBZ.2 ht]at HEX;have CX:wr.cell? ⟨t,K,none⟩=some (.slice ta (W.getD K []).length tc):=(aJ.cell (p:=⟨t,K,none⟩) (qAA htc)).trans htc;clear htc;by_cases hgo:W.getD K []=[]
    ·have AU:G3 L (K:Int)=false:=by rw[Jh];exact qAG (fun h=>h hgo)
     have JY:Hid (lk (k+1)=lk k/\dk (k+1)=dk k++[(K:Int)]):=ae ⟨by rw[hls,zn (fun h=>by rw[AU]at h;cases h.2)],by rw[T8,zy ⟨ht,AU⟩]⟩;rw[hgo]at CX;have CX:wr.cell? ⟨t,K,none⟩=some (.slice ta 0 tc):=CX;clear hls T8 Jh ht AU hgo BK;go_wp2_with fail
     refine HEX.mono ?_;rintro e w2 ⟨rfl,aK⟩;have bD:zB wr ((w2.alloc (.cells #[zi e1,zi e2,zi e3,zi e4] 124)).alloc (.cells #[zi (K:Int)] 3)):=(aK.alloc aK.size _).alloc znd _;have kq:Hid (((w2.alloc (.cells #[zi e1,zi e2,zi e3,zi e4] 124)).alloc (.cells #[zi (K:Int)] 3)).heap[w2.heap.size+1]?=some (.cells (jx (K:Int)).toArray 3 (0,0))):=ae zo9;have qT:=(aK.cell (p:=⟨t,K,none⟩) (qAA CX)).trans CX;have g2:=qAA qT;have QV:=ae (B7.below bD);have QU:=ae (oj.below bD);have dF:=zTr aJ bD;have zp1:w1.heap.size<=w2.heap.size:=qAF aJ.size aK.size;clear aK bD HEX B7 oj aJ CX;generalize hac:dk k=acc at QU JY;have zk3:acc.length<=1000:=by rw[<-hac];omega
     clear hac;go_wp2_with (at_builtin;refine kH rfl _ _ 88 rfl w1.heap.size i0 (zi 0) 8 underlying88 dU cO cU cV rfl Si Si _ _ rfl QU (w2.heap.size+1) (K:Int) rfl kq rfl (lZ _) zk3 Tb ?_)
     intro v9 w9 aU ji Lt;have HOT:=ae (QV.zio (fun g e1 e2=>HAP g e2 e1) (fun j hj aG=>Lt j (by rw[cJ,cJ]at hj;exact hj) aG));rw[<-JY.2]at aU;have pO:=ae aU;have kE:=ae (dF.trans ji);obtain⟨a9,m9,c9,rfl⟩:=aU.shape;clear aU ji Lt QV QU dF kq qT;go_wp2;go_roundw
     case rel=>exact⟨k+1,Sg,zaQ,by rw[JY.1];exact HOT,pO,by rw[JY.1];exact HN1,fun h=>by rw[JY.2]at h;simp at h,kE⟩
     case measure=>exact zbm
    ·have AU:G3 L (K:Int)=true:=by rw[Jh];exact qAE hgo
     have JY:Hid (lk (k+1)=lk k++[(K:Int)]/\dk (k+1)=dk k):=ae ⟨by rw[hls,zy ⟨ht,AU⟩],by rw[T8,zn (fun h=>by rw[AU]at h;cases h.2)]⟩;have ew:0<(W.getD K []).length:=qBE.2 hgo;clear hls T8 Jh ht AU hgo;generalize (W.getD K []).length=gl at*;have hpi:(0:Int)<(gl:Int):=Sg
     go_wp2_with fail
     refine HEX.mono ?_;rintro e w2 ⟨rfl,aK⟩;have bD:zB wr ((w2.alloc (.cells #[zi e1,zi e2,zi e3,zi e4] 124)).alloc (.cells #[zi (K:Int)] 3)):=(aK.alloc aK.size _).alloc znd _;have kq:Hid (((w2.alloc (.cells #[zi e1,zi e2,zi e3,zi e4] 124)).alloc (.cells #[zi (K:Int)] 3)).heap[w2.heap.size+1]?=some (.cells (jx (K:Int)).toArray 3 (0,0))):=ae zo9;have qT:=(aK.cell (p:=⟨t,K,none⟩) (qAA CX)).trans CX;have g2:=qAA qT;have QV:=ae (B7.below bD);have QU:=ae (oj.below bD);have dF:=zTr aJ bD;have zp1:w1.heap.size<=w2.heap.size:=qAF aJ.size aK.size;clear aK bD HEX B7 oj aJ CX;generalize hac:lk k=acc at QV JY;have zk3:acc.length<=1000:=by rw[<-hac];omega
     clear hac;go_wp2_with (at_builtin;refine kH rfl _ _ 88 rfl w1.heap.size i0 (zi 0) 8 underlying88 dU cO cU cV rfl Si Si _ _ rfl QV (w2.heap.size+1) (K:Int) rfl kq rfl (lZ _) zk3 Tb ?_)
     intro v9 w9 aU ji Lt;have HOT:=ae (QU.zio HAP (fun j hj aG=>Lt j (by rw[cJ,cJ]at hj;exact hj) aG));rw[<-JY.1]at aU;have pO:=ae aU;have kE:=ae (dF.trans ji);obtain⟨a9,m9,c9,rfl⟩:=aU.shape;clear aU ji Lt QV QU dF kq qT;go_wp2;go_roundw
     case rel=>exact⟨k+1,Sg,zaQ,pO,by rw[JY.2];exact HOT,fun h=>by rw[JY.1]at h;simp at h,by rw[JY.2];exact pP,kE⟩
     case measure=>exact zbm
  ·obtain rfl:k=40:=by omega
   have B7:=ae (ru.OS aQ.size);have oj:=ae (nU.OS aQ.size);have bz:=zTr aQ ai;obtain⟨va1,vm1,vc1,hv1⟩:=ru.shape;obtain⟨va2,vm2,vc2,hv2⟩:=nU.shape;subst hv1;subst hv2;clear ru nU Gx xj ai;go_wp2;go_ret2;exact⟨_,_,rfl,B7,oj,bz⟩
