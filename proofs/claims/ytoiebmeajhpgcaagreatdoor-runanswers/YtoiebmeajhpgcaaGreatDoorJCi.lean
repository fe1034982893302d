import Derived.Shelf.Spec.SlicesGrow
import Derived.Ground.Names8Prog
import Derived.Test.YtoiebmeajhpgcaaGreatDoorJCh
import Derived.Test.YtoiebmeajhpgcaaGreatDoorJAs
import Derived.Test.YtoiebmeajhpgcaaGreatDoorJHp
set_option maxRecDepth 100000
set_option maxHeartbeats 16000000
set_option linter.all false
namespace Go.Proofs.YtoiebmeajhpgcaaGreatDoor
open Tryz
open Go.RowKit
section
open Go.Shelf
def FC:Ren:={ f:=fun | 4=>271 | n=>n,t:=fun | 22=>274 | 25=>322 | 3=>3 | 4=>4 | 9=>9 | 20=>20 | 0=>0 | 2=>3 | n=>n,g:=fun n=>n }
theorem zd1:Lays8.n4 prog FC:={ mixed:=SQ,f4:=⟨ "slices.Grow[[]vaultkeel/api.Fault,vaultkeel/api.Fault]",Si,func271.trans rfl⟩,t0:=underlying0,a0:=isAgg0,z0:=sizeOf0,v0:=zeroValue0,t3:=underlying3,a3:=isAgg3,z3:=sizeOf3,v3:=zeroValue3,t4:=underlying4,a4:=isAgg4,z4:=sizeOf4,v4:=zeroValue4,t9:=underlying9,a9:=isAgg9,z9:=sizeOf9,v9:=zeroValue9,t20:=underlying20,a20:=isAgg20,z20:=sizeOf20,v20:=zeroValue20,t22:=underlying274,a22:=isAgg274,z22:=sizeOf274,v22:=zeroValue274 }
theorem zdP(n:Nat) w(hn:n<=1000) :
  zC 271 #[.slice none 0 0,zi n] w fun r w'=>∃v,r=.returned v/\cX Hk 2 322 w' w.heap.size v []/\zB w w':=by
 obtain⟨i0,dU,cO,cU,cV⟩:=qAO zZ;by_cases h0:n=0
 ·subst h0;have h:=Any8.slices_Grow_room zd1 none 0 0 0 w zNr Si Si zNr;exact h.mono fun r w' ⟨hr,hw⟩=>⟨_,hr,cX.nil _ _,Xd⟩
 ·have h:=Any8.slices_Grow_grow zd1 i0 _ dU cO Sg none 0 0 n [] w zNr Sg (by rw[cV];omega) Sg Sk (fun _=>rfl) (fun a ha=>by cases ha);refine h.mono fun r w' ⟨hr,hw⟩=>⟨_,hr,?_,by rw[hw];exact(Below.refl _ w).drew.alloc zNr _⟩
  rw[hw];have hz:∀m:Nat,(Builtin.zeroCells (Value.agg #[zi 0,zi 0]).cells m).size=m*2:=fun m=>by simp[Builtin.zeroCells,Value.cells]
  have mi:=grownCap_ge w (0+n) 0 (FC.t 25);refine⟨Sk,.inr ⟨w.heap.size,_,_,rfl,zNr,qAB w.drew _,qAH _,grownCap_le_maxLen w _ _ _ Ts,?_,Sk⟩⟩;rw[Array.size_append,Array.size_append,hz,hz];generalize grownCap w (0+n) 0 _=G at*;simp;omega
theorem UF g a1 a2 c1 c2 l1 l2 w(hg:w.heap[g]?=some (.cells #[.slice a1 l1.length c1,.slice a2 l2.length c2] 274 (0,0)))(h1:fF Hk 2 w a1 c1 l1)(h2:fF Hk 2 w a2 c2 l2)(Gx:l1.length<=400)(xj:l2.length<=400) :
  zC 217 #[.slice (zo g) 2 2] w fun r w'=>∃v,r=.returned v/\cX Hk 2 322 w' w.heap.size v (l1++l2)/\zB w w':=by
 obtain⟨i0,dU,cO,cU,cV⟩:=qAO zZ;have q0:w.cell? (zp g)=some (.slice a1 l1.length c1):=by rw[qAD _ _ _ _ _ _ hg];rfl
 have q1:w.cell? (zw g 1)=some (.slice a2 l2.length c2):=by rw[qAD _ _ _ _ _ _ hg];rfl
 have zkH:=qAA q0;dsimp only at zkH;have HG:=ae (zdP (l1.length+l2.length) w Sg);rw[show((l1.length+l2.length:Nat):Int)=(l1.length:Int)+l2.length by omega]at HG;have H1:=ae h1;have H2:=ae h2;go_enter func217,ntmps217
 go_wp2_with fail
 go_loop [3,11] (fun sz iv=>(iv=zi 0/\sz=zi 0)\/(iv=zi 1/\sz=zi (l1.length:Int))\/(iv=zi 2/\sz=zi ((l1.length:Int)+l2.length))) (fun _ iv=>2-(intOf iv).toNat)
 case atStart=>exact .inl ⟨rfl,rfl⟩
 case round =>
  rcases hrel with ⟨rfl,rfl⟩|⟨rfl,rfl⟩|⟨rfl,rfl⟩
  ·go_wp2
   go_round
   case rel=>exact .inr (.inl ⟨rfl,rfl⟩)
   case measure=>simp[intOf]
  ·go_wp2
   go_round
   case rel=>exact .inr (.inr ⟨rfl,rfl⟩)
   case measure=>simp[intOf]
  ·go_wp2_with fail
   refine HG.mono ?_;rintro e w1 ⟨v1,rfl,eV,ay⟩;obtain⟨va,vm,vc,rfl⟩:=eV.shape;have B7:=ae eV;have aQ:=ae ay;go_wp2_with fail
   go_loopw [6,27] (fun v iv wr=>zB w wr/\((iv=zi 0/\cX Hk 2 322 wr w.heap.size v [])\/(iv=zi 1/\cX Hk 2 322 wr w.heap.size v l1)\/(iv=zi 2/\cX Hk 2 322 wr w.heap.size v (l1++l2)))) (fun _ iv _=>2-(intOf iv).toNat)
   case atStart=>exact⟨aQ,.inl ⟨rfl,B7⟩⟩
   case round =>
    obtain⟨ai,hrel⟩:=hrel;have BK:=qAL zkH ai.size;have bW:=ai.size;have r0:=(ai.cell (qAA q0)).trans q0;have r1:=(ai.cell (qAA q1)).trans q1;have sN:=ae (H1.below ai);have rJ:=ae (H2.below ai);have aJ:=ae ai;rcases hrel with ⟨rfl,az⟩|⟨rfl,az⟩|⟨rfl,az⟩
    ·obtain⟨ya,ym,yc,rfl⟩:=az.shape;have HO:=ae az;go_wp2_with (at_builtin;refine jq rfl _ _ 274 rfl w.heap.size i0 (.agg #[zi 0,zi 0]) 16 underlying274 dU cO cU cV rfl Si Si _ _ rfl HO a1 c1 l1 rfl sN xo xn Tb bW ?_)
     intro v9 w9 aU dS;have pO:=ae aU;have kE:=ae (aJ.trans dS);obtain⟨a9,m9,c9,rfl⟩:=aU.shape;go_wp2;go_roundw
     case rel=>exact⟨kE,.inr (.inl ⟨rfl,pO⟩)⟩
     case measure=>simp[intOf]
    ·obtain⟨ya,ym,yc,rfl⟩:=az.shape;have HO:=ae az;go_wp2_with (at_builtin;refine jq rfl _ _ 274 rfl w.heap.size i0 (.agg #[zi 0,zi 0]) 16 underlying274 dU cO cU cV rfl Si Si _ _ rfl HO a2 c2 l2 rfl rJ xo xn Sg bW ?_)
     intro v9 w9 aU dS;have pO:=ae aU;have kE:=ae (aJ.trans dS);obtain⟨a9,m9,c9,rfl⟩:=aU.shape;go_wp2;go_roundw
     case rel=>exact⟨kE,.inr (.inr ⟨rfl,pO⟩)⟩
     case measure=>simp[intOf]
    ·obtain⟨ya,ym,yc,rfl⟩:=az.shape;have HO:=ae az;exact zla
end
theorem L4 a cap L w(aH:Bs w a cap L)(hq:ef L.length=true) :
  zC 172 #[.slice a L.length cap] w fun e w'=>∃v,e=zt #[v,.nilIface]/\cX Hk 2 322 w' w.heap.size v (da L)/\zB w w':=by
 have HE:=ae (mQ a cap L w aH hq);have fC:=aH.2.2.1;have HB:=ae aH;have HQ:=ae hq;have iE:=ae aH.1;clear hq aH;go_enter func172,ntmps172
 go_wp2_with fail
 refine HE.mono ?_;rintro e w1 ⟨v1,rfl,eV,ay⟩;obtain⟨a1,c1,rfl,jA⟩:=eV.uM pd (qAF (dt L 40) Si);have HM:=ae (OO L a1 c1 w1 iE HQ jA);have aQ:=ae ay;have hel:(entsK L 40).length<=40:=dt L 40;generalize (entsK L 40).length=EN at*;clear eV jA ay HE;go_wp2_with fail
 refine HM.m ?_;rintro w2 ⟨kz,aK⟩;have dr:=zTs aQ aK;have HH:=ae (LP a cap L w1.heap.size w2 (HB.below dr) HQ kz);have AN:=ae kz;have bz:=ae dr;clear kz aK dr HM aQ;go_wp2_with fail
 refine HH.mono ?_;rintro e w3 ⟨v3,rfl,qU,bD⟩;have mr:=zTs bz bD;have HR:=ae (Us a cap L w1.heap.size w3 (HB.below mr) HQ (AN.below bD));obtain⟨a3,c3,rfl,Zp⟩:=qU.uM xo (qAF (Ai L 40) Si);have QP:=ae Zp;have dF:=ae mr;clear qU Zp bD mr HH bz AN;go_wp2_with fail
 refine HR.mono ?_;rintro e w4 ⟨v4,rfl,zix,eU⟩;obtain⟨a4,c4,rfl,zdn⟩:=zix.uM xo (qAF (zD L 8) Si);have qW:=zTs dF eU;have jz:zB w4 (w4.alloc (.cells #[.slice a3 (AW L 40).length c3,.slice a4 (AS L 8).length c4] 274)):=zBr.alloc zNr _;have HC:=ae (UF w4.heap.size a3 a4 c3 c4 _ _ (w4.alloc (.cells #[.slice a3 (AW L 40).length c3,.slice a4 (AS L 8).length c4] 274)) (qAB w4 _) ((QP.below eU).below jz) (zdn.below jz) (qAF (Ai L 40) Si) (qAF (zD L 8) Si));have oM:=ae (qW.trans (jz.mono qW.size));have yI:(AW L 40).length<=40:=Ai L 40;have hh2:(AS L 8).length<=8:=zD L 8;have HF:Hid (da L=AW L 40++AS L 8):=ae rfl;generalize AW L 40=F1,AS L 8=F2 at*;go_wp2_with fail
 refine HC.mono ?_;rintro e w6 ⟨v6,rfl,Cq,uS⟩;have HO6:=ae (Cq.base oM.size);have HB6:=zTr oM uS;obtain⟨a6,m6,c6,rfl⟩:=Cq.shape;go_wp2;go_ret2;exact⟨_,rfl,by rw[aa HF];exact HO6,HB6⟩
theorem JC a cap L w(aH:Bs w a cap L)(hf:aD L) :
  zC 120 #[.slice a L.length cap] w fun e w'=>∃p g c,e=zt #[zq p,.nilIface]/\Hp w' w.heap.size p g c L/\zB w w':=by
 have HC:=ae (L4 a cap L w aH hf.gR);rw[hf.ok]at HC;have fC:=aH.2.2.1;have hl:=hf.len;have HBC:=ae (fun W hW=>qn a cap L W (aH.below hW));have iE:=ae aH.1;have HF:=ae hf;have aG:L≠[]:=by intro e;rw[e]at hl;simp at hl
 go_enter func120,ntmps120
 go_wp2_with fail
 refine HC.mono ?_;rintro e w1 ⟨v1,rfl,eV,ay⟩;obtain⟨a1,c1,rfl,jA⟩:=eV.uM xo Sk;have zoZ:=ae (HBC w1 ay);have aQ:=ae ay;go_wp2_with fail
 refine zoZ.mono ?_;rintro e w2 ⟨a2,c2,rfl,nU,aK⟩;obtain⟨g,cur,rfl,bK⟩:∃g cur,a2=some (zp g)/\Row w2 w1.heap.size g c2 cur L:=by
  rcases nU.2 with ⟨e,h0⟩|⟨g,cap',cur,e,hB,hc,h3,h4,h5,h6⟩
  ·exact absurd (qAp h0) aG
  ·simp only[qAS,qBL]at e;obtain⟨rfl,rfl⟩:=e;exact⟨g,cur,rfl,hB,hc,h3,Sg,zlq⟩
 have HR:=ae (bK.low aQ.size);have bz:=zTr aQ aK;go_wp2;go_ret2;exact⟨w2.heap.size,g,c2,rfl,Hp.made (w:=w) HR bz.size iE HF,bz.alloc bz.size _⟩
