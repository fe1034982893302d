import Derived.Test.YtoiebmeajhpgcaaGreatDoorJSt
import Derived.Deep.CutRange
set_option maxRecDepth 100000
set_option maxHeartbeats 16000000
set_option linter.all false
namespace Go.Proofs.YtoiebmeajhpgcaaGreatDoor
open Tryz
open Go.RowKit
section
open Go.Maps
open Go.Sort
open Go.Shelf
section
variable {w0 w w':World} {t p q:Nat} {S S':Nat->Prop} {D:DS} {s:Int} {m x g c:Nat} {L:LI} {gk ck:Nat} {K:LI} {cut:Bool}
theorem fO.zjn(h:fO w0 w t p q S D s m x g c L gk ck K cut) b:fO w0 (w.setCell (zw t 4) (.bool b)) t p q S D s m x g c L gk ck K b:=by
 have hs:=qAI w t 4 _ _ (.bool b) h.qq;have ho:∀k,k≠t->(w.setCell (zw t 4) (.bool b)).heap[k]?=w.heap[k]?:=fun k hk=>qAV _ _ _ _ hk
 have hT:au (fun k=>k=t) (fun k=>k=t) w (w.setCell (zw t 4) (.bool b)):=au.setCell w _ rfl;refine⟨by rw[hs];rfl,h.lH.other hT (fun k hk=>.inl hk) (fun k hk=>⟨qAL (h.lH.Gu k hk) hT.size,fun _=>hk⟩),?_,?_,h.kb,h.kf,h.cnt,h.len,h.uA,h.n1,h.n2,h.n3⟩
 ·exact zmC
 ·obtain⟨cur2,ui⟩:=h.kept;exact⟨cur2,ui.same (ho gk (fun e=>h.n1 e.symm))⟩
theorem fO.zi7(h:fO w0 w t p q S D s m x g c L gk ck K cut){w1 w2}{D'}{s'}(ay:zB w w1)(hl:Live w0 w2 p S' D')(hp:eE w2 q p s')(ho:¬S' q)(ht:au (plus S q) (plus S' q) w1 w2)(hc:D'.secs.length=D.secs.length) b :
  fO w0 (w2.setCell (zw t 4) (.bool b)) t p q S' D' s' m x g c L gk ck K b/\au (ib S q t gk x g) (ib S' q t gk x g) w (w2.setCell (zw t 4) (.bool b)):=by
 have h2:=(h.below ay).eH hl hp ho ht hc;refine⟨h2.zjn b,?_⟩;have fQ:=ay.size;have gN:=ht.size;refine⟨?_,?_,?_,Tb,fun k hk xj=>?_,fun k hk hf=>?_⟩
 ·show w2.os=w.os
  rw[ht.os,ay.os]
 ·show w2.tape=w.tape
  rw[ht.tape,ay.tape]
 ·show w2.output=w.output
  rw[ht.output,ay.output]
 ·exact zom
 ·rcases hf with hf|hf
  ·exact .inl (ht.bA k Sg hf)
  ·exact .inr hf
theorem zf(h:fO w0 w t p q S D s m x g c L gk ck K cut)(hnc:cut=true->¬(0<(cu K L m).length/\(cu K L m).length<=23))(h0:0<=s)(h1:s<4294967295)(hX:(aj D s m (dQ K L m)).2.2≠0) :
  zC 98 #[zq t] w (zr (bc (aj D s m (dQ K L m)).2.2) fun w'=>∃S',fO w0 w' t p q S' (aj D s m (dQ K L m)).1 (aj D s m (dQ K L m)).2.1 m x g c L gk ck K (cut || (!D.down&&(aj D s m (dQ K L m)).1.down))/\au (ib S q t gk x g) (ib S' q t gk x g) w w'):=by
 have hm:=h.TD;have Wh:=h.len;have hlK:=h.uA;have c2:=h.c2;have iF:=ei x g c w0.heap.size L w h.hp;rw[Wh]at iF;have iE:=ae iF;have H:=ae h;have Hi:=nb D s m (dQ K L m);have HXL:=ae Hi;have Hz:Hid (∀ (W:World) (gn cn:Nat),zB w W->w.heap.size<=gn->Bs W (zo gn) cn L->zC 151 #[zq q,.slice (zo gk) (32*m) ck,.slice (zo gn) (32*m) cn] W (zr (bc (aj D s m (dQ K L m)).2.2) fun w'=>∃S',Live w0 w' p S' (aj D s m (dQ K L m)).1/\eE w' q p (aj D s m (dQ K L m)).2.1/\¬S' q/\au (plus S q) (plus S' q) W w')):=ae (fun W gn cn hb hg aH=>by have hw:=h.below hb;exact zg hw.lH.live hw.lH.pg hw.lH.out hw.lH.base h.cnt hm.2.1 h0 h1 hw.kbs rfl hlK aH Wh (fun hs=>by have:=h.lH.Ob gn (.inl hs);omega));clear h iF Hi;obtain⟨X,hXe⟩:∃X,aj D s m (dQ K L m)=X:=⟨_,rfl⟩;rw[hXe]at Hz HXL hX ⊢;clear hXe;obtain⟨dn,hdn⟩:∃dn,D.down=dn:=⟨_,rfl⟩;obtain⟨xd,hxd⟩:∃xd,X.1.down=xd:=⟨_,rfl⟩;rw[hdn,hxd];have HDD:=ae hdn;have HXD:=ae hxd;have Mk:=ae Wh;obtain⟨N,hN⟩:∃N,32*m=N:=⟨_,rfl⟩;rw[hN]at iE Hz Mk hlK;have QZ:=ae hlK;have HEX:=ae hX;rw[aF _ hX]at Hz;have HER:=ae (aF _ hX);go_enter func98,ntmps98
 go_wp2_with fail
 refine iE.mono ?_;rintro e w1 ⟨a1,kc,rfl,ho,ay⟩;obtain⟨gn,cur,rfl,bK⟩:∃gn cur,a1=some (zp gn)/\Row w1 w.heap.size gn kc cur L:=zmv;have uJ:=ae bK;have aQ:=ae ay;have Lj:=H.below ay;have HD:=ae (nK Lj);go_wp2_with fail
 refine HD.mono ?_;rintro e w2 ⟨v,rfl,ui,aK⟩;obtain⟨an,cn2,rfl,_,_⟩:=wX ui;have Ag:=zTs aQ aK;have xE:=H.below Ag;have c0:=xE.c0;have c4:=xE.c4;have c1:=xE.c1;have c3:=xE.c3;rw[aa QZ]at c3;have hdw:=xE.lH.live.down;rw[aa HDD]at hdw;have HDN:=ae hdw;have xU:(cu K L m).length<=200:=by exact IS
 have hgn:=uJ.1;have LB:zB w w2.drew:=bF Ag;have xR:=uJ.below (bF aK);have gy:Bs w2.drew (zo gn) kc L:=xR.bs H.hp.B2 (by have:=H.hp.bC.len;omega);have qt:Hid (zC 151 #[zq q,.slice (zo gk) N ck,.slice (zo gn) N kc] w2.drew fun e w'=>e=.returned (.iface 105 (zi X.2.2))/\w'.cell? (zw t 1)=some (zq q)/\w'.cell? (zw t 3)=some (.slice (zo gk) N ck)/\w'.cell? (zp t)=some (zq p)/\w'.cell? (zw t 4)=some (.bool cut)/\w'.frozen? (zw t 4)=false /\
   Hid (zC 150 #[zq p] w' fun e w2=>e=.returned (.bool xd)/\w'=w2) /\
   Hid (∃S',∀b:Bool,fO w0 (w'.setCell (zw t 4) (.bool b)) t p q S' X.1 X.2.1 m x g c L gk ck K b/\au (ib S q t gk x g) (ib S' q t gk x g) w (w'.setCell (zw t 4) (.bool b)))):=ae (by
  refine(Hz w2.drew gn kc LB hgn gy).m ?_;rintro w4 ⟨S',hl,hp,ho,ht⟩;have Li:=(H.below LB).eH hl hp ho ht HXL;have d3:=Li.c3;rw[aa QZ]at d3;have zn1:=hl.down;rw[aa HXD]at zn1;exact⟨rfl,Li.c1,d3,Li.c0,Li.c4,Li.fr 4,ae zn1,ae ⟨S',fun b=>H.zi7 LB hl hp ho ht HXL b⟩⟩)
 clear xE LB xR gy Ag ui aK HD Hz Mk QZ uJ aQ HXL;generalize (cu K L m).length=n at*;clear hdw HDD HXD;go_upto_region 3 with fail
 go_cut [26]from 15 to 25 (fun v wx=>v=.bool false/\wx=w2)
 case first =>
  cases cut with
  | false =>
   go_wp2;go_meet
   case rel=>exact Uq
  | true =>
   by_cases Lr:n=0
   ·subst Lr;go_wp2;go_meet
    case rel=>exact Uq
   ·have Gx:(0:Int)<(n:Int):=by omega
    have xj:¬(n:Int)<=23:=by have:=hnc rfl;omega
    clear hnc;go_wp2;go_meet
    case rel=>exact Uq
 case rest =>
  obtain⟨rfl,Wb⟩:=hcut;subst Wb;go_wp2_with fail
  refine HDN.m ?_;intro w3 qw;subst qw;clear HDN c0;go_wp2_with fail
  go_region_held3 (fun w'=>w'.cell? (zw t 1)=some (zq q)/\w'.cell? (zw t 3)=some (.slice (zo gk) N ck)) (first | go_keep | (go_split_ands;refine⟨?_,?_⟩ <;> go_keep))
   ((go_at_call 151;refine qt.m ?_;rintro w4 ⟨r0,r1,r2,r3,r4,HDW,HX⟩))
  clear qt c1 c3 c4;cases cut with
  | true =>go_wp2;go_ret;obtain⟨S',hs⟩:=HX;exact⟨by rw[aa HER];rfl,S',(hs true).1,(hs true).2⟩
  | false =>
   cases dn with
   | true =>go_wp2;go_ret;obtain⟨S',hs⟩:=HX;exact⟨by rw[aa HER];rfl,S',(hs false).1,(hs false).2⟩
   | false =>
    go_wp2_with fail
    refine HDW.m ?_;intro w5 hw5;subst hw5;go_wp2;go_ret;obtain⟨S',hs⟩:=HX;exact⟨by rw[aa HER];rfl,S',(hs xd).1,(hs xd).2⟩
theorem M8(h:fO w0 w t p q S D s m x g c L gk ck K cut)(hd:D.down=true) a n cap :
  zC 149 #[zq t,.slice a n cap] w (zr (bc 9) fun w'=>zB w w'):=by
 have c0:=h.c0;have hm:=h.TD;have HO:=ae (Yx h.lH.live (by rw[h.cnt];omega) hd);rw[aF 9 Si]at HO ⊢;go_enter func149,ntmps149
 go_wp2_with fail
 refine HO.m ?_;exact ziJ
theorem GK(h:fO w0 w t p q S D s m x g c L gk ck K true)(hd:D.down=true)(Gx:0<(cu K L m).length)(xj:(cu K L m).length<=23) :
  zC 98 #[zq t] w (zr (bc 9) fun w'=>zB w w'):=by
 have Wh:=h.len;have c2:=h.c2;have iF:=ei x g c w0.heap.size L w h.hp;rw[Wh]at iF;have iE:=ae iF;have H:=ae h;have HAN:Hid (∀ (W:World) (a:OA) (n cap:Nat),zB w W->zC 149 #[zq t,.slice a n cap] W (zr (bc 9) fun w'=>zB w w')):=ae (fun W a n cap hb=>(M8 (h.below hb) hd a n cap).mono fun e w' ⟨he,aK⟩=>⟨he,hb.trans (aK.mono hb.size)⟩);generalize 32*m=N at*;rw[aF 9 Si]at HAN ⊢;go_enter func98,ntmps98
 go_wp2_with fail
 refine iE.mono ?_;rintro e w1 ⟨a1,kc,rfl,ho,ay⟩;have aQ:=ae ay;have HD:=ae (nK (H.below ay));go_wp2_with fail
 refine HD.mono ?_;rintro e w2 ⟨v,rfl,ui,aK⟩;obtain⟨an,cn2,rfl,_,_⟩:=wX ui;have Ag:=zTs aQ aK;have c4:=(H.below Ag).c4;have HA:=ae (HAN w2 a1 N kc Ag);generalize (cu K L m).length=n at*;go_wp2_with fail
 refine HA.m ?_;intro w3 bD;have dF:=ae bD;go_wp2;go_ret;exact⟨rfl,dF⟩
theorem GL(h:fO w0 w t p q S D s m x g c L gk ck K cut)(hd:D.down=true)(h0:0<=s)(h1:s<4294967295) :
  zC 98 #[zq t] w (zr (bc (if 23<(cu K L m).length then 4 else 9)) fun w'=>∃S',fO w0 w' t p q S' D s m x g c L gk ck K cut/\au (ib S q t gk x g) (ib S' q t gk x g) w w'):=by
 have hco:=ql hd s m (dQ K L m);have C4:=jV (K:=K) h.len;have key:∀b,cut=b->((b=true->¬(0<(cu K L m).length/\(cu K L m).length<=23))->zC 98 #[zq t] w (zr (bc (if 23<(cu K L m).length then 4 else 9)) fun w'=>∃S',fO w0 w' t p q S' D s m x g c L gk ck K cut/\au (ib S q t gk x g) (ib S' q t gk x g) w w')):=fun b hb hnc=>by
  subst hb;have he:(aj D s m (dQ K L m)).2.2=if 23<(cu K L m).length then 4 else 9:=by
   rw[hco,C4];by_cases Ak:23<(cu K L m).length
   ·rw[zy Ak,zy Ak];rfl
   ·rw[zn Ak,zn Ak];rfl
  have aG:(aj D s m (dQ K L m)).2.2≠0:=by rw[he];split <;> decide
  have:=zf h hnc h0 h1 aG;rw[he,hco,hd]at this;dsimp only at this;rw[show(cut || (!true&&true))=cut by cases cut <;> rfl]at this;exact this
 cases hb:cut with
 | false=>rw[hb]at key;exact key false rfl (fun e=>TB)
 | true =>
  by_cases hn:0<(cu K L m).length/\(cu K L m).length<=23
  ·subst hb;refine(GK h hd hn.1 hn.2).mono ?_;rintro e w' ⟨rfl,rH⟩;exact⟨zlZ,S,h.below rH,au.aI rH⟩
  ·rw[hb]at key;exact key true rfl (fun _=>hn)
end
end
section
variable {w0 w:World} {p q:Nat} {S:Nat->Prop} {D:DS} {s:Int} {m:Nat}
theorem vj{Q:Ending->World->Prop}(sW:zC 203 #[zq p] w fun e w'=>∃q,e=zt #[zq q,.nilIface] /\
   Hid (zC 75 #[zq p,zq q] w' fun e w2=>∃a b,e=zt #[a,b]/\Hid (Q (.returned (.tuple #[a,b])) w2))) :
  zC 157 #[zq p] w fun e w'=>True/\Q e w':=by
 have Hw:=ae sW;go_enter func157,ntmps157
 go_wp2_with fail
 refine Hw.mono ?_;rintro e w1 ⟨q,rfl,HL⟩;go_wp2_with fail
 refine HL.mono ?_;rintro e w2 ⟨a,b,rfl,HQ⟩;go_wp2;go_ret2;exact⟨trivial,HQ⟩
