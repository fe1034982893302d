/-
  Parts of the proofs, joined by program.
-/
import Derived.Test.YtchmlnmhbfaclaaGreatDoorJRd
import Derived.Deep.RegionWith
import Derived.Shelf.Bits.Mul64
import Derived.Test.YtchmlnmhbfaclaaGreatDoorProg
import Derived.Test.YtchmlnmhbfaclaaGreatDoorJNum
import Derived.Test.YtchmlnmhbfaclaaGreatDoorJTn
import Derived.Test.YtchmlnmhbfaclaaGreatDoorJDev
import Derived.Laws.CopyRow
import Derived.BigQuiet
namespace Go.Proofs.YtchmlnmhbfaclaaGreatDoor
open Go.RowKit Go.Shelf
set_option linter.unusedVariables false
section
variable {w0 w w':World} {g p m t x:Nat} {P P':Ps} {F F':Nat->Prop} {b:Addr}
set_option maxRecDepth 100000 in
set_option maxHeartbeats 2000000 in
theorem zBB(hw:RnW w0 b)(hs:Ssn w0 w g p m P F)(bn on cn:Nat)(nm:ByteArray)(a:Option Addr)(bl c:Nat)(n0:Int)(n1:Int)(d0:w.cell? ⟨bn,on,none⟩=some (.int .i64 n0))(d1:w.cell? ⟨bn,on+1,none⟩=some (.int .i64 n1))(ha:-9223372036854775808<=alH P.L n0 n1/\alH P.L n0 n1<=9223372036854775807) :
  Calls Tryz.prog 54 #[.pointer (some ⟨g,0,none⟩),.agg #[.string zeN,.slice (some ⟨bn,on,none⟩) 2 cn,.string nm,.slice a bl c]] w fun e w'=>e=.returned (.string (nbS (alH P.L n0 n1) (alE P.L n0 n1)))/\SsT w0 w g p m { P with L:=alB P.L n0 n1 } F w':=by
 have hba:Below w.heap.size w (w.alloc (.cells #[.string zeN,.slice (some ⟨bn,on,none⟩) 2 cn,.string nm,.slice a bl c] 114)):=(Below.refl _ _).alloc (Nat.le_refl _) _
 obtain⟨w1,e1⟩:∃ x,(w.alloc (.cells #[.string zeN,.slice (some ⟨bn,on,none⟩) 2 cn,.string nm,.slice a bl c] 114))=x:=⟨_,rfl⟩
 have z0:w1.cell? ⟨w.heap.size,0,none⟩=some (.string zeN):=by rw [<- e1];simp
 have z1:w1.cell? ⟨w.heap.size,1,none⟩=some (.slice (some ⟨bn,on,none⟩) 2 cn):=by rw [<- e1];simp
 have z2:w1.cell? ⟨w.heap.size,2,none⟩=some (.string nm):=by rw [<- e1];simp
 have z3:w1.cell? ⟨w.heap.size,3,none⟩=some (.slice a bl c):=by rw [<- e1];simp
 rw [e1] at hba
 have hs1:=hs.below hba
 obtain⟨t,x,h1,h2,h3,h4⟩:=hs1
 have s0:w1.cell? ⟨g,0,none⟩=some (.pointer (some ⟨p,0,none⟩)):=by rw [Go.Lib.cell_of_heap h1];rfl
 have s1:w1.cell? ⟨g,1,none⟩=some (.pointer (some ⟨t,0,none⟩)):=by rw [Go.Lib.cell_of_heap h1];rfl
 have HH:Hid (∀ q:Nat,Calls Tryz.prog 89 #[.pointer (some ⟨t,0,none⟩)] (w1.drewN q) fun e w'=>e=.returned (.pointer (some ⟨x,0,none⟩))/\w'=w1.drewN q):=zb (fun q=>(h2.below (below_drewN (Below.refl _ w1) q)).heap.mono fun e w' ⟨he,hw⟩=>⟨he,hw.symm⟩)
 have HX:=zb (fun(q:Nat)=>h2.below (below_drewN (Below.refl _ w1) q))
 have c0:=cell_below d0 hba
 have c1:=cell_below d1 hba
 have HX1:=zb (fun(W:World) (hW:Below w1.heap.size w1 W)=>h2.below hW)
 have HN:=zb (fun(W:World) (F':Nat->Prop) (hT:Tf w0 W t p x m { P with L:=alB P.L n0 n1 } F') (hU:Turn F F' w1 W)=>SsT.over hba (qV h1 h3 h4 hT hU) hs.foot)
 have HRW:=zb (fun(W:World) (hW:Below w0.heap.size w0 W)=>hw.below hW)
 have HW1:=zb e1
 clear hba e1 hs h1 h2 h3 h4 hw
 unfold zeN at *
 go_enter Tryz.func54,Tryz.ntmps54
 go_wp2_with fail
 rw [za HW1]
 clear HW1
 go_quiet ((go_at_call 89;exact Calls.quiet_of_same (za HH _)))
 clear HH
 have HF:=zb (fun(W:World) (hW:Below w1.heap.size w1 W)=>(za HX1 W hW).alloc n0 n1)
 go_wp2_with fail
 go_region_with (first
  | (go_at_call 91;refine(za HF _ ?_).mono ?_;(repeat (first | exact Below.refl _ _ | refine below_drewN ?_ _ | refine zat ?_));rintro e w2 ⟨rfl,F',hT,hU⟩)
  | (go_at_call 90;refine(za7 (za HRW _ hT.base) _ _ ha.1 ha.2).mono ?_;rintro e w3 ⟨rfl,hb3⟩))
 all_goals
  have HN3:=zb ((za HN w2 F' hT ((Turn.of_below (S:=F) (below_drewN (Below.refl _ w1) _)).trans hU)).below hb3)
  clear hb3 hT hU HN HRW HX HX1 HF
  go_wp2
  go_ret
  exact⟨rfl,za HN3⟩
set_option maxRecDepth 100000 in
set_option maxHeartbeats 2000000 in
theorem zvU(hw:RnW w0 b)(hs:Ssn w0 w g p m P F)(bn on cn:Nat)(nm:ByteArray)(a:Option Addr)(bl c:Nat)(n0:Int)(n1:Int)(d0:w.cell? ⟨bn,on,none⟩=some (.int .i64 n0))(d1:w.cell? ⟨bn,on+1,none⟩=some (.int .i64 n1))(l:List Int)(hl:Bs w a c l)(hbl:l.length=bl)(hx:n1<=9223372036854775807) :
  Calls Tryz.prog 54 #[.pointer (some ⟨g,0,none⟩),.agg #[.string Qa,.slice (some ⟨bn,on,none⟩) 2 cn,.string nm,.slice a bl c]] w fun e w'=>e=.returned (.string (tdS (pcE P.L n0 n1 bl)))/\SsT w0 w g p m { P with L:=wrB P.L n0 n1 l } F w':=by
 have hba:Below w.heap.size w (w.alloc (.cells #[.string Qa,.slice (some ⟨bn,on,none⟩) 2 cn,.string nm,.slice a bl c] 114)):=(Below.refl _ _).alloc (Nat.le_refl _) _
 obtain⟨w1,e1⟩:∃ x,(w.alloc (.cells #[.string Qa,.slice (some ⟨bn,on,none⟩) 2 cn,.string nm,.slice a bl c] 114))=x:=⟨_,rfl⟩
 have z0:w1.cell? ⟨w.heap.size,0,none⟩=some (.string Qa):=by rw [<- e1];simp
 have z1:w1.cell? ⟨w.heap.size,1,none⟩=some (.slice (some ⟨bn,on,none⟩) 2 cn):=by rw [<- e1];simp
 have z2:w1.cell? ⟨w.heap.size,2,none⟩=some (.string nm):=by rw [<- e1];simp
 have z3:w1.cell? ⟨w.heap.size,3,none⟩=some (.slice a bl c):=by rw [<- e1];simp
 rw [e1] at hba
 have hs1:=hs.below hba
 obtain⟨t,x,h1,h2,h3,h4⟩:=hs1
 have s0:w1.cell? ⟨g,0,none⟩=some (.pointer (some ⟨p,0,none⟩)):=by rw [Go.Lib.cell_of_heap h1];rfl
 have s1:w1.cell? ⟨g,1,none⟩=some (.pointer (some ⟨t,0,none⟩)):=by rw [Go.Lib.cell_of_heap h1];rfl
 have HH:Hid (∀ q:Nat,Calls Tryz.prog 89 #[.pointer (some ⟨t,0,none⟩)] (w1.drewN q) fun e w'=>e=.returned (.pointer (some ⟨x,0,none⟩))/\w'=w1.drewN q):=zb (fun q=>(h2.below (below_drewN (Below.refl _ w1) q)).heap.mono fun e w' ⟨he,hw⟩=>⟨he,hw.symm⟩)
 have HX:=zb (fun(q:Nat)=>h2.below (below_drewN (Below.refl _ w1) q))
 have c0:=cell_below d0 hba
 have c1:=cell_below d1 hba
 have HX1:=zb (fun(W:World) (hW:Below w1.heap.size w1 W)=>h2.below hW)
 have HWR:Hid (∀ (W:World),Below w1.heap.size w1 W->Calls Tryz.prog 93 #[.pointer (some ⟨x,0,none⟩),.int .i64 n0,.int .i64 n1,.slice a bl c] W fun e w'=>e=.returned (zK (pcE P.L n0 n1 bl))/\∃ F',Tf w0 w' t p x m { P with L:=wrB P.L n0 n1 l } F'/\Turn F F' W w'):=zb (fun W hW=>by
  have h:=(h2.below hW).write n0 n1 (hl.below (hba.trans (hW.mono hba.size))) hx
  rw [hbl] at h
  exact h)
 clear hl hbl
 have HN:=zb (fun(W:World) (F':Nat->Prop) (hT:Tf w0 W t p x m { P with L:=wrB P.L n0 n1 l } F') (hU:Turn F F' w1 W)=>SsT.over hba (qV h1 h3 h4 hT hU) hs.foot)
 have HRW:=zb (fun(W:World) (hW:Below w0.heap.size w0 W)=>hw.below hW)
 have HW1:=zb e1
 clear hba e1 hs h1 h2 h3 h4 hw
 unfold Qa at *
 go_enter Tryz.func54,Tryz.ntmps54
 go_wp2_with fail
 rw [za HW1]
 clear HW1
 go_quiet ((go_at_call 89;exact Calls.quiet_of_same (za HH _)))
 clear HH
 have HF:=zb (fun(W:World) (hW:Below w1.heap.size w1 W)=>za HWR W hW)
 go_wp2_with fail
 go_region_with (first
  | (go_at_call 93;refine(za HF _ ?_).mono ?_;(repeat (first | exact Below.refl _ _ | refine below_drewN ?_ _ | refine zat ?_));rintro e w2 ⟨rfl,F',hT,hU⟩)
  | (go_at_call 13;refine(QV _ b _ (za HRW _ hT.base).bd (za HRW _ hT.base).et).mono ?_;rintro e w3 ⟨rfl,hb3⟩))
 all_goals
  have HN3:=zb ((za HN w2 F' hT ((Turn.of_below (S:=F) (below_drewN (Below.refl _ w1) _)).trans hU)).below hb3)
  clear hb3 hT hU HN HRW HX HX1 HF
  go_wp2
  go_ret
  exact⟨rfl,za HN3⟩
set_option maxRecDepth 100000 in
set_option maxHeartbeats 2000000 in
theorem zza(hw:RnW w0 b)(hs:Ssn w0 w g p m P F)(bn on cn:Nat)(nm:ByteArray)(a:Option Addr)(bl c:Nat)(n0:Int)(n1:Int)(n2:Int)(d0:w.cell? ⟨bn,on,none⟩=some (.int .i64 n0))(d1:w.cell? ⟨bn,on+1,none⟩=some (.int .i64 n1))(d2:w.cell? ⟨bn,on+2,none⟩=some (.int .i64 n2))(hr:Byt (rdL P.L n0 n1 n2))(hrl:(rdL P.L n0 n1 n2).length<=6400)(hx1:n1<=9223372036854775807)(hx2:n2<=9223372036854775807) :
  Calls Tryz.prog 54 #[.pointer (some ⟨g,0,none⟩),.agg #[.string ZK,.slice (some ⟨bn,on,none⟩) 3 cn,.string nm,.slice a bl c]] w fun e w'=>e=.returned (.string (hxV (rdL P.L n0 n1 n2) (pcE P.L n0 n1 n2)))/\SsT w0 w g p m P F w':=by
 have hba:Below w.heap.size w (w.alloc (.cells #[.string ZK,.slice (some ⟨bn,on,none⟩) 3 cn,.string nm,.slice a bl c] 114)):=(Below.refl _ _).alloc (Nat.le_refl _) _
 obtain⟨w1,e1⟩:∃ x,(w.alloc (.cells #[.string ZK,.slice (some ⟨bn,on,none⟩) 3 cn,.string nm,.slice a bl c] 114))=x:=⟨_,rfl⟩
 have z0:w1.cell? ⟨w.heap.size,0,none⟩=some (.string ZK):=by rw [<- e1];simp
 have z1:w1.cell? ⟨w.heap.size,1,none⟩=some (.slice (some ⟨bn,on,none⟩) 3 cn):=by rw [<- e1];simp
 have z2:w1.cell? ⟨w.heap.size,2,none⟩=some (.string nm):=by rw [<- e1];simp
 have z3:w1.cell? ⟨w.heap.size,3,none⟩=some (.slice a bl c):=by rw [<- e1];simp
 rw [e1] at hba
 have hs1:=hs.below hba
 obtain⟨t,x,h1,h2,h3,h4⟩:=hs1
 have s0:w1.cell? ⟨g,0,none⟩=some (.pointer (some ⟨p,0,none⟩)):=by rw [Go.Lib.cell_of_heap h1];rfl
 have s1:w1.cell? ⟨g,1,none⟩=some (.pointer (some ⟨t,0,none⟩)):=by rw [Go.Lib.cell_of_heap h1];rfl
 have HH:Hid (∀ q:Nat,Calls Tryz.prog 89 #[.pointer (some ⟨t,0,none⟩)] (w1.drewN q) fun e w'=>e=.returned (.pointer (some ⟨x,0,none⟩))/\w'=w1.drewN q):=zb (fun q=>(h2.below (below_drewN (Below.refl _ w1) q)).heap.mono fun e w' ⟨he,hw⟩=>⟨he,hw.symm⟩)
 have HX:=zb (fun(q:Nat)=>h2.below (below_drewN (Below.refl _ w1) q))
 have c0:=cell_below d0 hba
 have c1:=cell_below d1 hba
 have c2:=cell_below d2 hba
 have HX1:=zb (fun(W:World) (hW:Below w1.heap.size w1 W)=>h2.below hW)
 have HRD:=zb (fun(W:World) (hW:Below w1.heap.size w1 W)=>(h2.below hW).ask (f:=95) (ar:=#[.pointer (some ⟨x,0,none⟩),.int .i64 n0,.int .i64 n1,.int .i64 n2]) (Q:=fun e w'=>∃ a' c',e=.returned (.tuple #[.slice a' (rdL P.L n0 n1 n2).length c',zK (pcE P.L n0 n1 n2)])/\OwnV w' W.heap.size (.slice a' (rdL P.L n0 n1 n2).length c') (rdL P.L n0 n1 n2)) (fun g c hh=>(zsp x g c w0.heap.size P.L n0 n1 n2 W hh hx1 hx2).mono fun e w' ⟨a',c',h1,h2,h3⟩=>⟨⟨a',c',h1,h2⟩,h3⟩))
 have HN:=zb (fun(W:World) (F':Nat->Prop) (hT:Tf w0 W t p x m P F') (hU:Turn F F' w1 W)=>SsT.over hba (qV h1 h3 h4 hT hU) hs.foot)
 have HRW:=zb (fun(W:World) (hW:Below w0.heap.size w0 W)=>hw.below hW)
 have HW1:=zb e1
 clear hba e1 hs h1 h2 h3 h4 hw
 unfold ZK at *
 go_enter Tryz.func54,Tryz.ntmps54
 go_wp2_with fail
 rw [za HW1]
 clear HW1
 go_quiet ((go_at_call 89;exact Calls.quiet_of_same (za HH _)))
 clear HH
 have HF:=zb (fun(W:World) (hW:Below w1.heap.size w1 W)=>za HRD W hW)
 go_wp2_with fail
 go_region_with (first
  | (go_at_call 95;refine(za HF _ ?_).mono ?_;(repeat (first | exact Below.refl _ _ | refine below_drewN ?_ _ | refine zat ?_));rintro e w2 ⟨⟨a',c',rfl,ho⟩,hT,hU⟩)
  | (go_at_call 94;refine(zyR (za HRW _ hT.base) _ _ _ _ (ho.bsAt hr (by omega)) hrl).mono ?_;rintro e w3 ⟨rfl,hb3⟩))
 all_goals
  have HN3:=zb ((za HN w2 F hT (Turn.of_below ((below_drewN (Below.refl _ w1) _).trans hU))).below hb3)
  clear hb3 hT hU HN HRW HX HX1 HF
  go_wp2
  go_ret
  exact⟨rfl,za HN3⟩
set_option maxRecDepth 100000 in
set_option maxHeartbeats 2000000 in
theorem zBA(hw:RnW w0 b)(hs:Ssn w0 w g p m P F)(bn on cn:Nat)(nm:ByteArray)(a:Option Addr)(bl c:Nat)(n0:Int)(d0:w.cell? ⟨bn,on,none⟩=some (.int .i64 n0))(hz:nm.size<=140737488351232) :
  Calls Tryz.prog 54 #[.pointer (some ⟨g,0,none⟩),.agg #[.string ziQ,.slice (some ⟨bn,on,none⟩) 1 cn,.string nm,.slice a bl c]] w fun e w'=>e=.returned (.string (noS (seO P.L nm n0) (seE P.L nm n0)))/\SsT w0 w g p m { P with L:=seF P.L nm n0 } F w':=by
 have hba:Below w.heap.size w (w.alloc (.cells #[.string ziQ,.slice (some ⟨bn,on,none⟩) 1 cn,.string nm,.slice a bl c] 114)):=(Below.refl _ _).alloc (Nat.le_refl _) _
 obtain⟨w1,e1⟩:∃ x,(w.alloc (.cells #[.string ziQ,.slice (some ⟨bn,on,none⟩) 1 cn,.string nm,.slice a bl c] 114))=x:=⟨_,rfl⟩
 have z0:w1.cell? ⟨w.heap.size,0,none⟩=some (.string ziQ):=by rw [<- e1];simp
 have z1:w1.cell? ⟨w.heap.size,1,none⟩=some (.slice (some ⟨bn,on,none⟩) 1 cn):=by rw [<- e1];simp
 have z2:w1.cell? ⟨w.heap.size,2,none⟩=some (.string nm):=by rw [<- e1];simp
 have z3:w1.cell? ⟨w.heap.size,3,none⟩=some (.slice a bl c):=by rw [<- e1];simp
 rw [e1] at hba
 have hs1:=hs.below hba
 obtain⟨t,x,h1,h2,h3,h4⟩:=hs1
 have s0:w1.cell? ⟨g,0,none⟩=some (.pointer (some ⟨p,0,none⟩)):=by rw [Go.Lib.cell_of_heap h1];rfl
 have s1:w1.cell? ⟨g,1,none⟩=some (.pointer (some ⟨t,0,none⟩)):=by rw [Go.Lib.cell_of_heap h1];rfl
 have HH:Hid (∀ q:Nat,Calls Tryz.prog 89 #[.pointer (some ⟨t,0,none⟩)] (w1.drewN q) fun e w'=>e=.returned (.pointer (some ⟨x,0,none⟩))/\w'=w1.drewN q):=zb (fun q=>(h2.below (below_drewN (Below.refl _ w1) q)).heap.mono fun e w' ⟨he,hw⟩=>⟨he,hw.symm⟩)
 have HX:=zb (fun(q:Nat)=>h2.below (below_drewN (Below.refl _ w1) q))
 have c0:=cell_below d0 hba
 have HX1:=zb (fun(W:World) (hW:Below w1.heap.size w1 W)=>h2.below hW)
 have HN:=zb (fun(W:World) (F':Nat->Prop) (hT:Tf w0 W t p x m { P with L:=seF P.L nm n0 } F') (hU:Turn F F' w1 W)=>SsT.over hba (qV h1 h3 h4 hT hU) hs.foot)
 have HRW:=zb (fun(W:World) (hW:Below w0.heap.size w0 W)=>hw.below hW)
 have HW1:=zb e1
 clear hba e1 hs h1 h2 h3 h4 hw
 unfold ziQ at *
 go_enter Tryz.func54,Tryz.ntmps54
 go_wp2_with fail
 rw [za HW1]
 clear HW1
 go_quiet ((go_at_call 89;exact Calls.quiet_of_same (za HH _)))
 clear HH
 have HF:=zb (fun(W:World) (hW:Below w1.heap.size w1 W)=>(za HX1 W hW).set nm n0 hz)
 go_wp2_with fail
 go_region_with (first
  | (go_at_call 97;refine(za HF _ ?_).mono ?_;(repeat (first | exact Below.refl _ _ | refine below_drewN ?_ _ | refine zat ?_));rintro e w2 ⟨rfl,F',hT,hU⟩)
  | (go_at_call 96;refine(zjM (za HRW _ hT.base) _ _).mono ?_;rintro e w3 ⟨rfl,hb3⟩))
 all_goals
  have HN3:=zb ((za HN w2 F' hT ((Turn.of_below (S:=F) (below_drewN (Below.refl _ w1) _)).trans hU)).below hb3)
  clear hb3 hT hU HN HRW HX HX1 HF
  go_wp2
  go_ret
  exact⟨rfl,za HN3⟩
set_option maxRecDepth 100000 in
set_option maxHeartbeats 2000000 in
theorem zBD(hw:RnW w0 b)(hs:Ssn w0 w g p m P F)(bn on cn:Nat)(nm:ByteArray)(a:Option Addr)(bl c:Nat)(n0:Int)(d0:w.cell? ⟨bn,on,none⟩=some (.int .i64 n0))(hn:-9223372036854775808<=n0/\n0<=9223372036854775807) :
  Calls Tryz.prog 54 #[.pointer (some ⟨g,0,none⟩),.agg #[.string zgA,.slice (some ⟨bn,on,none⟩) 1 cn,.string nm,.slice a bl c]] w fun e w'=>e=.returned (.string (tdS 0))/\SsT w0 w g p m (wlP P n0) F w':=by
 have hba:Below w.heap.size w (w.alloc (.cells #[.string zgA,.slice (some ⟨bn,on,none⟩) 1 cn,.string nm,.slice a bl c] 114)):=(Below.refl _ _).alloc (Nat.le_refl _) _
 obtain⟨w1,e1⟩:∃ x,(w.alloc (.cells #[.string zgA,.slice (some ⟨bn,on,none⟩) 1 cn,.string nm,.slice a bl c] 114))=x:=⟨_,rfl⟩
 have z0:w1.cell? ⟨w.heap.size,0,none⟩=some (.string zgA):=by rw [<- e1];simp
 have z1:w1.cell? ⟨w.heap.size,1,none⟩=some (.slice (some ⟨bn,on,none⟩) 1 cn):=by rw [<- e1];simp
 have z2:w1.cell? ⟨w.heap.size,2,none⟩=some (.string nm):=by rw [<- e1];simp
 have z3:w1.cell? ⟨w.heap.size,3,none⟩=some (.slice a bl c):=by rw [<- e1];simp
 rw [e1] at hba
 have hs1:=hs.below hba
 obtain⟨t,x,h1,h2,h3,h4⟩:=hs1
 have s0:w1.cell? ⟨g,0,none⟩=some (.pointer (some ⟨p,0,none⟩)):=by rw [Go.Lib.cell_of_heap h1];rfl
 have s1:w1.cell? ⟨g,1,none⟩=some (.pointer (some ⟨t,0,none⟩)):=by rw [Go.Lib.cell_of_heap h1];rfl
 have HH:Hid (∀ q:Nat,Calls Tryz.prog 89 #[.pointer (some ⟨t,0,none⟩)] (w1.drewN q) fun e w'=>e=.returned (.pointer (some ⟨x,0,none⟩))/\w'=w1.drewN q):=zb (fun q=>(h2.below (below_drewN (Below.refl _ w1) q)).heap.mono fun e w' ⟨he,hw⟩=>⟨he,hw.symm⟩)
 have HX:=zb (fun(q:Nat)=>h2.below (below_drewN (Below.refl _ w1) q))
 have c0:=cell_below d0 hba
 have HX1:=zb (fun(W:World) (hW:Below w1.heap.size w1 W)=>h2.below hW)
 have HN:=zb (fun(W:World) (F':Nat->Prop) (hT:Tf w0 W t p x m (wlP P n0) F') (hU:Turn F F' w1 W)=>SsT.over hba (qV h1 h3 h4 hT hU) hs.foot)
 have HRW:=zb (fun(W:World) (hW:Below w0.heap.size w0 W)=>hw.below hW)
 have HW1:=zb e1
 clear hba e1 hs h1 h2 h3 h4 hw
 unfold zgA at *
 go_enter Tryz.func54,Tryz.ntmps54
 go_wp2_with fail
 rw [za HW1]
 clear HW1
 go_quiet ((go_at_call 89;exact Calls.quiet_of_same (za HH _)))
 clear HH
 have HF:=zb (fun(W:World) (hW:Below w1.heap.size w1 W)=>(za HX1 W hW).fail n0 hn)
 go_wp2_with fail
 go_region_with (first
  | (go_at_call 103;refine(za HF _ ?_).mono ?_;(repeat (first | exact Below.refl _ _ | refine below_drewN ?_ _ | refine zat ?_));rintro e w2 ⟨rfl,F',hT,hU⟩))
 all_goals
  have HN2:=zb (za HN w2 F' hT ((Turn.of_below (S:=F) (below_drewN (Below.refl _ w1) _)).trans hU))
  have HT:=zb (QV 0 b w2 (za HRW _ hT.base).bd (za HRW _ hT.base).et)
  rw [zf9] at HT
  clear hT hU HN HRW HX HX1 HF
  go_wp2_with fail
  refine(za HT).mono ?_
  rintro e w3 ⟨rfl,hb3⟩
  have HN3:=zb ((za HN2).below hb3)
  clear hb3 HT HN2
  go_wp2
  go_ret
  exact⟨rfl,za HN3⟩
end
def zmn:Ren:={ f:=fun | 212=>207 | 263=>253 | 264=>254 | n=>n,t:=fun | 46=>251 | 51=>326 | 146=>327 | 53=>355 | 148=>356 | n=>n,g:=fun n=>n }
theorem zzj:Lays.n212 Tryz.prog zmn:={ mixed:=by kernel_rfl,f212:=Tryz.func207.trans rfl,f263:=Tryz.func253.trans rfl,f264:=Tryz.func254.trans rfl,t46:=Tryz.underlying251,a46:=Tryz.isAgg251,z46:=Tryz.sizeOf251,v46:=Tryz.zeroValue251,t51:=Tryz.underlying326,a51:=Tryz.isAgg326,z51:=Tryz.sizeOf326,v51:=Tryz.zeroValue326,t53:=Tryz.underlying355,a53:=Tryz.isAgg355,z53:=Tryz.sizeOf355,v53:=Tryz.zeroValue355,t146:=Tryz.underlying327,a146:=Tryz.isAgg327,z146:=Tryz.sizeOf327,v146:=Tryz.zeroValue327,t148:=Tryz.underlying356,a148:=Tryz.isAgg356,z148:=Tryz.sizeOf356,v148:=Tryz.zeroValue356 }
def Tr1(w:World)(g n k:Nat):Prop:=∃ cs:Array Value,w.heap[g]?=some (.cells cs 4 (0,0))/\cs.size=n/\∀ i,i<k->cs[i]?=some (.bool true)
theorem zkH:(Tryz.prog.info? 4).map (·.size)=some 1:=by kernel_rfl
theorem zth:(Tryz.prog.info? 4).map (fun i=>(i.zero,i.size,i.bytes))=some (some (.bool false),1,1):=by kernel_rfl
theorem zx1{m j:Nat}{u v:Value}(h:(List.replicate m u)[j]?=some v):j<m/\v=u:=by
 rw [List.getElem?_replicate] at h
 by_cases hjm:j<m
 ·rw [if_pos hjm] at h
  exact⟨hjm,(Option.some.inj h).symm⟩
 ·rw [if_neg hjm] at h
  cases h
theorem zky{w:World}{g n k dCap sLen sCap m:Nat}{sp:Addr}(h:Tr1 w g n k)(hk:k<=n)(hm:m=Nat.min sLen (n-k))(hs:∀ j,j<m->w.cell? (sp.add j)=some (.bool true))(dT sT ty:TypeId)(hu:Tryz.prog.underlying dT=some (.slice 4)) :
  ∃ cs,(Builtin.copy_ #[dT,sT] ty #[.slice (some ⟨g,k,none⟩) (n-k) dCap,.slice (some sp) sLen sCap]).run Tryz.prog w=.ok (.int .i64 m) (w.setRow g cs)/\Tr1 (w.setRow g cs) g n (k+m):=by
 obtain⟨cs,h1,h2,h3⟩:=h
 have hmn:m<=n-k:=by rw [hm];exact Nat.min_le_right _ _
 have hrun:=run_copy_row (P:=Tryz.prog) w dT sT ty 4 g k (n-k) dCap sp sLen sCap cs 4 (List.replicate m (Value.bool true)) hu zkH h1 (by rw [List.length_replicate];exact hm) (fun j v hj=>by
  obtain⟨hjm,rfl⟩:=zx1 hj
  exact hs j hjm) (by rw [List.length_replicate,h2];omega) (fun v hv=>by rw [List.eq_of_mem_replicate hv];rfl)
 rw [List.length_replicate] at hrun
 refine⟨_,hrun,_,setRow_heap w g cs _ _ _ h1,?_,fun i hi=>?_⟩
 ·rw [List.size_toArray,List.length_append,List.length_append,List.length_replicate,List.length_take,List.length_drop,Array.length_toList,h2]
  omega
 ·rw [List.getElem?_toArray,List.append_assoc]
  have l1:(cs.toList.take k).length=k:=by rw [List.length_take,Array.length_toList,h2];omega
  by_cases hik:i<k
  ·rw [List.getElem?_append_left (by rw [l1];exact hik),List.getElem?_take,if_pos hik,Array.getElem?_toList]
   exact h3 i hik
  ·rw [List.getElem?_append_right (by rw [l1];omega),l1,List.getElem?_append_left (by rw [List.length_replicate];omega),List.getElem?_replicate,if_pos (by omega)]
theorem zdP:Tryz.prog.elem 86=4:=by simp [Program.elem,Tryz.underlying86]
theorem zds(w:World):(sizeOf 4).run Tryz.prog w=.ok 1 w:=by
 have hsz:=zkH
 cases hq:Tryz.prog.info? 4 with
 | none=>simp [hq] at hsz
 | some i =>
  have:i.size=1:=by simpa [hq] using hsz
  simp [sizeOf,typeInfo,hq,this]
theorem zqu(g n k:Nat)(hk:k<n)(w:World):(Instr.slice 86 (.slice (some ⟨g,0,none⟩) n n) (some (.int .i64 k)) none none).run Tryz.prog w=.ok (.slice (some ⟨g,k,none⟩) (n-k) (n-k)) w:=by
 have h:=run_slice_l (P:=Tryz.prog) (w:=w) 86 (some ⟨g,0,none⟩) n n (by rw [zdP];exact Tryz.underlying86) .i64 k (by omega) (by omega)
 rw [zdP,zds w] at h
 refine Eq.trans h ?_
 simp [Result.andThen,sliced,Addr.add]
 rw [if_neg (by omega)]
 by_cases h0:k=0
 ·rw [if_pos h0,h0]
 ·rw [if_neg h0]
theorem zqv(g n k:Nat)(hk:k<=n)(h0:0<n)(w:World):(Instr.slice 86 (.slice (some ⟨g,0,none⟩) n n) none (some (.int .i64 k)) none).run Tryz.prog w=.ok (.slice (some ⟨g,0,none⟩) k n) w:=by
 have h:=run_slice_h (P:=Tryz.prog) (w:=w) 86 (some ⟨g,0,none⟩) n n (by rw [zdP];exact Tryz.underlying86) .i64 k (by omega) (by omega)
 rw [zdP,zds w] at h
 refine Eq.trans h ?_
 simp [Result.andThen,sliced,Addr.add]
theorem zrS(w:World)(n:Nat)(hn:n<=1000000):∃ cs:Array Value,cs.size=n/\Sem.run Tryz.prog (Instr.makeSlice 86 (.int .i64 n) (.int .i64 n)) w=.ok (.slice (some ⟨w.heap.size,0,none⟩) n n) (w.alloc (.cells cs 4)):=by
 obtain⟨i0,hi,hz0,hz1,hz2⟩:=info_parts zth
 have hrun:=run_make (P:=Tryz.prog) w 86 4 i0 _ Tryz.underlying86 hi hz0 .i64 .i64 n n (by omega) (by omega) (by rw [hz2];omega) (by omega)
 refine⟨_,?_,hrun⟩
 rw [hz1,Nat.mul_one,Int.toNat_natCast]
 simp [size_madeCells]
theorem Tr1.cell{w:World}{g n k:Nat}(h:Tr1 w g n k){i:Nat}(hi:i<k):w.cell? ⟨g,i,none⟩=some (.bool true):=by
 obtain⟨cs,h1,h2,h3⟩:=h
 rw [cell_of_row _ _ _ _ _ _ h1]
 exact h3 i hi
theorem zyt(n:Nat)(hn:n<=1000)(w:World):Calls Tryz.prog 207 #[.int .u64 1,.int .u64 n] w fun e w'=>e=.returned (.tuple #[.int .u64 0,.int .u64 n])/\w=w':=by
 have h:=Any.bits_Mul zzj 1 n (by omega) (by omega) w
 rw [show(1 * n / 18446744073709551616:Nat)=0 by omega,show(1 * n % 18446744073709551616:Nat)=n by omega] at h
 refine h.mono ?_
 rintro e w' ⟨rfl,rfl⟩
 exact⟨rfl,rfl⟩
theorem below_setRow{B:Nat}{u v:World}{g:Nat}(h:Below B u v)(hg:B<=g)(cs:Array Value):Below B u (v.setRow g cs):=⟨h.os,h.tape,h.output,by have:=h.size;simpa [World.setRow] using this,fun k hk=>by rw [setRow_other v g k _ (by omega)];exact h.block k hk⟩
set_option maxRecDepth 100000 in
set_option maxHeartbeats 2000000 in
theorem zoy(n:Nat)(hn:n<=1000)(gx:Nat)(w:World)(hx:w.cell? ⟨gx,0,none⟩=some (.bool true)):Calls Tryz.prog 156 #[.slice (some ⟨gx,0,none⟩) 1 1,.int .i64 n] w fun e w'=>∃ g,e=.returned (.slice (some ⟨g,0,none⟩) n n)/\w.heap.size<=g/\Tr1 w' g n n/\Below w.heap.size w w':=by
 have HM:=zb (zyt n hn w)
 obtain⟨cs,hcs,hmk⟩:=zrS w n (by omega)
 have hb1:Below w.heap.size w (w.alloc (.cells cs 4)):=(Below.refl _ _).alloc (Nat.le_refl _) _
 have ht1:Tr1 (w.alloc (.cells cs 4)) w.heap.size n 0:=⟨cs,heap_alloc_new _ _,hcs,fun i hi=>absurd hi (Nat.not_lt_zero _)⟩
 have hx1:(w.alloc (.cells cs 4)).cell? ⟨gx,0,none⟩=some (.bool true):=by rw [hb1.cell (block_lt_of_cell hx)];exact hx
 obtain⟨m0,hm0⟩:∃ m0,m0=Nat.min 1 (n-0):=⟨_,rfl⟩
 have hm1:m0<=1/\m0<=n/\(0<n->m0=1):=by
  rw [hm0]
  refine⟨Nat.min_le_left _ _,Nat.le_trans (Nat.min_le_right _ _) (by omega),fun h=>?_⟩
  show min 1 (n-0)=1
  omega
 obtain⟨c2,hcp,ht2⟩:=zky (dCap:=n) (sLen:=1) (sCap:=1) (sp:=⟨gx,0,none⟩) ht1 (Nat.zero_le _) hm0 (fun j hj=>by
  obtain rfl:j=0:=by omega
  exact hx1) 86 86 3 Tryz.underlying86
 rw [Nat.sub_zero] at hcp
 rw [Nat.zero_add] at ht2
 have hb2:=below_setRow hb1 (Nat.le_refl w.heap.size) c2
 obtain⟨w1,e1⟩:∃ x,w.alloc (.cells cs 4)=x:=⟨_,rfl⟩
 rw [e1] at hmk hcp ht2 hb2
 have HB2:=zb (And.intro ht2 hb2)
 have HM1:=zb hm1
 clear hm0 hm1 ht1 hx1 hb1 e1 ht2 hb2 hcs hx
 go_enter Tryz.func156,Tryz.ntmps156
 go_wp2_with fail
 refine(za HM).mono ?_
 rintro e w' ⟨rfl,rfl⟩
 clear HM
 go_wp2_with fail
 go_loopw [8] (fun kv wr=>∃ k:Nat,k<=n/\(0<n->1<=k)/\kv=.int .i64 k/\Tr1 wr w.heap.size n k/\Below w.heap.size w wr) (fun kv _=>n-(intOf kv).toNat)
 case atStart=>exact⟨m0,(za HM1).2.1,fun h=>by have:=(za HM1).2.2 h;omega,rfl,(za HB2).1,(za HB2).2⟩
 case round =>
  obtain⟨k,hk,hk1,rfl,htr,hbel⟩:=hrel
  clear HB2 HM1 hmk hcp
  by_cases hlt:k<n
  ·have hs1:=fun(W:World)=>zqu w.heap.size n k hlt W
   have hs2:=fun(W:World)=>zqv w.heap.size n k hk (by omega) W
   obtain⟨mm,hmm⟩:∃ mm,mm=Nat.min k (n-k):=⟨_,rfl⟩
   have hmk:mm<=k/\mm<=n-k/\1<=mm:=by
    rw [hmm]
    refine⟨Nat.min_le_left _ _,Nat.min_le_right _ _,?_⟩
    show 1<=min k (n-k)
    have:=hk1 (by omega)
    omega
   obtain⟨c3,hcp,ht3⟩:=zky (w:=wr.drew) (dCap:=n-k) (sLen:=k) (sCap:=n) (sp:=⟨w.heap.size,0,none⟩) htr hk hmm (fun j hj=>by
    have:=Tr1.cell (w:=wr.drew) htr (i:=j) (by omega)
    rw [addr_add,Nat.zero_add]
    exact this) 86 86 3 Tryz.underlying86
   have hb3:=below_setRow (v:=wr.drew) (⟨hbel.os,hbel.tape,hbel.output,hbel.size,hbel.block⟩:Below w.heap.size w wr.drew) (Nat.le_refl w.heap.size) c3
   have HR:=zb (And.intro ht3 hb3)
   have HMK:=zb (And.intro hmk hk1)
   have hq2:=hmk.2.1
   have hq3:=hmk.2.2
   clear hmm hmk ht3 hb3 htr hbel hk1
   go_wp2_with fail
   go_region
   all_goals
    go_wp2
    go_roundw
    case rel=>exact⟨k+mm,by have:=za HMK;omega,fun _=>by have:=za HMK;omega,by go_num,(za HR).1,(za HR).2⟩
    case measure=>have:=za HMK;simp [intOf];omega
  ·obtain rfl:k=n:=by omega
   have HR:=zb (And.intro htr hbel)
   clear htr hbel
   go_wp2
   go_ret
   exact⟨_,rfl,Nat.le_refl _,(za HR).1,(za HR).2⟩
end Go.Proofs.YtchmlnmhbfaclaaGreatDoor
namespace Go.Proofs.YtchmlnmhbfaclaaGreatDoor
open Go.RowKit
set_option linter.unusedVariables false
section
variable {w:World} {p:Nat} {S:Nat->Prop} {D:DS}
theorem zlt(h:Dev w p S D) :
  Calls Tryz.prog 157 #[.pointer (some ⟨p,0,none⟩)] w fun e w'=>∃ g,e=.returned (.slice (some ⟨g,0,none⟩) D.mem.length D.mem.length)/\w.heap.size<=g/\IBlk w' g (zc1 D.mem)/\Below w.heap.size w w':=by
 obtain⟨sb,bm,pv,h⟩:=h
 have c2:=h.c2
 have hml:=h.ok.mem_len
 obtain⟨i0,hi0,hz0,hz1,hz2⟩:=info_parts zdG
 have h1:=h.alloc (.cells (Zh (zerosB D.mem.length)) 3)
 have c2':=h1.c2
 rcases h.pv_cases with ⟨rfl,hm0⟩ | ⟨g,cap,rfl,hcap,hcm,hcell⟩
 ·have hl0:D.mem.length=0:=by rw [hm0];rfl
  have hk0:zc1 D.mem=[]:=by rw [hm0];rfl
  rw [hl0] at c2' ⊢
  rw [hk0]
  have hcopy:=run_copy_nil (P:=Tryz.prog) (w.alloc (.cells (Zh (zerosB 0)) 3)) 90 90 3 3 ⟨w.heap.size,0,none⟩ 0 0 Tryz.underlying90 (by rw [hi0];rfl)
  clear h h1 hm0 hl0 hk0
  go_enter Tryz.func157,Tryz.ntmps157
  go_wp2_with (at_make;refine zbM rfl _ _ 90 rfl i0 Tryz.underlying90 hi0 hz0 hz1 hz2 _ _ _ _ 0 rfl rfl rfl rfl (by omega) ?_)
  go_ret
  exact⟨w.heap.size,rfl,Nat.le_refl _,heap_alloc_new _ _,(Below.refl _ _).alloc (Nat.le_refl _) _⟩
 ·unfold maxLen at hcm
  obtain⟨n,hn⟩:∃ n,D.mem.length=n:=⟨_,rfl⟩
  have hkl:(zc1 D.mem).length=n:=by rw [zew,hn]
  have hcc:∀ j v,((zc1 D.mem).map (Value.int .i64))[j]?=some v->(w.alloc (.cells (Zh (zerosB D.mem.length)) 3)).cell? (Addr.add ⟨g,0,none⟩ j)=some v:=by
   intro j v hv
   have hj:j<D.mem.length:=by
    rcases Nat.lt_or_ge j D.mem.length with h2 | h2
    ·exact h2
    ·rw [List.getElem?_eq_none (by rw [List.length_map,zew];exact h2)] at hv;cases hv
   rw [addr_add,Nat.zero_add,h1.pend_cell j hj,<- hv]
   simp [zc1,hj,List.getD]
  rw [hn] at hcc c2' ⊢
  have hcopy:=run_copy_row (P:=Tryz.prog) (w.alloc (.cells (Zh (zerosB n)) 3)) 90 90 3 3 w.heap.size 0 n n ⟨g,0,none⟩ n cap (Zh (zerosB n)) 3 ((zc1 D.mem).map (Value.int .i64)) Tryz.underlying90 (by rw [hi0];simp [hz1]) (heap_alloc_new _ _) (by rw [List.length_map,hkl];simp) hcc (by simp [Zh,zerosB,hkl]) (fun v hv=>by
   obtain⟨z,_,rfl⟩:=List.mem_map.1 hv
   rfl)
  have hw:(w.alloc (.cells (Zh (zerosB n)) 3)).setRow w.heap.size ((Zh (zerosB n)).toList.take 0++(zc1 D.mem).map (Value.int .i64)++(Zh (zerosB n)).toList.drop (0+((zc1 D.mem).map (Value.int .i64)).length)).toArray=w.alloc (.cells (Zh (zc1 D.mem)) 3):=by
   rw [World.setRow_alloc_new]
   simp [Zh,zerosB,hkl]
  rw [hw] at hcopy
  have hcopy':Sem.run Tryz.prog (Builtin.copy_ #[90,90] 3 #[.slice (some ⟨w.heap.size,0,none⟩) n n,.slice (some ⟨g,0,none⟩) n cap]) (w.alloc (.cells (Zh (zerosB n)) 3))=.ok (.int .i64 n) (w.alloc (.cells (Zh (zc1 D.mem)) 3)):=by
   rw [hcopy];simp [goInt,hkl]
  rw [hn] at c2 hml hcap
  clear h h1 hcell hcc hw hcopy hn hkl
  go_enter Tryz.func157,Tryz.ntmps157
  go_wp2_with (at_make;refine zbM rfl _ _ 90 rfl i0 Tryz.underlying90 hi0 hz0 hz1 hz2 _ _ _ _ n rfl rfl rfl rfl (by omega) ?_)
  go_ret
  exact⟨w.heap.size,rfl,Nat.le_refl _,heap_alloc_new _ _,(Below.refl _ _).alloc (Nat.le_refl _) _⟩
end
theorem Live.pending{w0 w:World}{p:Nat}{S:Nat->Prop}{D:DS}(h:Live w0 w p S D) :
  Calls Tryz.prog 157 #[.pointer (some ⟨p,0,none⟩)] w fun e w'=>∃ g,e=.returned (.slice (some ⟨g,0,none⟩) D.mem.length D.mem.length)/\w.heap.size<=g/\IBlk w' g (zc1 D.mem)/\Below w.heap.size w w':=zlt h.dev
end Go.Proofs.YtchmlnmhbfaclaaGreatDoor
namespace Go.Proofs.YtchmlnmhbfaclaaGreatDoor
open Go.RowKit Go.Shelf
set_option linter.unusedVariables false
def zhm(P:Ps):DS:=P.D.crash (List.replicate P.D.mem.length true) (-1) 0
def zdv(m:Nat)(P:Ps):Ps:=⟨(qs (zhm P) m).1,(qs (zhm P) m).2.1,zcc (fun i=>img (qs (zhm P) m).1 (48+i)) m,zcc (fun i=>img (qs (zhm P) m).1 (48+i)) m⟩
section
variable {w0 w w':World} {g p m n t x:Nat} {P P':Ps} {F F':Nat->Prop} {b:Addr} {D:DS}
theorem Lf.openC{s:Int}{K:List Int}(h:Lf w0 w p D F)(hm0:Zk D.secs.length=m)(hm1:1<=m)(hm2:m<=200)(hr:Rdy D m s (prt K))(hK:K.length=32 * m)(hby:Byt K)(hf:Fine K)(hlf:D.left<0) :
  Calls Tryz.prog 159 #[.pointer (some ⟨p,0,none⟩)] w fun e w'=>∃ t x,e=.returned (.tuple #[.pointer (some ⟨t,0,none⟩),.nilIface])/\∃ F',Tf w0 w' t p x m ⟨(qs D m).1,s,K,K⟩ F'/\Turn F F' w w':=by
 obtain⟨S,hl,hF⟩:=h
 have hop:=zhX hl hm0 hm1 hr.down
 have hsz:=hl.bel.size
 rcases zeR hr with ⟨r1,r2,r3,r4,r5⟩ | ⟨r1,r2,r3,r4,r5⟩
 ·rw [r1,r2,zf] at hop
  obtain⟨a,l,hnt⟩:=r4
  refine(zcV (hop.mono ?_)).mono (fun e w' h=>h.2)
  rintro e w1 ⟨v,rfl,S1,hl1,ht1,hyes,_⟩
  obtain⟨q,rfl,hpg,hq,hout⟩:=hyes (by trivial)
  refine⟨q,rfl,zb ((za0 hl1 hpg hout (by omega) (by rw [r3.len];exact hm0) hm2 (by rw [r3.len];exact hr.len) hnt.down hK (fun i hi=>by rw [zaz r3.mem];exact r3.pages i hi) hby hf).mono ?_)⟩
  rintro e w2 ⟨t,x,g,c,gk,rfl,hs,hge,hb⟩
  have ht2:=ht1.trans (Turn.of_below (S:=S1) hb)
  have hs1:=ht1.size
  refine⟨_,_,rfl,zb ⟨t,x,rfl,_,⟨q,S1,g,c,gk,_,by show Sto w0 w2 t p q S1 _ s m x g c K gk (32 * m) K (qs D m).1.down;rw [hnt.down];exact hs,rfl⟩,⟨ht2.os,ht2.tape,ht2.output,ht2.size,fun k hk hn=>ht2.block k hk (fun hs=>hn (hF k hs)),fun k hk hff=>?_⟩⟩⟩
  rcases hff with (hff | hff) | hff
  ·exact hF k (ht2.foot k hk hff)
  ·omega
  ·have:=hge k hff;omega
 ·exact absurd hlf r2
theorem Pz.crash(h:Pz m n P)(hs:P.s<=9999):∃ K s,Rdy (zhm P) m s (prt K)/\Fine K/\Byt K/\K.length=32 * m/\P.s<=s/\s<=P.s+1/\zdv m P=⟨(qs (zhm P) m).1,s,K,K⟩/\P.D.Ok/\(zhm P).secs.length=n/\Pu m n (zdv m P):=by
 have key:∀ K s,Rdy (zhm P) m s (prt K)->K.length=32 * m->zdv m P=⟨(qs (zhm P) m).1,s,K,K⟩/\∃ a nl,Nt (qs (zhm P) m).1 m s (prt K) a nl/\(qs (zhm P) m).1.secs.length=(zhm P).secs.length:=fun K s hr hK=>by
  rcases zeR hr with ⟨r1,r2,r3,r4,r5⟩ | ⟨r1,r2,r3,r4,r5⟩
  ·have e:zcc (fun i=>img (qs (zhm P) m).1 (48+i)) m=K:=by
    rw [zcC m (fun i hi=>r3.pages i hi)]
    exact zdF hK
   obtain⟨a,nl,hn⟩:=r4
   refine⟨?_,a,nl,hn,r3.len⟩
   unfold zdv
   rw [r2,e]
  ·exact absurd (show(zhm P).left<0 by show(-1:Int)<0;decide) r2
 have hlen:∀ D:DS,D.Ok->(D.crash (List.replicate D.mem.length true) (-1) 0).secs.length=D.secs.length:=fun D _=>Qx _ _ _ _ _ _
 rcases h with h | ⟨N,h⟩
 ·obtain⟨a0,nl0,hn0⟩:=h.nt
  have hr:Rdy (zhm P) m P.s (prt P.K):=h.opens _ _ _
  obtain⟨e,a,nl,hn,hsl⟩:=key P.K P.s hr h.lk
  have hl:=(hlen P.D hn0.ok).trans h.sn
  exact⟨P.K,P.s,hr,h.fk,h.bk,h.lk,Int.le_refl _,by omega,e,hn0.ok,hl,by rw [e];exact⟨⟨a,nl,hn⟩,h.fk,h.fk,h.bk,h.bk,h.lk,h.lk,hsl.trans hl⟩⟩
 ·obtain⟨K,s,_,hr,hfK,hbK,hK,h1,h2⟩:=h.opens (List.replicate P.D.mem.length true) (-1) (c:=0) (by omega)
  obtain⟨e,a,nl,hn,hsl⟩:=key K s hr hK
  have hl:=(hlen P.D h.ok).trans h.sn
  exact⟨K,s,hr,hfK,hbK,hK,h1,h2,e,h.ok,hl,by rw [e];exact⟨⟨a,nl,hn⟩,hfK,hfK,hbK,hbK,hK,hK,hsl.trans hl⟩⟩
theorem Tr1.bls{g k:Nat}(h:Tr1 w g k k)(hk:k<=10000):Bls w (some ⟨g,0,none⟩) k (List.replicate k true):=by
 refine⟨by rw [List.length_replicate];exact Nat.le_refl _,by rw [List.length_replicate];omega,fun _=>⟨g,0,rfl,fun i hi=>?_⟩⟩
 rw [List.length_replicate] at hi
 rw [Nat.zero_add,List.getD_eq_getElem?_getD,List.getElem?_replicate,if_pos hi]
 exact h.cell hi
theorem Turn.wide{S S':Nat->Prop}{g:Nat}(h:Turn S S' w w'):Turn (sF S g) (sF S' g) w w':=⟨h.os,h.tape,h.output,h.size,fun k hk hn=>h.block k hk (fun hf=>hn (.inl hf)),fun k hk hf=>by
 rcases hf with hf | hf
 ·exact .inl (h.foot k hk hf)
 ·exact .inr hf⟩
set_option maxRecDepth 100000 in
set_option maxHeartbeats 2000000 in
theorem zlg(hs:Ssn w0 w g p m P F)(hz:Pz m n P)(hS:P.s<=9999)(hm0:Zk n=m)(hm1:1<=m)(hm2:m<=200):Calls Tryz.prog 104 #[.pointer (some ⟨g,0,none⟩)] w fun e w'=>e=.returned .nilIface/\SsT w0 w g p m (zdv m P) F w':=by
 obtain⟨K,s,hr,hfK,hbK,hK,h1s,h2s,hps,hok,hsl,hpu⟩:=hz.crash hS
 have hml:=hok.mem_len
 have hba:Below w.heap.size w (w.alloc (.cells #[.bool true] 4)):=(Below.refl _ _).alloc (Nat.le_refl _) _
 obtain⟨w1,e1⟩:∃ x,w.alloc (.cells #[.bool true] 4)=x:=⟨_,rfl⟩
 have z0:w1.cell? ⟨w.heap.size,0,none⟩=some (.bool true):=by rw [<- e1];simp
 rw [e1] at hba
 have hlt:=hs.lt
 obtain⟨t,x,k1,k2,k3,k4⟩:=hs
 have HKE:=zb (fun(W:World) (hW:Below w.heap.size w W)=>And.intro (show W.heap[g]?=some (.cells #[.pointer (some ⟨p,0,none⟩),.pointer (some ⟨t,0,none⟩)] 106 (0,0)) by rw [hW.block g hlt];exact k1) (k2.below hW))
 have q1:=(za HKE w1 hba).1
 have s0:w1.cell? ⟨g,0,none⟩=some (.pointer (some ⟨p,0,none⟩)):=by rw [Go.Lib.cell_of_heap q1];rfl
 have s9:(w.alloc (.cells #[.bool true] 4)).cell? ⟨g,0,none⟩=some (.pointer (some ⟨p,0,none⟩)):=by rw [e1];exact s0
 obtain⟨S1,hl1,hSF1⟩:=(za HKE w1 hba).2.dev
 have HP:=zb hl1.pending
 have HZ0:=zb z0
 have HFL:=zb (fun k hk=>k2.lt k hk)
 have HK3:=zb (And.intro k3 k4)
 have HBA:=zb hba
 have HOP:=zb (fun(W:World) (F':Nat->Prop) (hL:Lf w0 W p (zhm P) F')=>hL.openC (by rw [hsl];exact hm0) hm1 hm2 hr hK hbK hfK (show(-1:Int)<0 by decide))
 have HPS:=zb hps
 have HCR:Hid (zhm P=P.D.crash (List.replicate P.D.mem.length true) (-1) (zma (-1))):=zb rfl
 have HW1:=zb e1
 clear hps hr hfK hbK hK h1s h2s hok hsl hpu hba e1 k1 k2 k3 k4 q1 hl1 hSF1 hz
 generalize hM:P.D.mem.length=M at *
 have HM:=zb hM
 clear hM
 go_enter Tryz.func104,Tryz.ntmps104
 go_wp2_with fail
 rw [za HW1]
 clear HW1 s9
 refine(za HP).mono ?_
 rintro e w2 ⟨gp,rfl,hgp,_,hb2⟩
 have hB2:=(za HBA).trans (hb2.mono (za HBA).size)
 have HRP:=zb (zoy M (by omega) w.heap.size w2 (cell_below (za HZ0) hb2))
 have HB2:=zb hB2
 have hs2:=hB2.size
 clear HP hgp hb2 hB2 HZ0 HBA
 go_wp2_with fail
 refine(za HRP).mono ?_
 rintro e w3 ⟨gr,rfl,hgr,htr,hb3⟩
 have hB3:=(za HB2).trans (hb3.mono (za HB2).size)
 obtain⟨q3,hT3⟩:=za HKE w3 hB3
 have s3:w3.cell? ⟨g,0,none⟩=some (.pointer (some ⟨p,0,none⟩)):=by rw [Go.Lib.cell_of_heap q3];rfl
 have hcr:=hT3.dev.crash (-1) (-1) (keep:=List.replicate M true) ⟨htr.bls (by omega),fun _ y hy hf=>by
  simp only [Option.some.injEq] at hy
  subst hy
  have:=za HFL _ hf
  dsimp only at this
  omega⟩
 have hcd:=za HCR
 rw [List.length_replicate] at hcr
 rw [<- hcd] at hcr
 have HC:=zb hcr
 have HQ3:=zb (And.intro q3 hB3)
 have hlt3:g<w3.heap.size:=(Array.getElem?_eq_some_iff.1 q3).1
 clear hcr hcd htr hb3 hB3 q3 hT3 HRP HB2 HKE HCR hgr
 go_wp2_with fail
 refine(za HC).mono ?_
 rintro e w4 ⟨rfl,F4,hL4,hU4⟩
 have q4:w4.heap[g]?=some (.cells #[.pointer (some ⟨p,0,none⟩),.pointer (some ⟨t,0,none⟩)] 106 (0,0)):=by rw [hU4.block g hlt3 (za HK3).1];exact(za HQ3).1
 have s4:w4.cell? ⟨g,0,none⟩=some (.pointer (some ⟨p,0,none⟩)):=by rw [Go.Lib.cell_of_heap q4];rfl
 have hn4:¬ F4 g:=fun hf=>(za HK3).1 (hU4.foot g hlt3 hf)
 have HO:=zb (za HOP w4 F4 hL4)
 have HU4:=zb (And.intro hU4 q4)
 have hlt4:g<w4.heap.size:=(Array.getElem?_eq_some_iff.1 q4).1
 clear HC HOP hL4 hU4 q4 s3
 go_wp2_with fail
 refine(za HO).mono ?_
 rintro e w5 ⟨t',x',rfl,F5,hT5,hU5⟩
 have q5:w5.heap[g]?=some (.cells #[.pointer (some ⟨p,0,none⟩),.pointer (some ⟨t,0,none⟩)] 106 (0,0)):=by rw [hU5.block g hlt4 hn4];exact(za HU4).2
 have s5:w5.cell? ⟨g,1,none⟩=some (.pointer (some ⟨t,0,none⟩)):=by rw [Go.Lib.cell_of_heap q5];rfl
 have f5:w5.frozen? ⟨g,1,none⟩=false:=Go.Lib.frozen_of_heap q5 1
 have hn5:¬ F5 g:=fun hf=>hn4 (hU5.foot g hlt4 hf)
 have htS:Turn (fun k=>k=g) (fun k=>k=g) w5 (w5.setCell ⟨g,1,none⟩ (.pointer (some ⟨t',0,none⟩))):=Turn.setCell w5 _ rfl
 have hT6:=hT5.other htS (fun k hk e=>hn5 (by rw [<- e];exact hk)) (fun k hk=>by rw [hk];exact(za HK3).2)
 have HE:Hid (SsT w0 w g p m (zdv m P) F (w5.setCell ⟨g,1,none⟩ (.pointer (some ⟨t',0,none⟩)))):=zb (by
  refine⟨F5,⟨t',x',heap_set q5 _,by rw [za HPS];exact hT6,hn5,(za HK3).2⟩,?_⟩
  have u1:Turn (sF F g) (sF F g) w w3:=Turn.of_below (za HQ3).2
  have u2:Turn (sF F g) (sF F4 g) w3 w4:=(za HU4).1.wide
  have u3:Turn (sF F4 g) (sF F5 g) w4 w5:=hU5.wide
  have u4:Turn (sF F5 g) (sF F5 g) w5 (w5.setCell ⟨g,1,none⟩ (.pointer (some ⟨t',0,none⟩))):=Turn.setCell w5 _ (.inr rfl)
  exact u1.trans (u2.trans (u3.trans u4)))
 clear HO hT5 hU5 q5 hn5 htS hT6 HU4 HQ3 s4
 go_wp2
 go_ret
 exact⟨rfl,za HE⟩
end
end Go.Proofs.YtchmlnmhbfaclaaGreatDoor
