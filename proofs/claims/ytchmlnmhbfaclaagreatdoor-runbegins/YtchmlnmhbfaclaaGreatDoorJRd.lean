/-
  Parts of the proofs, joined by program.
-/
import Derived.Test.YtchmlnmhbfaclaaGreatDoorJRc
import Derived.Test.YtchmlnmhbfaclaaGreatDoorJTf
import Derived.Test.YtchmlnmhbfaclaaGreatDoorJPo
import Derived.BigQuiet
import Derived.Test.YtchmlnmhbfaclaaGreatDoorJTw
import Derived.Test.YtchmlnmhbfaclaaGreatDoorJSf
import Derived.Test.YtchmlnmhbfaclaaGreatDoorJRt
namespace Go.Proofs.YtchmlnmhbfaclaaGreatDoor
open Go.RowKit Go.Shelf
set_option linter.unusedVariables false
def Ssn(w0 w:World)(g p m:Nat)(P:Ps)(F:Nat->Prop):Prop:=∃ t x,w.heap[g]?=some (.cells #[.pointer (some ⟨p,0,none⟩),.pointer (some ⟨t,0,none⟩)] 106 (0,0))/\Tf w0 w t p x m P F/\¬ F g/\w0.heap.size<=g
def sF(F:Nat->Prop)(g k:Nat):Prop:=F k\/k=g
def SsT(w0 w:World)(g p m:Nat)(P:Ps)(F:Nat->Prop)(w':World):Prop:=∃ F',Ssn w0 w' g p m P F'/\Turn (sF F g) (sF F' g) w w'
section
variable {w0 w w':World} {g p m t x:Nat} {P P':Ps} {F F':Nat->Prop} {b:Addr}
theorem Ssn.base(h:Ssn w0 w g p m P F):Below w0.heap.size w0 w:=by
 obtain⟨t,x,_,h2,_⟩:=h
 exact h2.base
theorem Ssn.lt(h:Ssn w0 w g p m P F):g<w.heap.size:=by
 obtain⟨t,x,h1,_⟩:=h
 exact(Array.getElem?_eq_some_iff.1 h1).1
theorem Ssn.below(h:Ssn w0 w g p m P F)(hb:Below w.heap.size w w'):Ssn w0 w' g p m P F:=by
 have hlt:=h.lt
 obtain⟨t,x,h1,h2,h3,h4⟩:=h
 exact⟨t,x,by rw [hb.block g hlt];exact h1,h2.below hb,h3,h4⟩
theorem SsT.below{w1:World}(h:SsT w0 w g p m P F w1)(hb:Below w1.heap.size w1 w'):SsT w0 w g p m P F w':=by
 obtain⟨F',h1,h2⟩:=h
 exact⟨F',h1.below hb,h2.trans (Turn.of_below (S:=sF F' g) hb)⟩
theorem SsT.over{w1:World}(hb:Below w.heap.size w w1)(h:SsT w0 w1 g p m P F w')(hF:∀ k,sF F g k->k<w.heap.size):SsT w0 w g p m P F w':=by
 obtain⟨F',h1,h2⟩:=h
 exact⟨F',h1,(Turn.of_below (S:=sF F g) hb).trans h2⟩
theorem Ssn.foot(h:Ssn w0 w g p m P F):∀ k,sF F g k->k<w.heap.size:=fun k hk=>by
 have hlt:=h.lt
 obtain⟨t,x,h1,h2,h3,h4⟩:=h
 rcases hk with hk | rfl
 ·exact h2.lt k hk
 ·exact hlt
theorem qV(h1:w.heap[g]?=some (.cells #[.pointer (some ⟨p,0,none⟩),.pointer (some ⟨t,0,none⟩)] 106 (0,0)))(h3:¬ F g)(h4:w0.heap.size<=g)(ht:Tf w0 w' t p x m P' F')(hT:Turn F F' w w'):SsT w0 w g p m P' F w':=by
 have hlt:g<w.heap.size:=(Array.getElem?_eq_some_iff.1 h1).1
 refine⟨F',⟨t,x,by rw [hT.block g hlt h3];exact h1,ht,fun hf=>h3 (hT.foot g hlt hf),h4⟩,⟨hT.os,hT.tape,hT.output,hT.size,fun k hk hn=>hT.block k hk (fun hf=>hn (.inl hf)),fun k hk hf=>?_⟩⟩
 rcases hf with hf | hf
 ·exact .inl (hT.foot k hk hf)
 ·exact .inr hf
set_option maxRecDepth 100000 in
set_option maxHeartbeats 2000000 in
theorem zzc(hw:RnW w0 b)(hs:Ssn w0 w g p m P F)(n0:Int)(bn on cn bl c:Nat)(nm:ByteArray)(a:Option Addr)(c0:w.cell? ⟨bn,on,none⟩=some (.int .i64 n0)) :
  Calls Tryz.prog 54 #[.pointer (some ⟨g,0,none⟩),.agg #[.string zbV,.slice (some ⟨bn,on,none⟩) 1 cn,.string nm,.slice a bl c]] w fun e w'=>e=.returned (.string (tdS (frE P.L n0)))/\SsT w0 w g p m { P with L:=frB P.L n0 } F w':=by
 have hba:Below w.heap.size w (w.alloc (.cells #[.string zbV,.slice (some ⟨bn,on,none⟩) 1 cn,.string nm,.slice a bl c] 114)):=(Below.refl _ _).alloc (Nat.le_refl _) _
 obtain⟨w1,e1⟩:∃ x,w.alloc (.cells #[.string zbV,.slice (some ⟨bn,on,none⟩) 1 cn,.string nm,.slice a bl c] 114)=x:=⟨_,rfl⟩
 have z0:w1.cell? ⟨w.heap.size,0,none⟩=some (.string zbV):=by rw [<- e1];simp
 have z1:w1.cell? ⟨w.heap.size,1,none⟩=some (.slice (some ⟨bn,on,none⟩) 1 cn):=by rw [<- e1];simp
 rw [e1] at hba
 have c1:=cell_below c0 hba
 have hs1:=hs.below hba
 obtain⟨t,x,h1,h2,h3,h4⟩:=hs1
 have s0:w1.cell? ⟨g,0,none⟩=some (.pointer (some ⟨p,0,none⟩)):=by rw [Go.Lib.cell_of_heap h1];rfl
 have s1:w1.cell? ⟨g,1,none⟩=some (.pointer (some ⟨t,0,none⟩)):=by rw [Go.Lib.cell_of_heap h1];rfl
 have HH:Hid (∀ q:Nat,Calls Tryz.prog 89 #[.pointer (some ⟨t,0,none⟩)] (w1.drewN q) fun e w'=>e=.returned (.pointer (some ⟨x,0,none⟩))/\w'=w1.drewN q):=zb (fun q=>(h2.below (below_drewN (Below.refl _ w1) q)).heap.mono fun e w' ⟨he,hw⟩=>⟨he,hw.symm⟩)
 have HF:=zb (fun(q:Nat)=>(h2.below (below_drewN (Below.refl _ w1) q)).free n0)
 have HN:=zb (fun(W:World) (F':Nat->Prop) (hT:Tf w0 W t p x m { P with L:=frB P.L n0 } F') (hU:Turn F F' w1 W)=>SsT.over hba (qV h1 h3 h4 hT hU) hs.foot)
 have HT:=zb (fun(k:Int) (W:World) (hW:Below w0.heap.size w0 W)=>QV k b W ((hw.below hW).bd) ((hw.below hW).et))
 have HW1:=zb e1
 clear hba e1 hs h1 h2 h3 h4 c0 hw
 unfold zbV at *
 go_enter Tryz.func54,Tryz.ntmps54
 go_wp2_with fail
 rw [za HW1]
 clear HW1
 go_quiet ((go_at_call 89;exact Calls.quiet_of_same (za HH _)))
 go_wp2_with fail
 refine(za HF _).mono ?_
 rintro e w2 ⟨rfl,F',hT,hU⟩
 have hn2:=za HN w2 F' hT ((Turn.of_below (S:=F) (below_drewN (Below.refl _ w1) nq)).trans hU)
 have HT2:=zb (za HT (frE P.L n0) w2 hT.base)
 have HN2:=zb hn2
 clear hT hU hn2 HF HN HT HH
 go_wp2_with fail
 refine(za HT2).mono ?_
 rintro e w3 ⟨rfl,hb3⟩
 have HN3:=zb ((za HN2).below hb3)
 clear hb3 HT2 HN2
 go_wp2
 go_ret
 exact⟨rfl,za HN3⟩
end
section
variable {w0 w w':World} {g p m t x:Nat} {P P':Ps} {F F':Nat->Prop} {b:Addr}
theorem zf9:zK 0=.nilIface:=zf
set_option maxRecDepth 100000 in
set_option maxHeartbeats 2000000 in
theorem zvV(hw:RnW w0 b)(hs:Ssn w0 w g p m P F)(an:Option Addr)(nl cn:Nat)(nm:ByteArray)(a:Option Addr)(bl c:Nat)(hz:nm.size<=140737488351232) :
  Calls Tryz.prog 54 #[.pointer (some ⟨g,0,none⟩),.agg #[.string Zz,.slice an nl cn,.string nm,.slice a bl c]] w fun e w'=>e=.returned (.string (tdS (unE P.L nm)))/\SsT w0 w g p m { P with L:=unF P.L nm } F w':=by
 have hba:Below w.heap.size w (w.alloc (.cells #[.string Zz,.slice an nl cn,.string nm,.slice a bl c] 114)):=(Below.refl _ _).alloc (Nat.le_refl _) _
 obtain⟨w1,e1⟩:∃ x,(w.alloc (.cells #[.string Zz,.slice an nl cn,.string nm,.slice a bl c] 114))=x:=⟨_,rfl⟩
 have z0:w1.cell? ⟨w.heap.size,0,none⟩=some (.string Zz):=by rw [<- e1];simp
 have z1:w1.cell? ⟨w.heap.size,1,none⟩=some (.slice an nl cn):=by rw [<- e1];simp
 have z2:w1.cell? ⟨w.heap.size,2,none⟩=some (.string nm):=by rw [<- e1];simp
 have z3:w1.cell? ⟨w.heap.size,3,none⟩=some (.slice a bl c):=by rw [<- e1];simp
 rw [e1] at hba
 have hs1:=hs.below hba
 obtain⟨t,x,h1,h2,h3,h4⟩:=hs1
 have s0:w1.cell? ⟨g,0,none⟩=some (.pointer (some ⟨p,0,none⟩)):=by rw [Go.Lib.cell_of_heap h1];rfl
 have s1:w1.cell? ⟨g,1,none⟩=some (.pointer (some ⟨t,0,none⟩)):=by rw [Go.Lib.cell_of_heap h1];rfl
 have HH:Hid (∀ q:Nat,Calls Tryz.prog 89 #[.pointer (some ⟨t,0,none⟩)] (w1.drewN q) fun e w'=>e=.returned (.pointer (some ⟨x,0,none⟩))/\w'=w1.drewN q):=zb (fun q=>(h2.below (below_drewN (Below.refl _ w1) q)).heap.mono fun e w' ⟨he,hw⟩=>⟨he,hw.symm⟩)
 have HX:=zb (fun(q:Nat)=>h2.below (below_drewN (Below.refl _ w1) q))
 have HN:=zb (fun(W:World) (F':Nat->Prop) (hT:Tf w0 W t p x m { P with L:=unF P.L nm } F') (hU:Turn F F' w1 W)=>SsT.over hba (qV h1 h3 h4 hT hU) hs.foot)
 have HRW:=zb (fun(W:World) (hW:Below w0.heap.size w0 W)=>hw.below hW)
 have HW1:=zb e1
 clear hba e1 hs h1 h2 h3 h4 hw
 unfold Zz at *
 go_enter Tryz.func54,Tryz.ntmps54
 go_wp2_with fail
 rw [za HW1]
 clear HW1
 go_quiet ((go_at_call 89;exact Calls.quiet_of_same (za HH _)))
 clear HH
 have HF:=zb ((za HX nq).unset nm hz)
 go_wp2_with fail
 refine(za HF).mono ?_
 rintro e w2 ⟨rfl,F',hT,hU⟩
 have HN2:=zb (za HN w2 F' hT ((Turn.of_below (S:=F) (below_drewN (Below.refl _ w1) nq)).trans hU))
 have HR2:=zb (za HRW w2 hT.base)
 clear hT hU HF HN HRW HX
 have HT:=zb (QV (unE P.L nm) b w2 (za HR2).bd (za HR2).et)
 go_wp2_with fail
 refine(za HT).mono ?_
 rintro e w3 ⟨rfl,hb3⟩
 have HN3:=zb ((za HN2).below hb3)
 clear hb3 HT HN2
 go_wp2
 go_ret
 exact⟨rfl,za HN3⟩
set_option maxRecDepth 100000 in
set_option maxHeartbeats 2000000 in
theorem zBC(hw:RnW w0 b)(hs:Ssn w0 w g p m P F)(an:Option Addr)(nl cn:Nat)(nm:ByteArray)(a:Option Addr)(bl c:Nat)(hz:nm.size<=140737488351232)(hg:-9223372036854775808<=gtH P.L nm (-1)/\gtH P.L nm (-1)<=9223372036854775807) :
  Calls Tryz.prog 54 #[.pointer (some ⟨g,0,none⟩),.agg #[.string ziR,.slice an nl cn,.string nm,.slice a bl c]] w fun e w'=>e=.returned (.string (nbS (gtH P.L nm (-1)) (gtE P.L nm (-1))))/\SsT w0 w g p m P F w':=by
 have hba:Below w.heap.size w (w.alloc (.cells #[.string ziR,.slice an nl cn,.string nm,.slice a bl c] 114)):=(Below.refl _ _).alloc (Nat.le_refl _) _
 obtain⟨w1,e1⟩:∃ x,(w.alloc (.cells #[.string ziR,.slice an nl cn,.string nm,.slice a bl c] 114))=x:=⟨_,rfl⟩
 have z0:w1.cell? ⟨w.heap.size,0,none⟩=some (.string ziR):=by rw [<- e1];simp
 have z1:w1.cell? ⟨w.heap.size,1,none⟩=some (.slice an nl cn):=by rw [<- e1];simp
 have z2:w1.cell? ⟨w.heap.size,2,none⟩=some (.string nm):=by rw [<- e1];simp
 have z3:w1.cell? ⟨w.heap.size,3,none⟩=some (.slice a bl c):=by rw [<- e1];simp
 rw [e1] at hba
 have hs1:=hs.below hba
 obtain⟨t,x,h1,h2,h3,h4⟩:=hs1
 have s0:w1.cell? ⟨g,0,none⟩=some (.pointer (some ⟨p,0,none⟩)):=by rw [Go.Lib.cell_of_heap h1];rfl
 have s1:w1.cell? ⟨g,1,none⟩=some (.pointer (some ⟨t,0,none⟩)):=by rw [Go.Lib.cell_of_heap h1];rfl
 have HH:Hid (∀ q:Nat,Calls Tryz.prog 89 #[.pointer (some ⟨t,0,none⟩)] (w1.drewN q) fun e w'=>e=.returned (.pointer (some ⟨x,0,none⟩))/\w'=w1.drewN q):=zb (fun q=>(h2.below (below_drewN (Below.refl _ w1) q)).heap.mono fun e w' ⟨he,hw⟩=>⟨he,hw.symm⟩)
 have HX:=zb (fun(q:Nat)=>h2.below (below_drewN (Below.refl _ w1) q))
 have HN:=zb (fun(W:World) (F':Nat->Prop) (hT:Tf w0 W t p x m P F') (hU:Turn F F' w1 W)=>SsT.over hba (qV h1 h3 h4 hT hU) hs.foot)
 have HRW:=zb (fun(W:World) (hW:Below w0.heap.size w0 W)=>hw.below hW)
 have HW1:=zb e1
 clear hba e1 hs h1 h2 h3 h4 hw
 unfold ziR at *
 go_enter Tryz.func54,Tryz.ntmps54
 go_wp2_with fail
 rw [za HW1]
 clear HW1
 go_quiet ((go_at_call 89;exact Calls.quiet_of_same (za HH _)))
 clear HH
 have HF:=zb ((za HX nq).ask (fun g c hh=>zqT hh nm (-1) hz))
 go_wp2_with fail
 refine(za HF).mono ?_
 rintro e w2 ⟨rfl,hT,hU⟩
 have HN2:=zb (za HN w2 F hT (Turn.of_below ((below_drewN (Below.refl _ w1) nq).trans hU)))
 have HR2:=zb (za HRW w2 hT.base)
 clear hT hU HF HN HRW HX
 have HT:=zb (za7 (za HR2) (gtH P.L nm (-1)) (gtE P.L nm (-1)) hg.1 hg.2)
 go_wp2_with fail
 refine(za HT).mono ?_
 rintro e w3 ⟨rfl,hb3⟩
 have HN3:=zb ((za HN2).below hb3)
 clear hb3 HT HN2
 go_wp2
 go_ret
 exact⟨rfl,za HN3⟩
set_option maxRecDepth 100000 in
set_option maxHeartbeats 2000000 in
theorem zsV(hw:RnW w0 b)(hs:Ssn w0 w g p m P F)(an:Option Addr)(nl cn:Nat)(nm:ByteArray)(a:Option Addr)(bl c:Nat)(h0:0<=P.s)(h1s:P.s<4294967295)(hup:P.D.down=false->(qR m P).2=0->(qR m P).1.D.down=false) :
  Calls Tryz.prog 54 #[.pointer (some ⟨g,0,none⟩),.agg #[.string Qe,.slice an nl cn,.string nm,.slice a bl c]] w fun e w'=>e=.returned (.string (tdS (qR m P).2))/\SsT w0 w g p m (qR m P).1 F w':=by
 have hba:Below w.heap.size w (w.alloc (.cells #[.string Qe,.slice an nl cn,.string nm,.slice a bl c] 114)):=(Below.refl _ _).alloc (Nat.le_refl _) _
 obtain⟨w1,e1⟩:∃ x,(w.alloc (.cells #[.string Qe,.slice an nl cn,.string nm,.slice a bl c] 114))=x:=⟨_,rfl⟩
 have z0:w1.cell? ⟨w.heap.size,0,none⟩=some (.string Qe):=by rw [<- e1];simp
 have z1:w1.cell? ⟨w.heap.size,1,none⟩=some (.slice an nl cn):=by rw [<- e1];simp
 have z2:w1.cell? ⟨w.heap.size,2,none⟩=some (.string nm):=by rw [<- e1];simp
 have z3:w1.cell? ⟨w.heap.size,3,none⟩=some (.slice a bl c):=by rw [<- e1];simp
 rw [e1] at hba
 have hs1:=hs.below hba
 obtain⟨t,x,h1,h2,h3,h4⟩:=hs1
 have s0:w1.cell? ⟨g,0,none⟩=some (.pointer (some ⟨p,0,none⟩)):=by rw [Go.Lib.cell_of_heap h1];rfl
 have s1:w1.cell? ⟨g,1,none⟩=some (.pointer (some ⟨t,0,none⟩)):=by rw [Go.Lib.cell_of_heap h1];rfl
 have HH:Hid (∀ q:Nat,Calls Tryz.prog 89 #[.pointer (some ⟨t,0,none⟩)] (w1.drewN q) fun e w'=>e=.returned (.pointer (some ⟨x,0,none⟩))/\w'=w1.drewN q):=zb (fun q=>(h2.below (below_drewN (Below.refl _ w1) q)).heap.mono fun e w' ⟨he,hw⟩=>⟨he,hw.symm⟩)
 have HX:=zb (fun(q:Nat)=>h2.below (below_drewN (Below.refl _ w1) q))
 have HN:=zb (fun(W:World) (F':Nat->Prop) (hT:Tf w0 W t p x m (qR m P).1 F') (hU:Turn F F' w1 W)=>SsT.over hba (qV h1 h3 h4 hT hU) hs.foot)
 have HRW:=zb (fun(W:World) (hW:Below w0.heap.size w0 W)=>hw.below hW)
 have HW1:=zb e1
 clear hba e1 hs h1 h2 h3 h4 hw
 unfold Qe at *
 go_enter Tryz.func54,Tryz.ntmps54
 go_wp2_with fail
 rw [za HW1]
 clear HW1
 go_quiet ((go_at_call 89;exact Calls.quiet_of_same (za HH _)))
 clear HH
 have HF:=zb ((za HX nq).commit h0 h1s hup)
 go_wp2_with fail
 refine(za HF).mono ?_
 rintro e w2 ⟨rfl,F',hT,hU⟩
 have HN2:=zb (za HN w2 F' hT ((Turn.of_below (S:=F) (below_drewN (Below.refl _ w1) nq)).trans hU))
 have HR2:=zb (za HRW w2 hT.base)
 clear hT hU HF HN HRW HX
 have HT:=zb (QV ((qR m P).2) b w2 (za HR2).bd (za HR2).et)
 go_wp2_with fail
 refine(za HT).mono ?_
 rintro e w3 ⟨rfl,hb3⟩
 have HN3:=zb ((za HN2).below hb3)
 clear hb3 HT HN2
 go_wp2
 go_ret
 exact⟨rfl,za HN3⟩
set_option maxRecDepth 100000 in
set_option maxHeartbeats 2000000 in
theorem zvZ(hw:RnW w0 b)(hs:Ssn w0 w g p m P F)(an:Option Addr)(nl cn:Nat)(nm:ByteArray)(a:Option Addr)(bl c:Nat) :
  Calls Tryz.prog 54 #[.pointer (some ⟨g,0,none⟩),.agg #[.string ZC,.slice an nl cn,.string nm,.slice a bl c]] w fun e w'=>e=.returned (.string (tdS 0))/\SsT w0 w g p m { P with L:=P.K } F w':=by
 have hba:Below w.heap.size w (w.alloc (.cells #[.string ZC,.slice an nl cn,.string nm,.slice a bl c] 114)):=(Below.refl _ _).alloc (Nat.le_refl _) _
 obtain⟨w1,e1⟩:∃ x,(w.alloc (.cells #[.string ZC,.slice an nl cn,.string nm,.slice a bl c] 114))=x:=⟨_,rfl⟩
 have z0:w1.cell? ⟨w.heap.size,0,none⟩=some (.string ZC):=by rw [<- e1];simp
 have z1:w1.cell? ⟨w.heap.size,1,none⟩=some (.slice an nl cn):=by rw [<- e1];simp
 have z2:w1.cell? ⟨w.heap.size,2,none⟩=some (.string nm):=by rw [<- e1];simp
 have z3:w1.cell? ⟨w.heap.size,3,none⟩=some (.slice a bl c):=by rw [<- e1];simp
 rw [e1] at hba
 have hs1:=hs.below hba
 obtain⟨t,x,h1,h2,h3,h4⟩:=hs1
 have s0:w1.cell? ⟨g,0,none⟩=some (.pointer (some ⟨p,0,none⟩)):=by rw [Go.Lib.cell_of_heap h1];rfl
 have s1:w1.cell? ⟨g,1,none⟩=some (.pointer (some ⟨t,0,none⟩)):=by rw [Go.Lib.cell_of_heap h1];rfl
 have HH:Hid (∀ q:Nat,Calls Tryz.prog 89 #[.pointer (some ⟨t,0,none⟩)] (w1.drewN q) fun e w'=>e=.returned (.pointer (some ⟨x,0,none⟩))/\w'=w1.drewN q):=zb (fun q=>(h2.below (below_drewN (Below.refl _ w1) q)).heap.mono fun e w' ⟨he,hw⟩=>⟨he,hw.symm⟩)
 have HX:=zb (fun(q:Nat)=>h2.below (below_drewN (Below.refl _ w1) q))
 have HN:=zb (fun(W:World) (F':Nat->Prop) (hT:Tf w0 W t p x m { P with L:=P.K } F') (hU:Turn F F' w1 W)=>SsT.over hba (qV h1 h3 h4 hT hU) hs.foot)
 have HRW:=zb (fun(W:World) (hW:Below w0.heap.size w0 W)=>hw.below hW)
 have HW1:=zb e1
 clear hba e1 hs h1 h2 h3 h4 hw
 unfold ZC at *
 go_enter Tryz.func54,Tryz.ntmps54
 go_wp2_with fail
 rw [za HW1]
 clear HW1
 go_quiet ((go_at_call 89;exact Calls.quiet_of_same (za HH _)))
 clear HH
 have HF:=zb ((za HX nq).abort)
 go_wp2_with fail
 refine(za HF).mono ?_
 rintro e w2 ⟨rfl,F',hT,hU⟩
 have HN2:=zb (za HN w2 F' hT ((Turn.of_below (S:=F) (below_drewN (Below.refl _ w1) nq)).trans hU))
 have HR2:=zb (za HRW w2 hT.base)
 clear hT hU HF HN HRW HX
 have HT:=zb (QV 0 b w2 (za HR2).bd (za HR2).et)
 rw [zf9] at HT
 go_wp2_with fail
 refine(za HT).mono ?_
 rintro e w3 ⟨rfl,hb3⟩
 have HN3:=zb ((za HN2).below hb3)
 clear hb3 HT HN2
 go_wp2
 go_ret
 exact⟨rfl,za HN3⟩
set_option maxRecDepth 100000 in
set_option maxHeartbeats 2000000 in
theorem zvX(hw:RnW w0 b)(hs:Ssn w0 w g p m P F)(an:Option Addr)(nl cn:Nat)(nm:ByteArray)(a:Option Addr)(bl c:Nat)(h0:0<=P.s/\P.s<=9223372036854775807) :
  Calls Tryz.prog 54 #[.pointer (some ⟨g,0,none⟩),.agg #[.string ZB,.slice an nl cn,.string nm,.slice a bl c]] w fun e w'=>e=.returned (.string (nbS P.s 0))/\SsT w0 w g p m P F w':=by
 have hba:Below w.heap.size w (w.alloc (.cells #[.string ZB,.slice an nl cn,.string nm,.slice a bl c] 114)):=(Below.refl _ _).alloc (Nat.le_refl _) _
 obtain⟨w1,e1⟩:∃ x,(w.alloc (.cells #[.string ZB,.slice an nl cn,.string nm,.slice a bl c] 114))=x:=⟨_,rfl⟩
 have z0:w1.cell? ⟨w.heap.size,0,none⟩=some (.string ZB):=by rw [<- e1];simp
 have z1:w1.cell? ⟨w.heap.size,1,none⟩=some (.slice an nl cn):=by rw [<- e1];simp
 have z2:w1.cell? ⟨w.heap.size,2,none⟩=some (.string nm):=by rw [<- e1];simp
 have z3:w1.cell? ⟨w.heap.size,3,none⟩=some (.slice a bl c):=by rw [<- e1];simp
 rw [e1] at hba
 have hs1:=hs.below hba
 obtain⟨t,x,h1,h2,h3,h4⟩:=hs1
 have s0:w1.cell? ⟨g,0,none⟩=some (.pointer (some ⟨p,0,none⟩)):=by rw [Go.Lib.cell_of_heap h1];rfl
 have s1:w1.cell? ⟨g,1,none⟩=some (.pointer (some ⟨t,0,none⟩)):=by rw [Go.Lib.cell_of_heap h1];rfl
 have HH:Hid (∀ q:Nat,Calls Tryz.prog 89 #[.pointer (some ⟨t,0,none⟩)] (w1.drewN q) fun e w'=>e=.returned (.pointer (some ⟨x,0,none⟩))/\w'=w1.drewN q):=zb (fun q=>(h2.below (below_drewN (Below.refl _ w1) q)).heap.mono fun e w' ⟨he,hw⟩=>⟨he,hw.symm⟩)
 have HX:=zb (fun(q:Nat)=>h2.below (below_drewN (Below.refl _ w1) q))
 have HN:=zb (fun(W:World) (F':Nat->Prop) (hT:Tf w0 W t p x m P F') (hU:Turn F F' w1 W)=>SsT.over hba (qV h1 h3 h4 hT hU) hs.foot)
 have HRW:=zb (fun(W:World) (hW:Below w0.heap.size w0 W)=>hw.below hW)
 have HW1:=zb e1
 clear hba e1 hs h1 h2 h3 h4 hw
 unfold ZB at *
 go_enter Tryz.func54,Tryz.ntmps54
 go_wp2_with fail
 rw [za HW1]
 clear HW1
 go_quiet ((go_at_call 89;exact Calls.quiet_of_same (za HH _)))
 clear HH
 have HF:=zb ((za HX nq).stamp)
 go_wp2_with fail
 refine(za HF).mono ?_
 rintro e w2 ⟨rfl,rfl⟩
 have HN2:=zb (za HN _ F (za HX nq) (Turn.of_below (below_drewN (Below.refl _ w1) nq)))
 have HR2:=zb (za HRW _ (za HX nq).base)
 clear HF HN HRW HX
 have HT:=zb (za7 (za HR2) P.s 0 (by omega) (by omega))
 rw [zf9] at HT
 go_wp2_with fail
 refine(za HT).mono ?_
 rintro e w3 ⟨rfl,hb3⟩
 have HN3:=zb ((za HN2).below hb3)
 clear hb3 HT HN2
 go_wp2
 go_ret
 exact⟨rfl,za HN3⟩
set_option maxRecDepth 100000 in
set_option maxHeartbeats 2000000 in
theorem zzb(hw:RnW w0 b)(hs:Ssn w0 w g p m P F)(an:Option Addr)(nl cn:Nat)(nm:ByteArray)(a:Option Addr)(bl c:Nat)(hv:mvN 288 (Ql P.L)<=1000000) :
  Calls Tryz.prog 54 #[.pointer (some ⟨g,0,none⟩),.agg #[.string zbU,.slice an nl cn,.string nm,.slice a bl c]] w fun e w'=>e=.returned (.string (nbS (mvN 288 (Ql P.L)) 0))/\SsT w0 w g p m { P with L:=mvA P.L } F w':=by
 have hba:Below w.heap.size w (w.alloc (.cells #[.string zbU,.slice an nl cn,.string nm,.slice a bl c] 114)):=(Below.refl _ _).alloc (Nat.le_refl _) _
 obtain⟨w1,e1⟩:∃ x,(w.alloc (.cells #[.string zbU,.slice an nl cn,.string nm,.slice a bl c] 114))=x:=⟨_,rfl⟩
 have z0:w1.cell? ⟨w.heap.size,0,none⟩=some (.string zbU):=by rw [<- e1];simp
 have z1:w1.cell? ⟨w.heap.size,1,none⟩=some (.slice an nl cn):=by rw [<- e1];simp
 have z2:w1.cell? ⟨w.heap.size,2,none⟩=some (.string nm):=by rw [<- e1];simp
 have z3:w1.cell? ⟨w.heap.size,3,none⟩=some (.slice a bl c):=by rw [<- e1];simp
 rw [e1] at hba
 have hs1:=hs.below hba
 obtain⟨t,x,h1,h2,h3,h4⟩:=hs1
 have s0:w1.cell? ⟨g,0,none⟩=some (.pointer (some ⟨p,0,none⟩)):=by rw [Go.Lib.cell_of_heap h1];rfl
 have s1:w1.cell? ⟨g,1,none⟩=some (.pointer (some ⟨t,0,none⟩)):=by rw [Go.Lib.cell_of_heap h1];rfl
 have HH:Hid (∀ q:Nat,Calls Tryz.prog 89 #[.pointer (some ⟨t,0,none⟩)] (w1.drewN q) fun e w'=>e=.returned (.pointer (some ⟨x,0,none⟩))/\w'=w1.drewN q):=zb (fun q=>(h2.below (below_drewN (Below.refl _ w1) q)).heap.mono fun e w' ⟨he,hw⟩=>⟨he,hw.symm⟩)
 have HX:=zb (fun(q:Nat)=>h2.below (below_drewN (Below.refl _ w1) q))
 have HN:=zb (fun(W:World) (F':Nat->Prop) (hT:Tf w0 W t p x m { P with L:=mvA P.L } F') (hU:Turn F F' w1 W)=>SsT.over hba (qV h1 h3 h4 hT hU) hs.foot)
 have HRW:=zb (fun(W:World) (hW:Below w0.heap.size w0 W)=>hw.below hW)
 have HW1:=zb e1
 clear hba e1 hs h1 h2 h3 h4 hw
 unfold zbU at *
 go_enter Tryz.func54,Tryz.ntmps54
 go_wp2_with fail
 rw [za HW1]
 clear HW1
 go_quiet ((go_at_call 89;exact Calls.quiet_of_same (za HH _)))
 clear HH
 have HF:=zb ((za HX nq).call (M:=mvA P.L) (zg6 (za HX nq).fine.1).1.len (fun g c hh hB=>zrA hh hB))
 go_wp2_with fail
 refine(za HF).mono ?_
 rintro e w2 ⟨rfl,F',hT,hU⟩
 have HN2:=zb (za HN w2 F' hT ((Turn.of_below (S:=F) (below_drewN (Below.refl _ w1) nq)).trans hU))
 have HR2:=zb (za HRW w2 hT.base)
 clear hT hU HF HN HRW HX
 have HT:=zb (za7 (za HR2) (mvN 288 (Ql P.L)) 0 (by omega) (by omega))
 rw [zf9] at HT
 go_wp2_with fail
 refine(za HT).mono ?_
 rintro e w3 ⟨rfl,hb3⟩
 have HN3:=zb ((za HN2).below hb3)
 clear hb3 HT HN2
 go_wp2
 go_ret
 exact⟨rfl,za HN3⟩
set_option maxRecDepth 100000 in
set_option maxHeartbeats 2000000 in
theorem zvW(hw:RnW w0 b)(hs:Ssn w0 w g p m P F)(an:Option Addr)(nl cn:Nat)(nm:ByteArray)(a:Option Addr)(bl c:Nat)(hv:(ddK P.L 40).length<=1000000) :
  Calls Tryz.prog 54 #[.pointer (some ⟨g,0,none⟩),.agg #[.string ZA,.slice an nl cn,.string nm,.slice a bl c]] w fun e w'=>e=.returned (.string (nbS ((ddK P.L 40).length:Int) 0))/\SsT w0 w g p m { P with L:=swT P.L } F w':=by
 have hba:Below w.heap.size w (w.alloc (.cells #[.string ZA,.slice an nl cn,.string nm,.slice a bl c] 114)):=(Below.refl _ _).alloc (Nat.le_refl _) _
 obtain⟨w1,e1⟩:∃ x,(w.alloc (.cells #[.string ZA,.slice an nl cn,.string nm,.slice a bl c] 114))=x:=⟨_,rfl⟩
 have z0:w1.cell? ⟨w.heap.size,0,none⟩=some (.string ZA):=by rw [<- e1];simp
 have z1:w1.cell? ⟨w.heap.size,1,none⟩=some (.slice an nl cn):=by rw [<- e1];simp
 have z2:w1.cell? ⟨w.heap.size,2,none⟩=some (.string nm):=by rw [<- e1];simp
 have z3:w1.cell? ⟨w.heap.size,3,none⟩=some (.slice a bl c):=by rw [<- e1];simp
 rw [e1] at hba
 have hs1:=hs.below hba
 obtain⟨t,x,h1,h2,h3,h4⟩:=hs1
 have s0:w1.cell? ⟨g,0,none⟩=some (.pointer (some ⟨p,0,none⟩)):=by rw [Go.Lib.cell_of_heap h1];rfl
 have s1:w1.cell? ⟨g,1,none⟩=some (.pointer (some ⟨t,0,none⟩)):=by rw [Go.Lib.cell_of_heap h1];rfl
 have HH:Hid (∀ q:Nat,Calls Tryz.prog 89 #[.pointer (some ⟨t,0,none⟩)] (w1.drewN q) fun e w'=>e=.returned (.pointer (some ⟨x,0,none⟩))/\w'=w1.drewN q):=zb (fun q=>(h2.below (below_drewN (Below.refl _ w1) q)).heap.mono fun e w' ⟨he,hw⟩=>⟨he,hw.symm⟩)
 have HX:=zb (fun(q:Nat)=>h2.below (below_drewN (Below.refl _ w1) q))
 have HN:=zb (fun(W:World) (F':Nat->Prop) (hT:Tf w0 W t p x m { P with L:=swT P.L } F') (hU:Turn F F' w1 W)=>SsT.over hba (qV h1 h3 h4 hT hU) hs.foot)
 have HRW:=zb (fun(W:World) (hW:Below w0.heap.size w0 W)=>hw.below hW)
 have HW1:=zb e1
 clear hba e1 hs h1 h2 h3 h4 hw
 unfold ZA at *
 go_enter Tryz.func54,Tryz.ntmps54
 go_wp2_with fail
 rw [za HW1]
 clear HW1
 go_quiet ((go_at_call 89;exact Calls.quiet_of_same (za HH _)))
 clear HH
 have HF:=zb ((za HX nq).sweep)
 go_wp2_with fail
 refine(za HF).mono ?_
 rintro e w2 ⟨rfl,F',hT,hU⟩
 have HN2:=zb (za HN w2 F' hT ((Turn.of_below (S:=F) (below_drewN (Below.refl _ w1) nq)).trans hU))
 have HR2:=zb (za HRW w2 hT.base)
 clear hT hU HF HN HRW HX
 have HT:=zb (za7 (za HR2) ((ddK P.L 40).length:Int) 0 (by omega) (by omega))
 rw [zf9] at HT
 go_wp2_with fail
 refine(za HT).mono ?_
 rintro e w3 ⟨rfl,hb3⟩
 have HN3:=zb ((za HN2).below hb3)
 clear hb3 HT HN2
 go_wp2
 go_ret
 exact⟨rfl,za HN3⟩
set_option maxRecDepth 100000 in
set_option maxHeartbeats 2000000 in
theorem zy9(hw:RnW w0 b)(hs:Ssn w0 w g p m P F)(an:Option Addr)(nl cn:Nat)(nm:ByteArray)(a:Option Addr)(bl c:Nat)(k0:0<=((zn P.L).length:Int)/\((zn P.L).length:Int)<=1000000)(k1:0<=(zv (zn P.L))/\(zv (zn P.L))<=1000000)(k2:0<=(zv (zy ((P.L.length:Int)-288) (zn P.L)))/\(zv (zy ((P.L.length:Int)-288) (zn P.L)))<=1000000)(k3:0<=(qp 0 (zy ((P.L.length:Int)-288) (zn P.L)))/\(qp 0 (zy ((P.L.length:Int)-288) (zn P.L)))<=1000000)(k4:0<=((zy ((P.L.length:Int)-288) (zn P.L)).length:Int)/\((zy ((P.L.length:Int)-288) (zn P.L)).length:Int)<=1000000) :
  Calls Tryz.prog 54 #[.pointer (some ⟨g,0,none⟩),.agg #[.string zbT,.slice an nl cn,.string nm,.slice a bl c]] w fun e w'=>e=.returned (.string (nsS ((zn P.L).length:Int) (zv (zn P.L)) (zv (zy ((P.L.length:Int)-288) (zn P.L))) (qp 0 (zy ((P.L.length:Int)-288) (zn P.L))) ((zy ((P.L.length:Int)-288) (zn P.L)).length:Int) 0))/\SsT w0 w g p m P F w':=by
 have hba:Below w.heap.size w (w.alloc (.cells #[.string zbT,.slice an nl cn,.string nm,.slice a bl c] 114)):=(Below.refl _ _).alloc (Nat.le_refl _) _
 obtain⟨w1,e1⟩:∃ x,(w.alloc (.cells #[.string zbT,.slice an nl cn,.string nm,.slice a bl c] 114))=x:=⟨_,rfl⟩
 have z0:w1.cell? ⟨w.heap.size,0,none⟩=some (.string zbT):=by rw [<- e1];simp
 have z1:w1.cell? ⟨w.heap.size,1,none⟩=some (.slice an nl cn):=by rw [<- e1];simp
 have z2:w1.cell? ⟨w.heap.size,2,none⟩=some (.string nm):=by rw [<- e1];simp
 have z3:w1.cell? ⟨w.heap.size,3,none⟩=some (.slice a bl c):=by rw [<- e1];simp
 rw [e1] at hba
 have hs1:=hs.below hba
 obtain⟨t,x,h1,h2,h3,h4⟩:=hs1
 have s0:w1.cell? ⟨g,0,none⟩=some (.pointer (some ⟨p,0,none⟩)):=by rw [Go.Lib.cell_of_heap h1];rfl
 have s1:w1.cell? ⟨g,1,none⟩=some (.pointer (some ⟨t,0,none⟩)):=by rw [Go.Lib.cell_of_heap h1];rfl
 have HH:Hid (∀ q:Nat,Calls Tryz.prog 89 #[.pointer (some ⟨t,0,none⟩)] (w1.drewN q) fun e w'=>e=.returned (.pointer (some ⟨x,0,none⟩))/\w'=w1.drewN q):=zb (fun q=>(h2.below (below_drewN (Below.refl _ w1) q)).heap.mono fun e w' ⟨he,hw⟩=>⟨he,hw.symm⟩)
 have HX:=zb (fun(q:Nat)=>h2.below (below_drewN (Below.refl _ w1) q))
 have HN:=zb (fun(W:World) (F':Nat->Prop) (hT:Tf w0 W t p x m P F') (hU:Turn F F' w1 W)=>SsT.over hba (qV h1 h3 h4 hT hU) hs.foot)
 have HRW:=zb (fun(W:World) (hW:Below w0.heap.size w0 W)=>hw.below hW)
 have HW1:=zb e1
 clear hba e1 hs h1 h2 h3 h4 hw
 unfold zbT at *
 go_enter Tryz.func54,Tryz.ntmps54
 go_wp2_with fail
 rw [za HW1]
 clear HW1
 go_quiet ((go_at_call 89;exact Calls.quiet_of_same (za HH _)))
 clear HH
 have HF:=zb ((za HX nq).ask (fun g c hh=>zof hh (Sta.of P.L)))
 go_wp2_with fail
 refine(za HF).mono ?_
 rintro e w2 ⟨rfl,hT,hU⟩
 have HN2:=zb (za HN w2 F hT (Turn.of_below ((below_drewN (Below.refl _ w1) nq).trans hU)))
 have HR2:=zb (za HRW w2 hT.base)
 clear hT hU HF HN HRW HX
 have HT:=zb (zly (za HR2) ((zn P.L).length:Int) (zv (zn P.L)) (zv (zy ((P.L.length:Int)-288) (zn P.L))) (qp 0 (zy ((P.L.length:Int)-288) (zn P.L))) ((zy ((P.L.length:Int)-288) (zn P.L)).length:Int) 0 k0 k1 k2 k3 k4)
 rw [zf9] at HT
 go_wp2_with fail
 refine(za HT).mono ?_
 rintro e w3 ⟨rfl,hb3⟩
 have HN3:=zb ((za HN2).below hb3)
 clear hb3 HT HN2
 go_wp2
 go_ret
 exact⟨rfl,za HN3⟩
end
end Go.Proofs.YtchmlnmhbfaclaaGreatDoor
