/-
  Joined by program: TellAs; Told; ErrSame; RefNumA; RefNum; RefPut; RefName; NumOut. (Parts of the proofs over the packages of the program.)
-/
import Derived.Test.YtknjdhnldfebjaaGreatDoorProg
import Derived.Test.YtknjdhnldfebjaaGreatDoorJNum
import Derived.WalkKit
import Derived.LaidEql
import Derived.Stop.Asserts
import Derived.RowKitTokens
namespace Go.Proofs.YtknjdhnldfebjaaGreatDoor
open Go.RowKit Go.Extern.Stop Go.Stop Go.Extern
set_option linter.unusedVariables false
theorem rl_valueOfP (t : Addr) (w : World) : (ReflectliteValue.unpack (.iface 164 (.pointer (some t)))).run Tryz.prog w
  = .ok (.agg #[.pointer (some ⟨1, 164, none⟩), .pointer (some ⟨w.heap.size, 0, none⟩), .int .u64 150]) (w.alloc (.cells #[.pointer (some t)] 164)) := by kernel_rfl
theorem rl_typeP (a : Addr) (w : World) : (ReflectliteValue.methodAny (ReflectliteValue.valueError "reflectlite.Value.Type" 0) (fun t _ _ _ => ReflectliteType.toType t) #[.agg #[.pointer (some ⟨1, 164, none⟩), .pointer (some a), .int .u64 150]]).run Tryz.prog w
  = .ok (.iface 263 (.agg #[.pointer (some ⟨1, 164, none⟩)])) w := by kernel_rfl
theorem rl_methodKind (h : Value) (w : World) : (Go.method 466 263 (.agg #[h]) "Kind").run Tryz.prog w = .ok (275, h) w := by kernel_rfl
theorem rl_kindP (w : World) : ((ReflectliteType.abiMethod fun t => Functor.map (fun a : Nat => Value.int IntKind.u8 (a : Int)) (Rtype.kind t)) #[.pointer (some ⟨1, 164, none⟩)]).run Tryz.prog w = .ok (.int .u8 22) w := by kernel_rfl
theorem rl_kindE (w : World) : ((ReflectliteType.abiMethod fun t => Functor.map (fun a : Nat => Value.int IntKind.u8 (a : Int)) (Rtype.kind t)) #[.pointer (some ⟨1, 68, none⟩)]).run Tryz.prog w = .ok (.int .u8 2) w := by kernel_rfl
theorem rl_one (motive : Array Value → Sort 1) (v : Value) (h1 : (v : Value) → motive #[v]) (h2 : (x : Array Value) → motive x) : ReflectliteValue.method.match_2 motive #[v] h1 h2 = h1 v := rfl
theorem rl_two (motive : Array Value → Sort 1) (v x : Value) (h1 : (v x : Value) → motive #[v, x]) (h2 : (x : Array Value) → motive x) : ReflectliteValue.set.match_3 motive #[v, x] h1 h2 = h1 v x := rfl
theorem rl_partsP (a : Addr) (w : World) : (ReflectliteValue.parts (.agg #[.pointer (some ⟨1, 164, none⟩), .pointer (some a), .int .u64 150])).run Tryz.prog w = .ok (some (164, a, 150)) w := by kernel_rfl
theorem rl_isNilP (a p : Addr) (W : World) (ha : W.cell? a = some (.pointer (some p))) :
  (ReflectliteValue.method (ReflectliteValue.valueError "reflectlite.Value.IsNil" 0) ReflectliteValue.isNil #[.agg #[.pointer (some ⟨1, 164, none⟩), .pointer (some a), .int .u64 150]]).run Tryz.prog W = .ok (.bool false) W := by
 delta ReflectliteValue.method
 rw [rl_one]
 simp only [Sem.run_bind, rl_partsP, Result.andThen]
 simp [ReflectliteValue.isNil, loadVar, isAgg, underlying, Tryz.underlying164, ha, Result.andThen]
theorem rl_methodElem (h : Value) (w : World) : (Go.method 466 263 (.agg #[h]) "Elem").run Tryz.prog w = .ok (286, .agg #[h]) w := by kernel_rfl
theorem rl_methodImplements (h : Value) (w : World) : (Go.method 466 263 (.agg #[h]) "Implements").run Tryz.prog w = .ok (287, .agg #[h]) w := by kernel_rfl
theorem rl_methodAssignableTo (h : Value) (w : World) : (Go.method 466 263 (.agg #[h]) "AssignableTo").run Tryz.prog w = .ok (284, .agg #[h]) w := by kernel_rfl
theorem rl_elemP (w : World) : (ReflectliteType.method ReflectliteType.elem #[.agg #[.pointer (some ⟨1, 164, none⟩)]]).run Tryz.prog w = .ok (.iface 263 (.agg #[.pointer (some ⟨1, 68, none⟩)])) w := by kernel_rfl
theorem rl_implementsE (w : World) : (ReflectliteType.relation "Implements" ReflectliteType.implements_ #[.agg #[.pointer (some ⟨1, 68, none⟩)], .iface 263 (.agg #[.pointer (some ⟨1, 25, none⟩)])]).run Tryz.prog w = .ok (.bool true) w := by kernel_rfl
theorem rl_typeOfE (v : Value) (w : World) : (ReflectliteType.typeOf #[.iface 68 v]).run Tryz.prog w = .ok (.iface 263 (.agg #[.pointer (some ⟨1, 68, none⟩)])) w := by kernel_rfl
theorem rl_assignableE (w : World) : (ReflectliteType.relation "AssignableTo" ReflectliteType.assignableTo #[.agg #[.pointer (some ⟨1, 68, none⟩)], .iface 263 (.agg #[.pointer (some ⟨1, 68, none⟩)])]).run Tryz.prog w = .ok (.bool true) w := by kernel_rfl
theorem rl_valueOfE (k : Int) (w : World) : (ReflectliteValue.unpack (.iface 68 (.int .i64 k))).run Tryz.prog w
  = .ok (.agg #[.pointer (some ⟨1, 68, none⟩), .pointer (some ⟨w.heap.size, 0, none⟩), .int .u64 130]) (w.alloc (.cells #[.int .i64 k] 68)) := by kernel_rfl
theorem rl_elemOfP (w : World) : (Rtype.elem? 164).run Tryz.prog w = .ok (some 68) w := by kernel_rfl
theorem rl_mkE (p : Addr) (w : World) : (ReflectliteValue.mk 68 p ReflectliteValue.flagAddr).run Tryz.prog w = .ok (.agg #[.pointer (some ⟨1, 68, none⟩), .pointer (some p), .int .u64 386]) w := by kernel_rfl
theorem rl_elemVP (a p : Addr) (W : World) (ha : W.cell? a = some (.pointer (some p))) :
  (ReflectliteValue.method (ReflectliteValue.valueError "reflectlite.Value.Elem" 0) ReflectliteValue.elem #[.agg #[.pointer (some ⟨1, 164, none⟩), .pointer (some a), .int .u64 150]]).run Tryz.prog W
   = .ok (.agg #[.pointer (some ⟨1, 68, none⟩), .pointer (some p), .int .u64 386]) W := by
 delta ReflectliteValue.method
 rw [rl_one]
 simp only [Sem.run_bind, rl_partsP, Result.andThen]
 simp [ReflectliteValue.elem, loadVar, isAgg, underlying, Tryz.underlying164, ha, Result.andThen, rl_elemOfP, rl_mkE]
theorem rl_partsEa (a : Addr) (w : World) : (ReflectliteValue.parts (.agg #[.pointer (some ⟨1, 68, none⟩), .pointer (some a), .int .u64 386])).run Tryz.prog w = .ok (some (68, a, 386)) w := by kernel_rfl
theorem rl_partsE (a : Addr) (w : World) : (ReflectliteValue.parts (.agg #[.pointer (some ⟨1, 68, none⟩), .pointer (some a), .int .u64 130])).run Tryz.prog w = .ok (some (68, a, 130)) w := by kernel_rfl
theorem rl_directE (w : World) : (Rtype.directlyAssignable 68 68).run Tryz.prog w = .ok true w := by kernel_rfl
theorem rl_setE (ta b : Addr) (k : Int) (old : Value) (W : World) (hb : W.cell? b = some (.int .i64 k)) (ht : W.cell? ta = some old) (hf : W.frozen? ta = false) :
  (ReflectliteValue.set #[.agg #[.pointer (some ⟨1, 68, none⟩), .pointer (some ta), .int .u64 386], .agg #[.pointer (some ⟨1, 68, none⟩), .pointer (some b), .int .u64 130]]).run Tryz.prog W
   = .ok (.tuple #[]) (W.setCell ta (.int .i64 k)) := by
 delta ReflectliteValue.set
 rw [rl_two]
 simp only [Sem.run_bind, rl_partsEa, rl_partsE, Result.andThen]
 simp [ReflectliteValue.flagAddr, loadVar, isAgg, underlying, Tryz.underlying68, hb, Result.andThen, rl_directE, storeVar, Value.cells, storeCells, Addr.add]
 rw [run_store Tryz.prog W ta _ _ (by rfl)]
 simp [ht, hf]
def ErrT (w : World) : Prop := w.cell? ⟨0, 0, none⟩ = some (.iface 263 (.agg #[.pointer (some ⟨1, 25, none⟩)]))
theorem ErrT.below {w w' : World} (h : ErrT w) (hb : Below w.heap.size w w') : ErrT w' := by
 unfold ErrT
 rw [hb.cell (block_lt_of_cell h)]; exact h
set_option maxRecDepth 100000 in
set_option maxHeartbeats 4000000 in
theorem as_errno (k : Int) (t : Addr) (old : Value) (w : World) (hg : w.cell? ⟨0, 0, none⟩ = some (.iface 263 (.agg #[.pointer (some ⟨1, 25, none⟩)]))) (ht0 : w.cell? t = some old) (hf0 : w.frozen? t = false) :
  Calls Tryz.prog 92 #[.iface 68 (.int .i64 k), .iface 164 (.pointer (some t))] w fun ev w' => ev = .returned (.bool true) ∧ w' = ((((w.alloc (.cells #[.pointer (some t)] 164)).alloc (.cells #[.pointer (some ⟨1, 164, none⟩), .pointer (some ⟨w.heap.size, 0, none⟩), .int .u64 150] 213)).alloc (.cells #[.pointer (some ⟨1, 164, none⟩), .pointer (some ⟨w.heap.size, 0, none⟩), .int .u64 150] 213)).alloc (.cells #[.int .i64 k] 68)).setCell t (.int .i64 k) := by
 have h6 := @run_callFunc_extern Tryz.prog 138 _ (fun args => ReflectliteValue.unpack (args.getD 0 (.tuple #[]))) Tryz.func138 (by kernel_rfl) (by kernel_rfl) (by kernel_rfl) (by kernel_rfl)
 have h7 := @run_callFunc_extern Tryz.prog 139 _ (ReflectliteValue.methodAny (ReflectliteValue.valueError "reflectlite.Value.Type" 0) (fun t _ _ _ => ReflectliteType.toType t)) Tryz.func139 (by kernel_rfl) (by kernel_rfl) (by kernel_rfl) (by kernel_rfl)
 have h8 := @run_callFunc_extern Tryz.prog 140 _ (ReflectliteValue.method (ReflectliteValue.valueError "reflectlite.Value.IsNil" 0) ReflectliteValue.isNil) Tryz.func140 (by kernel_rfl) (by kernel_rfl) (by kernel_rfl) (by kernel_rfl)
 have h27 := @run_callFunc_extern Tryz.prog 275 _ (ReflectliteType.abiMethod fun t => do pure (.int .u8 (← Rtype.kind t))) Tryz.func275 (by kernel_rfl) (by kernel_rfl) (by kernel_rfl) (by kernel_rfl)
 have h37 := @run_callFunc_extern Tryz.prog 286 _ (ReflectliteType.method ReflectliteType.elem) Tryz.func286 (by kernel_rfl) (by kernel_rfl) (by kernel_rfl) (by kernel_rfl)
 have h38 := @run_callFunc_extern Tryz.prog 287 _ (ReflectliteType.relation "Implements" ReflectliteType.implements_) Tryz.func287 (by kernel_rfl) (by kernel_rfl) (by kernel_rfl) (by kernel_rfl)
 have h10 := @run_callFunc_extern Tryz.prog 182 _ ReflectliteType.typeOf Tryz.func182 (by kernel_rfl) (by kernel_rfl) (by kernel_rfl) (by kernel_rfl)
 have h35 := @run_callFunc_extern Tryz.prog 284 _ (ReflectliteType.relation "AssignableTo" ReflectliteType.assignableTo) Tryz.func284 (by kernel_rfl) (by kernel_rfl) (by kernel_rfl) (by kernel_rfl)
 have h11 := @run_callFunc_extern Tryz.prog 183 _ (ReflectliteValue.method (ReflectliteValue.valueError "reflectlite.Value.Elem" 0) ReflectliteValue.elem) Tryz.func183 (by kernel_rfl) (by kernel_rfl) (by kernel_rfl) (by kernel_rfl)
 have h12 := @run_callFunc_extern Tryz.prog 184 _ ReflectliteValue.set Tryz.func184 (by kernel_rfl) (by kernel_rfl) (by kernel_rfl) (by kernel_rfl)
 have tO := rl_typeOfE
 have mA := rl_methodAssignableTo
 have a25 := rl_assignableE
 have v25 := rl_valueOfE
 have f6 := rl_valueOfP
 have f7 := rl_typeP
 have mK := rl_methodKind
 have mE := rl_methodElem
 have mI := rl_methodImplements
 have k27 := rl_kindP
 have k25 := rl_kindE
 have e27 := rl_elemP
 have i25 := rl_implementsE
 have n8 := rl_isNilP ⟨w.heap.size, 0, none⟩ t ((w.alloc (.cells #[.pointer (some t)] 164)).alloc (.cells #[.pointer (some ⟨1, 164, none⟩), .pointer (some ⟨w.heap.size, 0, none⟩), .int .u64 150] 213)) (by simp)
 have hlt : 0 < w.heap.size := block_lt_of_cell hg
 have hg2 : ((w.alloc (.cells #[.pointer (some t)] 164)).alloc (.cells #[.pointer (some ⟨1, 164, none⟩), .pointer (some ⟨w.heap.size, 0, none⟩), .int .u64 150] 213)).cell? ⟨0, 0, none⟩ = some (.iface 263 (.agg #[.pointer (some ⟨1, 25, none⟩)])) := by
  rw [World.cell?_alloc_lt _ _ ⟨0, 0, none⟩ (by simp; try omega), World.cell?_alloc_lt _ _ ⟨0, 0, none⟩ hlt]; exact hg
 have htl : t.block < w.heap.size := block_lt_of_cell ht0
 have el := rl_elemVP ⟨w.heap.size, 0, none⟩ t (((w.alloc (.cells #[.pointer (some t)] 164)).alloc (.cells #[.pointer (some ⟨1, 164, none⟩), .pointer (some ⟨w.heap.size, 0, none⟩), .int .u64 150] 213)).alloc (.cells #[.pointer (some ⟨1, 164, none⟩), .pointer (some ⟨w.heap.size, 0, none⟩), .int .u64 150] 213)) (by rw [World.cell?_alloc_lt _ _ ⟨w.heap.size, 0, none⟩ (by simp; omega)]; simp)
 have st := rl_setE t ⟨w.heap.size + 1 + 1 + 1, 0, none⟩ k old ((((w.alloc (.cells #[.pointer (some t)] 164)).alloc (.cells #[.pointer (some ⟨1, 164, none⟩), .pointer (some ⟨w.heap.size, 0, none⟩), .int .u64 150] 213)).alloc (.cells #[.pointer (some ⟨1, 164, none⟩), .pointer (some ⟨w.heap.size, 0, none⟩), .int .u64 150] 213)).alloc (.cells #[.int .i64 k] 68))
  (by rw [World.cell?_alloc_at _ _ _ _ (by simp)]; rfl)
  (by rw [World.cell?_alloc_lt _ _ t (by simp; omega), World.cell?_alloc_lt _ _ t (by simp; omega), World.cell?_alloc_lt _ _ t (by simp; omega), World.cell?_alloc_lt _ _ t htl]; exact ht0)
  (by rw [World.frozen?_alloc_old _ _ t (by simp; omega), World.frozen?_alloc_old _ _ t (by simp; omega), World.frozen?_alloc_old _ _ t (by simp; omega), World.frozen?_alloc_old _ _ t (Nat.ne_of_lt htl)]; exact hf0)
 go_enter Tryz.func92, Tryz.ntmps92
 go_wp2
 refine wp_loop_rounds 1 ?_
 rw [rounds_succ]
 go_wp2
 go_ret
 exact ⟨rfl, rfl⟩
end Go.Proofs.YtknjdhnldfebjaaGreatDoor
namespace Go.Proofs.YtknjdhnldfebjaaGreatDoor
open Go.RowKit
set_option linter.unusedVariables false
theorem told_nil (w : World) : Calls Tryz.prog 47 #[.nilIface] w fun e w' => e = .returned (.int .i64 0) ∧ w = w' := by
 go_enter Tryz.func47, Tryz.ntmps47
 go_wp2
 go_ret
 exact ⟨rfl, rfl⟩
set_option maxRecDepth 100000 in
set_option maxHeartbeats 1000000 in
theorem told_errno (k : Int) (w : World) (hg : ErrT w) : Calls Tryz.prog 47 #[.iface 68 (.int .i64 k)] w fun e w' => e = .returned (.int .i64 k) ∧ Below w.heap.size w w' := by
 have hgA : (w.alloc (.cells #[.int .i64 0] 68)).cell? ⟨0, 0, none⟩ = some (.iface 263 (.agg #[.pointer (some ⟨1, 25, none⟩)])) := hg.below ((Below.refl _ _).alloc (Nat.le_refl _) _)
 have htA : (w.alloc (.cells #[.int .i64 0] 68)).cell? ⟨w.heap.size, 0, none⟩ = some (.int .i64 0) := by simp
 have hfA : (w.alloc (.cells #[.int .i64 0] 68)).frozen? ⟨w.heap.size, 0, none⟩ = false := by simp
 have has := as_errno k ⟨w.heap.size, 0, none⟩ (.int .i64 0) _ hgA htA hfA
 have HAS := hide has
 clear has hgA htA hfA hg
 go_enter Tryz.func47, Tryz.ntmps47
 go_wp2_with fail
 refine (unhide HAS).mono ?_
 rintro e w1 ⟨rfl, rfl⟩
 go_wp2
 go_ret
 exact ⟨rfl, (((((Below.refl _ _).alloc (Nat.le_refl _) _).alloc (by simp) _).alloc (by simp; omega) _).alloc (by simp; omega) _).alloc (by simp; omega) _⟩
theorem error_nil (x : Int) (w : World) : Calls Tryz.prog 16 #[.nilIface, .int .i64 x] w fun e w' => e = .returned (.bool (0 == x)) ∧ w = w' := by
 go_enter Tryz.func16, Tryz.ntmps16
 go_wp2_with (go_at_call 47; refine (told_nil _).mono ?_; rintro e w' ⟨rfl, rfl⟩)
 go_ret
 exact ⟨rfl, rfl⟩
theorem error_errno (k x : Int) (w : World) (hg : ErrT w) : Calls Tryz.prog 16 #[.iface 68 (.int .i64 k), .int .i64 x] w fun e w' => e = .returned (.bool (k == x)) ∧ Below w.heap.size w w' := by
 go_enter Tryz.func16, Tryz.ntmps16
 go_wp2_with fail
 refine (told_errno k w hg).mono ?_
 rintro e w1 ⟨rfl, hb⟩
 go_wp2
 go_ret
 exact ⟨rfl, hb⟩
end Go.Proofs.YtknjdhnldfebjaaGreatDoor
namespace Go.Proofs.YtknjdhnldfebjaaGreatDoor
open Go.RowKit
set_option linter.unusedVariables false
theorem error_same (x : Int) (w : World) (hg : ErrT w) : Calls Tryz.prog 16 #[errV x, .int .i64 x] w fun e w' => e = .returned (.bool true) ∧ Below w.heap.size w w' := by
 by_cases h : x = 0
 ·subst h
  exact (error_nil 0 w).mono fun e w' ⟨he, hw⟩ => ⟨he, by rw [← hw]; exact Below.refl _ _⟩
 ·rw [errV_pos x h]
  exact (error_errno x x w hg).mono fun e w' ⟨he, hw⟩ => ⟨by rw [he]; simp, hw⟩
end Go.Proofs.YtknjdhnldfebjaaGreatDoor
namespace Go.Proofs.YtknjdhnldfebjaaGreatDoor
open Go.RowKit
set_option linter.unusedVariables false
end Go.Proofs.YtknjdhnldfebjaaGreatDoor
namespace Go.Proofs.YtknjdhnldfebjaaGreatDoor
open Go.RowKit
set_option linter.unusedVariables false
end Go.Proofs.YtknjdhnldfebjaaGreatDoor
namespace Go.Proofs.YtknjdhnldfebjaaGreatDoor
open Go.RowKit
set_option linter.unusedVariables false
end Go.Proofs.YtknjdhnldfebjaaGreatDoor
namespace Go.Proofs.YtknjdhnldfebjaaGreatDoor
open Go.RowKit
set_option linter.unusedVariables false
theorem empty_yes (s : ByteArray) (h : s.size = 0) : s.toList.isEmpty = true := by
 have he : s = ByteArray.empty := by simpa using h
 have := Classical.propDecidable (s = ByteArray.empty)
 rw [← decide_eq_emptyBytes]
 exact decide_eq_true he
theorem empty_no (s : ByteArray) (h : 1 ≤ s.size) : s.toList.isEmpty = false := by
 have := Classical.propDecidable (s = ByteArray.empty)
 rw [← decide_eq_emptyBytes]
 refine decide_eq_false ?_
 intro he
 rw [he] at h
 simp at h
theorem drop_getD (l : List Int) (n j : Nat) : (l.drop n).getD j 0 = l.getD (n + j) 0 := by simp [List.getD]
end Go.Proofs.YtknjdhnldfebjaaGreatDoor
namespace Go.Proofs.YtknjdhnldfebjaaGreatDoor
open Go.RowKit
set_option linter.unusedVariables false
theorem putName_any (s : ByteArray) (w : World) (hs : s.size ≤ 140737488351232) (L : List Int) (x : Int) (h : (NameOk s ∧ L = nameL s ∧ x = 0) ∨ (¬ NameOk s ∧ L = [] ∧ x = 2)) :
  Calls Tryz.prog 102 #[.string s] w (Ends w L (errV x)) := by
 rcases h with ⟨hn, rfl, rfl⟩ | ⟨hn, rfl, rfl⟩
 ·refine (putName_yes s w hn.1 hn.2.1 hn.2.2).mono fun e w' ⟨g, he, hg, hk, hb⟩ => ?_
  have hlen := length_nameL s hn.2.1
  exact ⟨some ⟨g, 0, none⟩, (nameL s).length, by rw [hlen]; exact he, hk.bs (byt_nameL s) (by rw [hlen]; decide), hb⟩
 ·exact (putName_fail s w hs hn).mono fun e w' ⟨he, hb⟩ => ⟨none, 0, he, bs_nil _, hb⟩
def lettersN (l : List Int) : Nat := fstN (fun j => (!ltr (l.getD j 0))) l.length
def zerosN (l : List Int) (i : Nat) : Nat := fstN (fun j => ((l.drop i).getD j 0 != 0)) (l.drop i).length
def readOut (l : List Int) : ByteArray × Int :=
 if ¬ l.length = 8 then (ByteArray.empty, 3) else if lettersN l = 0 ∨ zerosN l (lettersN l) < l.length - lettersN l then (ByteArray.empty, 2) else (strOf (l.take (lettersN l)), 0)
theorem getName_any (a : Option Addr) (cap : Nat) (l : List Int) (w : World) (hbs : Bs w a cap l) :
  Calls Tryz.prog 178 #[.slice a l.length cap] w fun e w' => e = .returned (.tuple #[.string (readOut l).1, errV (readOut l).2]) ∧ Below w.heap.size w w' := by
 have hl := hbs.2.2.1
 by_cases h8 : l.length = 8
 ·have hi := first_fstN (fun j => (!ltr (l.getD j 0))) l.length
  have hz := first_fstN (fun j => ((l.drop (lettersN l)).getD j 0 != 0)) (l.drop (lettersN l)).length
  by_cases h0 : lettersN l = 0
  ·have e : readOut l = (ByteArray.empty, 2) := by unfold readOut; rw [if_neg (fun h => h h8), if_pos (Or.inl h0)]
   rw [e]
   exact getName_none a cap l w hbs h8 (lettersN l) (zerosN l (lettersN l)) hi hz h0
  ·by_cases h1 : zerosN l (lettersN l) < l.length - lettersN l
   ·have e : readOut l = (ByteArray.empty, 2) := by unfold readOut; rw [if_neg (fun h => h h8), if_pos (Or.inr h1)]
    rw [e]
    exact getName_more a cap l w hbs h8 (lettersN l) (zerosN l (lettersN l)) hi hz h0 h1
   ·have e : readOut l = (strOf (l.take (lettersN l)), 0) := by unfold readOut; rw [if_neg (fun h => h h8), if_neg (fun h => h.elim h0 h1)]
    rw [e]
    exact getName_yes a cap l w hbs h8 (lettersN l) (zerosN l (lettersN l)) hi hz h0 (by omega)
 ·have e : readOut l = (ByteArray.empty, 3) := by unfold readOut; rw [if_pos h8]
  rw [e]
  exact getName_len a l.length cap w hl h8
end Go.Proofs.YtknjdhnldfebjaaGreatDoor
