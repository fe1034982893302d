/-
  The body of diff.Turn's loop: a region that draws its order. (Part of the proofs over package diff.)
-/
import Derived.Test.YtbohnnflddfidaaDfT
namespace Go.Proofs.Ytbohnnflddfidaa
open Go.RowKit Go.Shelf
set_option linter.unusedVariables false

/-- The operations of the body. -/
def turnOps : Array Oper := #[
  { dst := some 13, op := Op.load 23 (Operand.tmp 3), type := 23, pos := "diff.go:49", after := #[], guard := none },
  { dst := some 14, op := Op.fieldAddr 29 (Operand.tmp 5) 0, type := 0, pos := "diff.go:49", after := #[], guard := none },
  { dst := some 15, op := Op.load 3 (Operand.tmp 14), type := 3, pos := "diff.go:49", after := #[{ on := 1, ground := Ground.data }], guard := none },
  { dst := some 16, op := Op.fieldAddr 29 (Operand.tmp 5) 2, type := 0, pos := "diff.go:49", after := #[], guard := none },
  { dst := some 17, op := Op.load 22 (Operand.tmp 16), type := 22, pos := "diff.go:49", after := #[{ on := 3, ground := Ground.data }], guard := none },
  { dst := some 18, op := Op.call { callee := Callee.value (Operand.func 15), args := #[Operand.tmp 17], argTypes := #[22] }, type := 22, pos := "diff.go:49", after := #[{ on := 4, ground := Ground.data }], guard := none },
  { dst := some 19, op := Op.fieldAddr 29 (Operand.tmp 5) 1, type := 0, pos := "diff.go:49", after := #[], guard := none },
  { dst := some 20, op := Op.load 22 (Operand.tmp 19), type := 22, pos := "diff.go:49", after := #[{ on := 6, ground := Ground.data }], guard := none },
  { dst := some 21, op := Op.call { callee := Callee.value (Operand.func 15), args := #[Operand.tmp 20], argTypes := #[22] }, type := 22, pos := "diff.go:49", after := #[{ on := 7, ground := Ground.data }, { on := 5, ground := Ground.chain }], guard := none },
  { dst := some 22, op := Op.build 29 #[(0, Operand.tmp 15), (1, Operand.tmp 18), (2, Operand.tmp 21)], type := 29, pos := "diff.go:49", after := #[{ on := 2, ground := Ground.data }, { on := 5, ground := Ground.data }, { on := 8, ground := Ground.data }], guard := none },
  { dst := some 23, op := Op.buildSlice 23 1 #[(0, Operand.tmp 22)], type := 23, pos := "diff.go:49", after := #[{ on := 9, ground := Ground.data }], guard := none },
  { dst := some 24, op := Op.call { callee := Callee.builtin Builtin.append, args := #[Operand.tmp 13, Operand.tmp 23], argTypes := #[23, 23] }, type := 23, pos := "diff.go:49", after := #[{ on := 0, ground := Ground.data }, { on := 10, ground := Ground.data }, { on := 8, ground := Ground.chain }], guard := none },
  { dst := none, op := Op.store 23 (Operand.tmp 3) (Operand.tmp 24), type := 0, pos := "diff.go:49", after := #[{ on := 11, ground := Ground.data }, { on := 11, ground := Ground.chain }, { on := 0, ground := Ground.phase }, { on := 1, ground := Ground.phase }, { on := 2, ground := Ground.phase }, { on := 3, ground := Ground.phase }, { on := 4, ground := Ground.phase }, { on := 5, ground := Ground.phase }, { on := 6, ground := Ground.phase }, { on := 7, ground := Ground.phase }, { on := 8, ground := Ground.phase }, { on := 9, ground := Ground.phase }, { on := 10, ground := Ground.phase }, { on := 11, ground := Ground.phase }], guard := none }]
/-- The frame in the body; u1 .. u9: what stands in it besides. -/
def turnAct (u1 u2 u3 u4 u5 u6 u7 u8 u9 t11 t12 : Value) (bo bx : Nat) (t13 t14 t15 t16 t17 t18 t19 t20 t21 t22 t23 t24 t25 : Value) : Act :=
  { tmps := #[u1, u2, u3, .pointer (some ⟨bo, 0, none⟩), u4, .pointer (some ⟨bx, 0, none⟩), u5, u6, u7, u8, u9, t11, t12, t13, t14, t15, t16, t17, t18, t19, t20, t21, t22, t23, t24, t25], defers := [] }

section
variable {Q : Exit → Act → World → Prop} {u1 u2 u3 u4 u5 u6 u7 u8 u9 t11 t12 : Value} {bo bx : Nat} {x : Int} {a1 a2 : Option Addr} {c1 c2 : Nat} {O N : List Int}
/-- What stands in the box of the change. -/
def turnS (bx : Nat) (x : Int) (a1 : Option Addr) (n1 c1 : Nat) (a2 : Option Addr) (n2 c2 : Nat) (w : World) : Prop := w.cell? ⟨bx, 0, none⟩ = some (.int .i64 x) ∧ w.cell? ⟨bx, 1, none⟩ = some (.slice a1 n1 c1) ∧ w.cell? ⟨bx, 2, none⟩ = some (.slice a2 n2 c2)

set_option maxRecDepth 100000 in
set_option maxHeartbeats 1000000 in
/-- The six that only read are taken first. -/
theorem turn_loads (hQ : ∀ c a w, ¬ Q (.panic c) a w) (w : World) (n1 n2 : Nat) (hS : turnS bx x a1 n1 c1 a2 n2 c2 w)
    (h : wpAnyH Try.prog .any turnOps Q (turnS bx x a1 n1 c1 a2 n2 c2) 7 #[false, true, true, true, true, false, true, true, false, false, false, false, false] (turnAct u1 u2 u3 u4 u5 u6 u7 u8 u9 t11 t12 bo bx undef (.pointer (some ⟨bx, 0, none⟩)) (.int .i64 x) (.pointer (some ⟨bx, 2, none⟩)) (.slice a2 n2 c2) undef (.pointer (some ⟨bx, 1, none⟩)) (.slice a1 n1 c1) undef undef undef undef undef) w) :
    wpAnyH Try.prog .any turnOps Q (turnS bx x a1 n1 c1 a2 n2 c2) 13 (Array.replicate 13 false) (turnAct u1 u2 u3 u4 u5 u6 u7 u8 u9 t11 t12 bo bx undef undef undef undef undef undef undef undef undef undef undef undef undef) w := by
  refine wpAnyH_take (i := 1) (oi := { dst := some 14, op := Op.fieldAddr 29 (Operand.tmp 5) 0, type := 0, pos := "diff.go:49", after := #[], guard := none }) (v := .pointer (some ⟨bx, 0, none⟩)) rfl (by kernel_rfl) (by kernel_rfl) (by kernel_rfl) (fun c a w h => absurd h (hQ c _ w)) (.inl ⟨by rfl, fun w' hS' => ?_⟩) hS ?_
  · obtain ⟨q0, q1, q2⟩ := hS'
    unfold turnAct
    go_simp
  refine wpAnyH_take (i := 2) (oi := { dst := some 15, op := Op.load 3 (Operand.tmp 14), type := 3, pos := "diff.go:49", after := #[{ on := 1, ground := Ground.data }], guard := none }) (v := .int .i64 x) rfl (by kernel_rfl) (by kernel_rfl) (by kernel_rfl) (fun c a w h => absurd h (hQ c _ w)) (.inl ⟨by rfl, fun w' hS' => ?_⟩) hS ?_
  · obtain ⟨q0, q1, q2⟩ := hS'
    unfold turnAct
    go_simp
  refine wpAnyH_take (i := 3) (oi := { dst := some 16, op := Op.fieldAddr 29 (Operand.tmp 5) 2, type := 0, pos := "diff.go:49", after := #[], guard := none }) (v := .pointer (some ⟨bx, 2, none⟩)) rfl (by kernel_rfl) (by kernel_rfl) (by kernel_rfl) (fun c a w h => absurd h (hQ c _ w)) (.inl ⟨by rfl, fun w' hS' => ?_⟩) hS ?_
  · obtain ⟨q0, q1, q2⟩ := hS'
    unfold turnAct
    go_simp
  refine wpAnyH_take (i := 4) (oi := { dst := some 17, op := Op.load 22 (Operand.tmp 16), type := 22, pos := "diff.go:49", after := #[{ on := 3, ground := Ground.data }], guard := none }) (v := .slice a2 n2 c2) rfl (by kernel_rfl) (by kernel_rfl) (by kernel_rfl) (fun c a w h => absurd h (hQ c _ w)) (.inl ⟨by rfl, fun w' hS' => ?_⟩) hS ?_
  · obtain ⟨q0, q1, q2⟩ := hS'
    unfold turnAct
    go_simp
  refine wpAnyH_take (i := 6) (oi := { dst := some 19, op := Op.fieldAddr 29 (Operand.tmp 5) 1, type := 0, pos := "diff.go:49", after := #[], guard := none }) (v := .pointer (some ⟨bx, 1, none⟩)) rfl (by kernel_rfl) (by kernel_rfl) (by kernel_rfl) (fun c a w h => absurd h (hQ c _ w)) (.inl ⟨by rfl, fun w' hS' => ?_⟩) hS ?_
  · obtain ⟨q0, q1, q2⟩ := hS'
    unfold turnAct
    go_simp
  refine wpAnyH_take (i := 7) (oi := { dst := some 20, op := Op.load 22 (Operand.tmp 19), type := 22, pos := "diff.go:49", after := #[{ on := 6, ground := Ground.data }], guard := none }) (v := .slice a1 n1 c1) rfl (by kernel_rfl) (by kernel_rfl) (by kernel_rfl) (fun c a w h => absurd h (hQ c _ w)) (.inl ⟨by rfl, fun w' hS' => ?_⟩) hS ?_
  · obtain ⟨q0, q1, q2⟩ := hS'
    unfold turnAct
    go_simp
  exact h
end
end Go.Proofs.Ytbohnnflddfidaa
