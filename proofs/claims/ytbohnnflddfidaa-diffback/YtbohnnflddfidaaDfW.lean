/-
  The body of diff.Turn's loop, operation by operation, in whatever order. (Part of the proofs over package diff.)
-/
import Derived.Test.YtbohnnflddfidaaDfV
namespace Go.Proofs.Ytbohnnflddfidaa
open Go.RowKit Go.Shelf
set_option linter.unusedVariables false

section
variable {Q : Exit → Act → World → Prop} {u1 u2 u3 u4 u5 u6 u7 u8 u9 t11 t12 t13 t18 t21 t22 t23 t24 : Value} {bo bx : Nat} {x : Int} {a1 a2 : Option Addr} {c1 c2 n1 n2 : Nat} {w : World} {K : Act → World → Prop}
theorem tOp0 (vo : Value) (hc : w.cell? ⟨bo, 0, none⟩ = some vo) (hK : K (turnAct u1 u2 u3 u4 u5 u6 u7 u8 u9 t11 t12 bo bx vo (.pointer (some ⟨bx, 0, none⟩)) (.int .i64 x) (.pointer (some ⟨bx, 2, none⟩)) (.slice a2 n2 c2) t18 (.pointer (some ⟨bx, 1, none⟩)) (.slice a1 n1 c1) t21 t22 t23 t24 undef) w) : wpOp Try.prog turnOps Q 0 K (turnAct u1 u2 u3 u4 u5 u6 u7 u8 u9 t11 t12 bo bx t13 (.pointer (some ⟨bx, 0, none⟩)) (.int .i64 x) (.pointer (some ⟨bx, 2, none⟩)) (.slice a2 n2 c2) t18 (.pointer (some ⟨bx, 1, none⟩)) (.slice a1 n1 c1) t21 t22 t23 t24 undef) w := by
  refine wpOp_of (o := { dst := some 13, op := Op.load 23 (Operand.tmp 3), type := 23, pos := "diff.go:49", after := #[], guard := none }) rfl (by rfl) ?_
  unfold turnAct at *
  go_simp
  exact hK
theorem tOp5 {R : Option Addr → Nat → World → Prop} (h : Calls Try.prog 15 #[.slice a2 n2 c2] w fun e w' => ∃ s d, e = .returned (.slice s n2 d) ∧ R s d w') (hK : ∀ s d w', R s d w' → K (turnAct u1 u2 u3 u4 u5 u6 u7 u8 u9 t11 t12 bo bx t13 (.pointer (some ⟨bx, 0, none⟩)) (.int .i64 x) (.pointer (some ⟨bx, 2, none⟩)) (.slice a2 n2 c2) (.slice s n2 d) (.pointer (some ⟨bx, 1, none⟩)) (.slice a1 n1 c1) t21 t22 t23 t24 undef) w') : wpOp Try.prog turnOps Q 5 K (turnAct u1 u2 u3 u4 u5 u6 u7 u8 u9 t11 t12 bo bx t13 (.pointer (some ⟨bx, 0, none⟩)) (.int .i64 x) (.pointer (some ⟨bx, 2, none⟩)) (.slice a2 n2 c2) t18 (.pointer (some ⟨bx, 1, none⟩)) (.slice a1 n1 c1) t21 t22 t23 t24 undef) w := by
  refine wpOp_of (o := { dst := some 18, op := Op.call { callee := Callee.value (Operand.func 15), args := #[Operand.tmp 17], argTypes := #[22] }, type := 22, pos := "diff.go:49", after := #[{ on := 4, ground := Ground.data }], guard := none }) rfl (by rfl) ?_
  unfold turnAct at *
  go_simp
  refine h.mono ?_
  rintro e w' ⟨s, d, rfl, hR⟩
  exact hK s d w' hR
theorem tOp8 {R : Option Addr → Nat → World → Prop} (h : Calls Try.prog 15 #[.slice a1 n1 c1] w fun e w' => ∃ s d, e = .returned (.slice s n1 d) ∧ R s d w') (hK : ∀ s d w', R s d w' → K (turnAct u1 u2 u3 u4 u5 u6 u7 u8 u9 t11 t12 bo bx t13 (.pointer (some ⟨bx, 0, none⟩)) (.int .i64 x) (.pointer (some ⟨bx, 2, none⟩)) (.slice a2 n2 c2) t18 (.pointer (some ⟨bx, 1, none⟩)) (.slice a1 n1 c1) (.slice s n1 d) t22 t23 t24 undef) w') : wpOp Try.prog turnOps Q 8 K (turnAct u1 u2 u3 u4 u5 u6 u7 u8 u9 t11 t12 bo bx t13 (.pointer (some ⟨bx, 0, none⟩)) (.int .i64 x) (.pointer (some ⟨bx, 2, none⟩)) (.slice a2 n2 c2) t18 (.pointer (some ⟨bx, 1, none⟩)) (.slice a1 n1 c1) t21 t22 t23 t24 undef) w := by
  refine wpOp_of (o := { dst := some 21, op := Op.call { callee := Callee.value (Operand.func 15), args := #[Operand.tmp 20], argTypes := #[22] }, type := 22, pos := "diff.go:49", after := #[{ on := 7, ground := Ground.data }, { on := 5, ground := Ground.chain }], guard := none }) rfl (by rfl) ?_
  unfold turnAct at *
  go_simp
  refine h.mono ?_
  rintro e w' ⟨s, d, rfl, hR⟩
  exact hK s d w' hR
theorem tOp10 {s1 s2 : Option Addr} {d1 d2 : Nat} (hK : K (turnAct u1 u2 u3 u4 u5 u6 u7 u8 u9 t11 t12 bo bx t13 (.pointer (some ⟨bx, 0, none⟩)) (.int .i64 x) (.pointer (some ⟨bx, 2, none⟩)) (.slice a2 n2 c2) t18 (.pointer (some ⟨bx, 1, none⟩)) (.slice a1 n1 c1) t21 (.agg #[.int .i64 x, .slice s1 n2 d1, .slice s2 n1 d2]) (.slice (some ⟨w.heap.size, 0, none⟩) 1 1) t24 undef) (w.alloc (.cells #[.int .i64 x, .slice s1 n2 d1, .slice s2 n1 d2] 29))) : wpOp Try.prog turnOps Q 10 K (turnAct u1 u2 u3 u4 u5 u6 u7 u8 u9 t11 t12 bo bx t13 (.pointer (some ⟨bx, 0, none⟩)) (.int .i64 x) (.pointer (some ⟨bx, 2, none⟩)) (.slice a2 n2 c2) t18 (.pointer (some ⟨bx, 1, none⟩)) (.slice a1 n1 c1) t21 (.agg #[.int .i64 x, .slice s1 n2 d1, .slice s2 n1 d2]) t23 t24 undef) w := by
  refine wpOp_of (o := { dst := some 23, op := Op.buildSlice 23 1 #[(0, Operand.tmp 22)], type := 23, pos := "diff.go:49", after := #[{ on := 9, ground := Ground.data }], guard := none }) rfl (by rfl) ?_
  unfold turnAct at *
  go_simp
  exact hK
theorem tOp12 {s : Option Addr} {m c : Nat} {u : Value} (hc : w.cell? ⟨bo, 0, none⟩ = some u) (hf : w.frozen? ⟨bo, 0, none⟩ = false) (hK : K (turnAct u1 u2 u3 u4 u5 u6 u7 u8 u9 t11 t12 bo bx t13 (.pointer (some ⟨bx, 0, none⟩)) (.int .i64 x) (.pointer (some ⟨bx, 2, none⟩)) (.slice a2 n2 c2) t18 (.pointer (some ⟨bx, 1, none⟩)) (.slice a1 n1 c1) t21 t22 t23 (.slice s m c) undef) (w.setCell ⟨bo, 0, none⟩ (.slice s m c))) : wpOp Try.prog turnOps Q 12 K (turnAct u1 u2 u3 u4 u5 u6 u7 u8 u9 t11 t12 bo bx t13 (.pointer (some ⟨bx, 0, none⟩)) (.int .i64 x) (.pointer (some ⟨bx, 2, none⟩)) (.slice a2 n2 c2) t18 (.pointer (some ⟨bx, 1, none⟩)) (.slice a1 n1 c1) t21 t22 t23 (.slice s m c) undef) w := by
  refine wpOp_of (o := { dst := none, op := Op.store 23 (Operand.tmp 3) (Operand.tmp 24), type := 0, pos := "diff.go:49", after := #[{ on := 11, ground := Ground.data }, { on := 11, ground := Ground.chain }, { on := 0, ground := Ground.phase }, { on := 1, ground := Ground.phase }, { on := 2, ground := Ground.phase }, { on := 3, ground := Ground.phase }, { on := 4, ground := Ground.phase }, { on := 5, ground := Ground.phase }, { on := 6, ground := Ground.phase }, { on := 7, ground := Ground.phase }, { on := 8, ground := Ground.phase }, { on := 9, ground := Ground.phase }, { on := 10, ground := Ground.phase }, { on := 11, ground := Ground.phase }], guard := none }) rfl (by rfl) ?_
  unfold turnAct at *
  go_simp
  exact hK
end
end Go.Proofs.Ytbohnnflddfidaa
