/-
  The body of diff.Turn's loop: one change more, turned, at the end of the row. (Part of the proofs over package diff.)
-/
import Derived.Test.YtbohnnflddfidaaDfW
namespace Go.Proofs.Ytbohnnflddfidaa
open Go.RowKit Go.Shelf
set_option linter.unusedVariables false

theorem ChO.setBox {w : World} {n0 bo : Nat} {v u : Value} {l : List (Int × List Int × List Int)} (h : ChO w n0 v l) (hb : Boxed w bo 23 u) (u' : Value) : ChO (w.setCell ⟨bo, 0, none⟩ u') n0 v l := by
  obtain ⟨rs, h1, h2, h3⟩ := h
  have key : ∀ {base k n : Nat} {T : TypeId} {v : Value} {xs : List Value}, 23 ≠ T → w.ownsRow base T k v n xs → (w.setCell ⟨bo, 0, none⟩ u').ownsRow base T k v n xs := fun hne h => h.kept (grownBy_setCell' w bo u') (.inr (hb.not_row hne h).symm)
  refine ⟨rs, h1, key (by decide) h2, fun r hr => ?_⟩
  obtain ⟨⟨p1, p2, p3⟩, q1, q2, q3⟩ := h3 r hr
  exact ⟨⟨p1, p2, key (by decide) p3⟩, q1, q2, key (by decide) q3⟩
theorem turnS.below {bx : Nat} {x : Int} {a1 a2 : Option Addr} {n1 n2 c1 c2 : Nat} {w w' : World} (h : turnS bx x a1 n1 c1 a2 n2 c2 w) (hs : w'.heap[bx]? = w.heap[bx]?) : turnS bx x a1 n1 c1 a2 n2 c2 w' :=
  ⟨(World.cell?_of_block (a := ⟨bx, 0, none⟩) hs).trans h.1, (World.cell?_of_block (a := ⟨bx, 1, none⟩) hs).trans h.2.1, (World.cell?_of_block (a := ⟨bx, 2, none⟩) hs).trans h.2.2⟩
set_option maxRecDepth 100000 in
set_option maxHeartbeats 2000000 in
theorem turn_region {Q : Exit → Act → World → Prop} {u1 u2 u3 u4 u5 u6 u7 u8 u9 t11 t12 : Value} {bo bx n0 : Nat} {x : Int} {a1 a2 : Option Addr} {c1 c2 : Nat} {O N : List Int} {W : World} {vo : Value} {l : List (Int × List Int × List Int)}
    (hQ : ∀ c a w, ¬ Q (.panic c) a w) (hbo : Boxed W bo 23 vo) (hch : ChO W n0 vo l) (hn : l.length ≤ 100000) (hn0 : n0 ≤ W.heap.size) (hbon : n0 ≤ bo) (hS : turnS bx x a1 O.length c1 a2 N.length c2 W) (hxo : bx ≠ bo) (hnb : vo.ownBlock ≠ some bx) (hO : Bs W a1 c1 O) (hN : Bs W a2 c2 N)
    (hfin : ∀ a' w' v', Boxed w' bo 23 v' → ChO w' n0 v' (l ++ [(x, N, O)]) → Below n0 W w' → (∀ j, j < W.heap.size → j ≠ bo → vo.ownBlock ≠ some j → w'.heap[j]? = W.heap[j]?) → Q .normal a' w') :
    wpAnyH Try.prog .any turnOps Q (turnS bx x a1 O.length c1 a2 N.length c2) 13 (Array.replicate 13 false) (turnAct u1 u2 u3 u4 u5 u6 u7 u8 u9 t11 t12 bo bx undef undef undef undef undef undef undef undef undef undef undef undef undef) W := by
  have hbx : bx < W.heap.size := block_lt_of_cell hS.1
  have hSW : ∀ w', Below W.heap.size W w' → turnS bx x a1 O.length c1 a2 N.length c2 w' := fun w' hb => hS.below (hb.block bx hbx)
  have hnr : some bo ≠ vo.ownBlock := by
    obtain ⟨rs, _, h2, _⟩ := hch
    exact hbo.not_row (by decide) h2
  have hC2 : ∀ w', Below W.heap.size W w' → Calls Try.prog 15 #[.slice a2 N.length c2] w' fun e w'' => ∃ s d, e = .returned (.slice s N.length d) ∧ (OwnV w'' n0 (.slice s N.length d) N ∧ Below W.heap.size W w'' ∧ Below w'.heap.size w' w'') := fun w' hb => (bclone_any a2 c2 N w' (hN.below hb)).mono fun e w'' ⟨s, d, h1, h2, h3⟩ => ⟨s, d, h1, h2.low (Nat.le_trans hn0 hb.size), hb.trans (h3.mono hb.size), h3⟩
  have hC1 : ∀ w', Below W.heap.size W w' → Calls Try.prog 15 #[.slice a1 O.length c1] w' fun e w'' => ∃ s d, e = .returned (.slice s O.length d) ∧ (OwnV w'' n0 (.slice s O.length d) O ∧ Below W.heap.size W w'' ∧ Below w'.heap.size w' w'') := fun w' hb => (bclone_any a1 c1 O w' (hO.below hb)).mono fun e w'' ⟨s, d, h1, h2, h3⟩ => ⟨s, d, h1, h2.low (Nat.le_trans hn0 hb.size), hb.trans (h3.mono hb.size), h3⟩
  have hcell : ∀ w', Below W.heap.size W w' → w'.cell? ⟨bo, 0, none⟩ = some vo := fun w' hb => (hb.cell (p := ⟨bo, 0, none⟩) hbo.lt).trans hbo.cell
  -- the append, and the store
  have G3t : ∀ s1 d1 s2 d2 w2, Below W.heap.size W w2 → OwnV w2 n0 (.slice s1 N.length d1) N → OwnV w2 n0 (.slice s2 O.length d2) O →
      wpAnyH Try.prog .any turnOps Q (turnS bx x a1 O.length c1 a2 N.length c2) 2 #[true, true, true, true, true, true, true, true, true, true, true, false, false] (turnAct u1 u2 u3 u4 u5 u6 u7 u8 u9 t11 t12 bo bx vo (.pointer (some ⟨bx, 0, none⟩)) (.int .i64 x) (.pointer (some ⟨bx, 2, none⟩)) (.slice a2 N.length c2) (.slice s1 N.length d1) (.pointer (some ⟨bx, 1, none⟩)) (.slice a1 O.length c1) (.slice s2 O.length d2) (.agg #[.int .i64 x, .slice s1 N.length d1, .slice s2 O.length d2]) (.slice (some ⟨w2.heap.size, 0, none⟩) 1 1) undef undef) (w2.alloc (.cells #[.int .i64 x, .slice s1 N.length d1, .slice s2 O.length d2] 29)) := by
    intro s1 d1 s2 d2 w2 hb2 ho1 ho2
    have hbA : Below w2.heap.size w2 (w2.alloc (.cells #[.int .i64 x, .slice s1 N.length d1, .slice s2 O.length d2] 29)) := (Below.refl _ w2).alloc (Nat.le_refl _) _
    have hb3 : Below W.heap.size W (w2.alloc (.cells #[.int .i64 x, .slice s1 N.length d1, .slice s2 O.length d2] 29)) := hb2.trans (hbA.mono hb2.size)
    refine wpAnyH_all (rs := [11]) (by kernel_rfl) (by simp) ?_
    intro i hi
    obtain rfl := List.mem_singleton.1 hi
    refine wpOp_of (o := { dst := some 24, op := Op.call { callee := Callee.builtin Builtin.append, args := #[Operand.tmp 13, Operand.tmp 23], argTypes := #[23, 23] }, type := 23, pos := "diff.go:49", after := #[{ on := 0, ground := Ground.data }, { on := 10, ground := Ground.data }, { on := 8, ground := Ground.chain }], guard := none }) rfl (by rfl) ?_
    refine wp_append_chg (.tmp 13) (.tmp 23) rfl n0 vo l rfl (hch.below hb3) w2.heap.size (x, (s1, d1, N), (s2, d2, O)) rfl (heap_alloc_new _ _) ((rdo_mk rfl rfl ⟨hN.2.2.1, hO.2.2.1⟩ hN.1 hO.1 ho1 ho2).below hbA) hn (Nat.le_trans hn0 hb3.size) ?_
    intro g4 c4 w4 hch4 hb4 hk4
    have hbo4 : Boxed w4 bo 23 vo := (hk4 bo (Nat.lt_of_lt_of_le hbo.lt hb3.size) hnr.symm).trans ((hb3.block bo hbo.lt).trans hbo)
    have hS4 : turnS bx x a1 O.length c1 a2 N.length c2 w4 := (hSW _ hb3).below (hk4 bx (Nat.lt_of_lt_of_le hbx hb3.size) hnb)
    refine ⟨hS4, ?_⟩
    refine wpAnyH_all (rs := [12]) (by kernel_rfl) (by simp) ?_
    intro i hi
    obtain rfl := List.mem_singleton.1 hi
    refine tOp12 hbo4.cell hbo4.frozen ⟨hS4.below (Below.heap_setCell w4 ⟨bo, 0, none⟩ _ bx hxo), ?_⟩
    refine wpAnyH_done (by kernel_rfl) ?_ _
    refine hfin _ _ _ (hbo4.set _) (hch4.setBox hbo4 _) ?_ (fun j hj hjo hjv => ?_)
    · exact (((hb3.mono hn0).trans hb4)).setCell (p := ⟨bo, 0, none⟩) hbon _
    · exact (Below.heap_setCell w4 ⟨bo, 0, none⟩ _ j hjo).trans ((hk4 j (Nat.lt_of_lt_of_le hj hb3.size) hjv).trans (hb3.block j hj))
  have G3f : ∀ s1 d1 s2 d2 w2, Below W.heap.size W w2 → OwnV w2 n0 (.slice s1 N.length d1) N → OwnV w2 n0 (.slice s2 O.length d2) O →
      wpAnyH Try.prog .any turnOps Q (turnS bx x a1 O.length c1 a2 N.length c2) 3 #[false, true, true, true, true, true, true, true, true, true, true, false, false] (turnAct u1 u2 u3 u4 u5 u6 u7 u8 u9 t11 t12 bo bx undef (.pointer (some ⟨bx, 0, none⟩)) (.int .i64 x) (.pointer (some ⟨bx, 2, none⟩)) (.slice a2 N.length c2) (.slice s1 N.length d1) (.pointer (some ⟨bx, 1, none⟩)) (.slice a1 O.length c1) (.slice s2 O.length d2) (.agg #[.int .i64 x, .slice s1 N.length d1, .slice s2 O.length d2]) (.slice (some ⟨w2.heap.size, 0, none⟩) 1 1) undef undef) (w2.alloc (.cells #[.int .i64 x, .slice s1 N.length d1, .slice s2 O.length d2] 29)) := by
    intro s1 d1 s2 d2 w2 hb2 ho1 ho2
    have hb3 : Below W.heap.size W (w2.alloc (.cells #[.int .i64 x, .slice s1 N.length d1, .slice s2 O.length d2] 29)) := hb2.trans (((Below.refl _ w2).alloc (Nat.le_refl _) _).mono hb2.size)
    refine wpAnyH_all (rs := [0]) (by kernel_rfl) (by simp) ?_
    intro i hi
    obtain rfl := List.mem_singleton.1 hi
    exact tOp0 vo (hcell _ hb3) ⟨hSW _ hb3, G3t s1 d1 s2 d2 w2 hb2 ho1 ho2⟩
  have G2t : ∀ s1 d1 s2 d2 w2, Below W.heap.size W w2 → OwnV w2 n0 (.slice s1 N.length d1) N → OwnV w2 n0 (.slice s2 O.length d2) O →
      wpAnyH Try.prog .any turnOps Q (turnS bx x a1 O.length c1 a2 N.length c2) 3 #[true, true, true, true, true, true, true, true, true, true, false, false, false] (turnAct u1 u2 u3 u4 u5 u6 u7 u8 u9 t11 t12 bo bx vo (.pointer (some ⟨bx, 0, none⟩)) (.int .i64 x) (.pointer (some ⟨bx, 2, none⟩)) (.slice a2 N.length c2) (.slice s1 N.length d1) (.pointer (some ⟨bx, 1, none⟩)) (.slice a1 O.length c1) (.slice s2 O.length d2) (.agg #[.int .i64 x, .slice s1 N.length d1, .slice s2 O.length d2]) undef undef undef) w2 := by
    intro s1 d1 s2 d2 w2 hb2 ho1 ho2
    refine wpAnyH_all (rs := [10]) (by kernel_rfl) (by simp) ?_
    intro i hi
    obtain rfl := List.mem_singleton.1 hi
    exact tOp10 ⟨hSW _ (hb2.trans (((Below.refl _ w2).alloc (Nat.le_refl _) _).mono hb2.size)), G3t s1 d1 s2 d2 w2 hb2 ho1 ho2⟩
  have G2f : ∀ s1 d1 s2 d2 w2, Below W.heap.size W w2 → OwnV w2 n0 (.slice s1 N.length d1) N → OwnV w2 n0 (.slice s2 O.length d2) O →
      wpAnyH Try.prog .any turnOps Q (turnS bx x a1 O.length c1 a2 N.length c2) 4 #[false, true, true, true, true, true, true, true, true, true, false, false, false] (turnAct u1 u2 u3 u4 u5 u6 u7 u8 u9 t11 t12 bo bx undef (.pointer (some ⟨bx, 0, none⟩)) (.int .i64 x) (.pointer (some ⟨bx, 2, none⟩)) (.slice a2 N.length c2) (.slice s1 N.length d1) (.pointer (some ⟨bx, 1, none⟩)) (.slice a1 O.length c1) (.slice s2 O.length d2) (.agg #[.int .i64 x, .slice s1 N.length d1, .slice s2 O.length d2]) undef undef undef) w2 := by
    intro s1 d1 s2 d2 w2 hb2 ho1 ho2
    refine wpAnyH_all (rs := [0, 10]) (by kernel_rfl) (by simp) ?_
    intro i hi
    rcases List.mem_cons.1 hi with rfl | hi
    · exact tOp0 vo (hcell _ hb2) ⟨hSW _ hb2, G2t s1 d1 s2 d2 w2 hb2 ho1 ho2⟩
    · obtain rfl := List.mem_singleton.1 hi
      exact tOp10 ⟨hSW _ (hb2.trans (((Below.refl _ w2).alloc (Nat.le_refl _) _).mono hb2.size)), G3f s1 d1 s2 d2 w2 hb2 ho1 ho2⟩
  have T9 : ∀ (b0 : Bool) (t13 : Value) s1 d1 s2 d2 w2 fuel, Below W.heap.size W w2 → (wpAnyH Try.prog .any turnOps Q (turnS bx x a1 O.length c1 a2 N.length c2) fuel #[b0, true, true, true, true, true, true, true, true, true, false, false, false] (turnAct u1 u2 u3 u4 u5 u6 u7 u8 u9 t11 t12 bo bx t13 (.pointer (some ⟨bx, 0, none⟩)) (.int .i64 x) (.pointer (some ⟨bx, 2, none⟩)) (.slice a2 N.length c2) (.slice s1 N.length d1) (.pointer (some ⟨bx, 1, none⟩)) (.slice a1 O.length c1) (.slice s2 O.length d2) (.agg #[.int .i64 x, .slice s1 N.length d1, .slice s2 O.length d2]) undef undef undef) w2) → wpAnyH Try.prog .any turnOps Q (turnS bx x a1 O.length c1 a2 N.length c2) (fuel + 1) #[b0, true, true, true, true, true, true, true, true, false, false, false, false] (turnAct u1 u2 u3 u4 u5 u6 u7 u8 u9 t11 t12 bo bx t13 (.pointer (some ⟨bx, 0, none⟩)) (.int .i64 x) (.pointer (some ⟨bx, 2, none⟩)) (.slice a2 N.length c2) (.slice s1 N.length d1) (.pointer (some ⟨bx, 1, none⟩)) (.slice a1 O.length c1) (.slice s2 O.length d2) undef undef undef undef) w2 := by
    intro b0 t13 s1 d1 s2 d2 w2 fuel hb2 h
    refine wpAnyH_take (i := 9) (oi := { dst := some 22, op := Op.build 29 #[(0, Operand.tmp 15), (1, Operand.tmp 18), (2, Operand.tmp 21)], type := 29, pos := "diff.go:49", after := #[{ on := 2, ground := Ground.data }, { on := 5, ground := Ground.data }, { on := 8, ground := Ground.data }], guard := none }) (v := (.agg #[.int .i64 x, .slice s1 N.length d1, .slice s2 O.length d2])) rfl (by kernel_rfl) (by cases b0 <;> kernel_rfl) (by cases b0 <;> kernel_rfl) (fun c a w h => absurd h (hQ c _ w)) (.inl ⟨by rfl, fun w' hS' => ?_⟩) (hSW _ hb2) h
    unfold turnAct
    go_simp
  have G1t : ∀ s1 d1 w1, Below W.heap.size W w1 → OwnV w1 n0 (.slice s1 N.length d1) N →
      wpAnyH Try.prog .any turnOps Q (turnS bx x a1 O.length c1 a2 N.length c2) 5 #[true, true, true, true, true, true, true, true, false, false, false, false, false] (turnAct u1 u2 u3 u4 u5 u6 u7 u8 u9 t11 t12 bo bx vo (.pointer (some ⟨bx, 0, none⟩)) (.int .i64 x) (.pointer (some ⟨bx, 2, none⟩)) (.slice a2 N.length c2) (.slice s1 N.length d1) (.pointer (some ⟨bx, 1, none⟩)) (.slice a1 O.length c1) undef undef undef undef undef) w1 := by
    intro s1 d1 w1 hb1 ho1
    refine wpAnyH_all (rs := [8]) (by kernel_rfl) (by simp) ?_
    intro i hi
    obtain rfl := List.mem_singleton.1 hi
    refine tOp8 (hC1 w1 hb1) (fun s2 d2 w2 ⟨ho2, hb2, hb12⟩ => ⟨hSW _ hb2, ?_⟩)
    exact T9 true vo s1 d1 s2 d2 w2 3 hb2 (G2t s1 d1 s2 d2 w2 hb2 (ho1.below hb12) ho2)
  have G1f : ∀ s1 d1 w1, Below W.heap.size W w1 → OwnV w1 n0 (.slice s1 N.length d1) N →
      wpAnyH Try.prog .any turnOps Q (turnS bx x a1 O.length c1 a2 N.length c2) 6 #[false, true, true, true, true, true, true, true, false, false, false, false, false] (turnAct u1 u2 u3 u4 u5 u6 u7 u8 u9 t11 t12 bo bx undef (.pointer (some ⟨bx, 0, none⟩)) (.int .i64 x) (.pointer (some ⟨bx, 2, none⟩)) (.slice a2 N.length c2) (.slice s1 N.length d1) (.pointer (some ⟨bx, 1, none⟩)) (.slice a1 O.length c1) undef undef undef undef undef) w1 := by
    intro s1 d1 w1 hb1 ho1
    refine wpAnyH_all (rs := [0, 8]) (by kernel_rfl) (by simp) ?_
    intro i hi
    rcases List.mem_cons.1 hi with rfl | hi
    · exact tOp0 vo (hcell _ hb1) ⟨hSW _ hb1, G1t s1 d1 w1 hb1 ho1⟩
    · obtain rfl := List.mem_singleton.1 hi
      refine tOp8 (hC1 w1 hb1) (fun s2 d2 w2 ⟨ho2, hb2, hb12⟩ => ⟨hSW _ hb2, ?_⟩)
      exact T9 false undef s1 d1 s2 d2 w2 4 hb2 (G2f s1 d1 s2 d2 w2 hb2 (ho1.below hb12) ho2)
  have G0t : wpAnyH Try.prog .any turnOps Q (turnS bx x a1 O.length c1 a2 N.length c2) 6 #[true, true, true, true, true, false, true, true, false, false, false, false, false] (turnAct u1 u2 u3 u4 u5 u6 u7 u8 u9 t11 t12 bo bx vo (.pointer (some ⟨bx, 0, none⟩)) (.int .i64 x) (.pointer (some ⟨bx, 2, none⟩)) (.slice a2 N.length c2) undef (.pointer (some ⟨bx, 1, none⟩)) (.slice a1 O.length c1) undef undef undef undef undef) W := by
    refine wpAnyH_all (rs := [5]) (by kernel_rfl) (by simp) ?_
    intro i hi
    obtain rfl := List.mem_singleton.1 hi
    exact tOp5 (hC2 W (Below.refl _ _)) (fun s1 d1 w1 ⟨ho1, hb1, _⟩ => ⟨hSW _ hb1, G1t s1 d1 w1 hb1 ho1⟩)
  refine turn_loads hQ W O.length N.length hS ?_
  refine wpAnyH_all (rs := [0, 5]) (by kernel_rfl) (by simp) ?_
  intro i hi
  rcases List.mem_cons.1 hi with rfl | hi
  · exact tOp0 vo hbo.cell ⟨hS, G0t⟩
  · obtain rfl := List.mem_singleton.1 hi
    exact tOp5 (hC2 W (Below.refl _ _)) (fun s1 d1 w1 ⟨ho1, hb1, _⟩ => ⟨hSW _ hb1, G1f s1 d1 w1 hb1 ho1⟩)
end Go.Proofs.Ytbohnnflddfidaa
