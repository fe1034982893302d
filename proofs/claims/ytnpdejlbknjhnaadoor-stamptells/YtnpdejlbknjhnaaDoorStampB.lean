/-
  Contracts of package stamp: Open, Mix. (Part of the proofs of StampTells, StampWhole, StampRow.)
-/
import Derived.Test.YtnpdejlbknjhnaaDoorStampA
import Derived.OwnWalk
import Derived.Deep.RegionLaw
namespace Go.Proofs.YtnpdejlbknjhnaaDoor
open Go.RowKit
set_option linter.unusedVariables false

/-! ### Open -/
theorem open_shape (a : Option Addr) (len cap : Nat) (w : World) (h : len ≠ 32) :
    Calls Tryd.prog 25 #[.slice a len cap] w fun e w' => e = .returned (.tuple #[.int .i64 0, .slice none 0 0, errV 3]) ∧ w = w' := by
  have h' : ¬ (len : Int) = 32 := by omega
  clear h
  go_enter Tryd.func25, Tryd.ntmps25
  go_wp2
  go_ret3
  exact ⟨rfl, rfl⟩

set_option maxRecDepth 100000 in
set_option maxHeartbeats 800000 in
theorem open_none (a : Option Addr) (cap : Nat) (l : List Int) (w : World) (hb : Bs w a cap l) (hl : l.length = 32) (h1 : getV l 0 4 = 0) (h2 : getV l 28 4 = 0) :
    Calls Tryd.prog 25 #[.slice a l.length cap] w fun e w' => e = .returned (.tuple #[.int .i64 0, .slice none 0 0, errV 5]) ∧ w = w' := by
  have g1 := get_yes a cap l 0 4 w hb (by decide) (by decide) (by decide) (by omega)
  have g2 := get_yes a cap l 28 4 w hb (by decide) (by decide) (by decide) (by omega)
  rw [show (28 : Int).toNat = 28 from rfl, show (4 : Int).toNat = 4 from rfl, h2] at g2
  rw [show (0 : Int).toNat = 0 from rfl, show (4 : Int).toNat = 4 from rfl, h1] at g1
  rw [hl] at g1 g2 ⊢
  have G1 := hide g1
  have G2 := hide g2
  clear g1 g2 h1 h2 hl hb
  go_enter Tryd.func25, Tryd.ntmps25
  go_wp2_with fail
  refine (unhide G1).mono ?_
  rintro e w1 ⟨rfl, rfl⟩
  go_wp2_with fail
  refine (unhide G2).mono ?_
  rintro e w1 ⟨rfl, rfl⟩
  go_wp2
  go_ret3
  exact ⟨rfl, rfl⟩

set_option maxRecDepth 100000 in
set_option maxHeartbeats 800000 in
theorem open_state (a : Option Addr) (cap : Nat) (l : List Int) (w : World) (hb : Bs w a cap l) (hl : l.length = 32) (h : getV l 0 4 ≠ getV l 28 4) :
    Calls Tryd.prog 25 #[.slice a l.length cap] w fun e w' => e = .returned (.tuple #[.int .i64 0, .slice none 0 0, errV 6]) ∧ w = w' := by
  have g1 := get_yes a cap l 0 4 w hb (by decide) (by decide) (by decide) (by omega)
  have g2 := get_yes a cap l 28 4 w hb (by decide) (by decide) (by decide) (by omega)
  rw [show (28 : Int).toNat = 28 from rfl, show (4 : Int).toNat = 4 from rfl] at g2
  rw [show (0 : Int).toNat = 0 from rfl, show (4 : Int).toNat = 4 from rfl] at g1
  rw [hl] at g1 g2 ⊢
  have G1 := hide g1
  have G2 := hide g2
  generalize getV l 0 4 = x at *
  generalize getV l 28 4 = y at *
  clear g1 g2 hl hb
  by_cases h0 : x = 0
  · have h9 : ¬ y = 0 := fun e => h (by rw [h0, e])
    have h8 : ¬ (0 : Int) = y := fun e => h9 e.symm
    subst h0
    clear h
    go_enter Tryd.func25, Tryd.ntmps25
    go_wp2_with fail
    refine (unhide G1).mono ?_
    rintro e w1 ⟨rfl, rfl⟩
    go_wp2_with fail
    refine (unhide G2).mono ?_
    rintro e w1 ⟨rfl, rfl⟩
    go_wp2
    go_ret3
    exact ⟨rfl, rfl⟩
  · go_enter Tryd.func25, Tryd.ntmps25
    go_wp2_with fail
    refine (unhide G1).mono ?_
    rintro e w1 ⟨rfl, rfl⟩
    go_wp2_with fail
    refine (unhide G2).mono ?_
    rintro e w1 ⟨rfl, rfl⟩
    go_wp2
    go_ret3
    exact ⟨rfl, rfl⟩

set_option maxRecDepth 100000 in
set_option maxHeartbeats 800000 in
theorem open_yes (a : Option Addr) (cap : Nat) (l : List Int) (w : World) (hb : Bs w a cap l) (hl : l.length = 32) (h : getV l 0 4 = getV l 28 4) (h0 : ¬ getV l 0 4 = 0) :
    Calls Tryd.prog 25 #[.slice a l.length cap] w fun e w' => ∃ g, e = .returned (.tuple #[.int .i64 (getV l 0 4), .slice (some ⟨g, 0, none⟩) 24 24, .nilIface]) ∧ w.heap.size ≤ g ∧ Blk w' g ((l.drop 4).take 24) ∧ Below w.heap.size w w' := by
  obtain ⟨i0, hi0, hz0, hz1, hz2⟩ := info_parts info_u8
  have g1 := get_yes a cap l 0 4 w hb (by decide) (by decide) (by decide) (by omega)
  have g2 := get_yes a cap l 28 4 w hb (by decide) (by decide) (by decide) (by omega)
  rw [show (28 : Int).toNat = 28 from rfl, show (4 : Int).toNat = 4 from rfl, ← h] at g2
  rw [show (0 : Int).toNat = 0 from rfl, show (4 : Int).toNat = 4 from rfl] at g1
  obtain ⟨a4, hcut, hbs⟩ := slice_lohi (P := Tryd.prog) (t := 35) Tryd.underlying35 size_u8 hb 4 28 (by decide) (by omega)
  rw [hl] at g1 g2 hcut ⊢
  rw [show ((4 : Nat) : Int) = 4 from rfl, show ((28 : Nat) : Int) = 28 from rfl, show 28 - 4 = 24 from rfl] at hcut
  rw [show 28 - 4 = 24 from rfl] at hbs
  have hl2 : ((l.drop 4).take 24).length = 24 := by simp; omega
  generalize getV l 0 4 = x at *
  generalize (l.drop 4).take 24 = L at *
  have hcopy : ∀ w1, Blk w1 w.heap.size (zerosB 24) → Bs w1 a4 (cap - 4) L → Sem.run Tryd.prog (Builtin.copy_ #[35, 35] 3 #[.slice (some ⟨w.heap.size, 0, none⟩) 24 24, .slice a4 24 (cap - 4)]) w1 = .ok (.int .i64 24) (rowW w1 w.heap.size L) := fun w1 h5 h6 => by
    have := run_copy_u8 (P := Tryd.prog) w1 35 35 3 Tryd.underlying35 size_u8 w.heap.size 24 a4 (cap - 4) (zerosB 24) L (by rw [length_zerosB, hl2]) h5 h6
    rw [hl2] at this
    exact this
  have G1 := hide g1
  have G2 := hide g2
  have HBS := hide hbs
  clear g1 g2 hl hb h hbs hl2
  go_enter Tryd.func25, Tryd.ntmps25
  go_wp2_with fail
  refine (unhide G1).mono ?_
  rintro e w1 ⟨rfl, rfl⟩
  go_wp2_with fail
  refine (unhide G2).mono ?_
  rintro e w1 ⟨rfl, rfl⟩
  go_wp2_with (at_make; refine wpList_make_u8 rfl _ _ 35 rfl i0 Tryd.underlying35 hi0 hz0 hz1 hz2 _ _ _ _ 24 rfl rfl rfl rfl (by omega) ?_)
  intro w1 hk1 hs1 hb1
  have hc := hcopy w1 hk1 ((unhide HBS).below hb1)
  have HK := hide (rowW_blk hk1 L)
  have HBL := hide (rowW_below L hb1 (Nat.le_refl _))
  clear hcopy hk1 hb1 hs1 HBS
  go_wp2
  go_ret3
  exact ⟨_, rfl, Nat.le_refl _, unhide HK, unhide HBL⟩

/-- What Open answers: the stamp, the body, the error's number. -/
def openOut (l : List Int) : Int × List Int × Int :=
  if l.length ≠ 32 then (0, [], 3) else if getV l 0 4 ≠ getV l 28 4 then (0, [], 6) else if getV l 0 4 = 0 then (0, [], 5) else (getV l 0 4, (l.drop 4).take 24, 0)
/-- How a call that answers a number, bytes and something ends. -/
def EndsN (w : World) (n : Int) (L : List Int) (x : Value) (e : Ending) (w' : World) : Prop :=
  ∃ a cap, e = .returned (.tuple #[.int .i64 n, .slice a L.length cap, x]) ∧ Bs w' a cap L ∧ Below w.heap.size w w'
theorem endsN_nil {w : World} {n : Int} {x : Value} {e : Ending} {w' : World} (he : e = .returned (.tuple #[.int .i64 n, .slice none 0 0, x])) (hw : w = w') : EndsN w n [] x e w' :=
  ⟨none, 0, he, bs_nil _, by rw [hw]; exact Below.refl _ _⟩
theorem open_any (a : Option Addr) (cap : Nat) (l : List Int) (w : World) (hb : Bs w a cap l) :
    Calls Tryd.prog 25 #[.slice a l.length cap] w (EndsN w (openOut l).1 (openOut l).2.1 (errV (openOut l).2.2)) := by
  unfold openOut
  by_cases h : l.length ≠ 32
  · rw [if_pos h]
    exact (open_shape a l.length cap w h).mono fun e w' ⟨he, hw⟩ => endsN_nil he hw
  · rw [if_neg h]
    have hl : l.length = 32 := by omega
    by_cases h2 : getV l 0 4 ≠ getV l 28 4
    · rw [if_pos h2]
      exact (open_state a cap l w hb hl h2).mono fun e w' ⟨he, hw⟩ => endsN_nil he hw
    · rw [if_neg h2]
      have h3 : getV l 0 4 = getV l 28 4 := by omega
      by_cases h4 : getV l 0 4 = 0
      · rw [if_pos h4]
        exact (open_none a cap l w hb hl h4 (by omega)).mono fun e w' ⟨he, hw⟩ => endsN_nil he hw
      · rw [if_neg h4]
        have hl2 : ((l.drop 4).take 24).length = 24 := by simp; omega
        refine (open_yes a cap l w hb hl h3 h4).mono fun e w' ⟨g, he, _, hk, hbel⟩ => ⟨some ⟨g, 0, none⟩, 24, ?_, ?_, hbel⟩
        · rw [he, hl2]; rfl
        · have := Blk.bs hk (hb.1.sub 4 24) (by rw [hl2]; decide)
          rwa [hl2] at this

/-! ### Mix -/
theorem mix_shape (a b : Option Addr) (la lb ca cb : Nat) (cut : Int) (w : World) (h : ¬ (la = 32 ∧ lb = 32)) :
    Calls Tryd.prog 26 #[.slice a la ca, .slice b lb cb, .int .i64 cut] w fun e w' => e = .returned (.tuple #[.slice none 0 0, errV 3]) ∧ w = w' := by
  by_cases h1 : la = 32
  · have h2 : ¬ (lb : Int) = 32 := by omega
    subst h1
    clear h
    go_enter Tryd.func26, Tryd.ntmps26
    go_wp2
    go_ret2
    exact ⟨rfl, rfl⟩
  · have h2 : ¬ (la : Int) = 32 := by omega
    clear h
    go_enter Tryd.func26, Tryd.ntmps26
    go_wp2
    go_ret2
    exact ⟨rfl, rfl⟩
theorem mix_range (a b : Option Addr) (ca cb : Nat) (cut : Int) (w : World) (h : cut < 0 ∨ 32 < cut) :
    Calls Tryd.prog 26 #[.slice a 32 ca, .slice b 32 cb, .int .i64 cut] w fun e w' => e = .returned (.tuple #[.slice none 0 0, errV 1]) ∧ w = w' := by
  by_cases h1 : cut < 0
  · clear h
    go_enter Tryd.func26, Tryd.ntmps26
    go_wp2
    go_ret2
    exact ⟨rfl, rfl⟩
  · have h2 : 32 < cut := by omega
    clear h
    go_enter Tryd.func26, Tryd.ntmps26
    go_wp2
    go_ret2
    exact ⟨rfl, rfl⟩

def mixL (l m : List Int) (c : Nat) : List Int := l.take c ++ m.drop c
theorem length_mixL (l m : List Int) (c : Nat) (hl : l.length = 32) (hm : m.length = 32) (hc : c ≤ 32) : (mixL l m c).length = 32 := by
  simp [mixL]; omega
theorem byt_mixL {l m : List Int} (hl : Byt l) (hm : Byt m) (c : Nat) : Byt (mixL l m c) := by
  intro z hz
  rcases List.mem_append.1 hz with h | h
  · exact hl z (List.mem_of_mem_take h)
  · exact hm z (List.mem_of_mem_drop h)
theorem mix_splice (l m : List Int) (c : Nat) (hl : l.length = 32) (hm : m.length = 32) (hc : c ≤ 32) : splice (splice (zerosB 32) 0 (l.take c)) c (m.drop c) = mixL l m c := by
  have h1 : (l.take c).length = c := by simp; omega
  have h2 : splice (zerosB 32) 0 (l.take c) = l.take c ++ (zerosB 32).drop c := by simp [splice, h1]
  rw [h2]
  unfold splice mixL
  have h3 : (m.drop c).length = 32 - c := by simp; omega
  rw [h3, List.take_append_of_le_length (by omega), List.take_of_length_le (by omega)]
  have h4 : (l.take c ++ (zerosB 32).drop c).drop (c + (32 - c)) = [] := List.drop_eq_nil_of_le (by simp [zerosB]; omega)
  rw [h4, List.append_nil]

set_option maxRecDepth 100000 in
set_option maxHeartbeats 800000 in
theorem mix_yes (a b : Option Addr) (ca cb : Nat) (l m : List Int) (c : Nat) (w : World) (ha : Bs w a ca l) (hb : Bs w b cb m) (hl : l.length = 32) (hm : m.length = 32) (hc : c ≤ 32) :
    Calls Tryd.prog 26 #[.slice a 32 ca, .slice b 32 cb, .int .i64 c] w fun e w' => ∃ g, e = .returned (.tuple #[.slice (some ⟨g, 0, none⟩) 32 32, .nilIface]) ∧ w.heap.size ≤ g ∧ Blk w' g (mixL l m c) ∧ Below w.heap.size w w' := by
  obtain ⟨i0, hi0, hz0, hz1, hz2⟩ := info_parts info_u8
  obtain ⟨x1, p1, s1⟩ := slice_hi (P := Tryd.prog) (t := 35) Tryd.underlying35 size_u8 ha c (by omega)
  obtain ⟨x2, p2, s2⟩ := slice_lo (P := Tryd.prog) (t := 35) Tryd.underlying35 size_u8 hb c (by omega)
  obtain ⟨d, hd⟩ : ∃ d, c + d = 32 := ⟨32 - c, by omega⟩
  have hdd : 32 - c = d := by omega
  obtain ⟨dp, e4, f4⟩ := cut_own (P := Tryd.prog) (t := 35) Tryd.underlying35 size_u8 w.heap.size c d hd
  have lt : (l.take c).length = c := by simp; omega
  have ld : (m.drop c).length = d := by simp; omega
  have hfin := mix_splice l m c hl hm hc
  rw [hl] at p1
  rw [hm, hdd] at p2
  generalize l.take c = L at *
  generalize m.drop c = M at *
  obtain ⟨X1, hX1⟩ : ∃ X1, splice (zerosB 32) 0 L = X1 := ⟨_, rfl⟩
  have l1 : X1.length = 32 := by rw [← hX1, length_splice _ _ _ (by rw [lt, length_zerosB]; omega), length_zerosB]
  have c1 : ∀ w1, Blk w1 w.heap.size (zerosB 32) → Bs w1 x1 ca L → Sem.run Tryd.prog (Builtin.copy_ #[35, 35] 3 #[.slice (some ⟨w.heap.size, 0, none⟩) 32 32, .slice x1 c ca]) w1 = .ok (.int .i64 c) (rowW w1 w.heap.size X1) := fun w1 h5 h6 => by
    have := run_copy_at (P := Tryd.prog) w1 35 35 3 Tryd.underlying35 size_u8 w.heap.size 0 32 32 (some ⟨w.heap.size, 0, none⟩) x1 ca (zerosB 32) L (by omega) (fun _ => rfl) (by rw [length_zerosB]; omega) h5 h6
    rw [lt, hX1] at this
    exact this
  have c2 : ∀ w1, Blk w1 w.heap.size X1 → Bs w1 x2 (cb - c) M → Sem.run Tryd.prog (Builtin.copy_ #[35, 35] 3 #[.slice dp d d, .slice x2 d (cb - c)]) w1 = .ok (.int .i64 d) (rowW w1 w.heap.size (mixL l m c)) := fun w1 h5 h6 => by
    have := run_copy_at (P := Tryd.prog) w1 35 35 3 Tryd.underlying35 size_u8 w.heap.size c d d dp x2 (cb - c) X1 M (by omega) (fun h => f4 (by rw [← ld]; exact List.length_pos_iff.2 h)) (by omega) h5 h6
    rw [ld, ← hX1, hfin] at this
    exact this
  have C1 := hide c1
  have C2 := hide c2
  have S1 := hide s1
  have S2 := hide s2
  have hc' : (c : Int) ≤ 32 := by omega
  have hc0 : (0 : Int) ≤ (c : Int) := by omega
  clear c1 c2 s1 s2 hfin hX1 l1 lt ld f4 hl hm ha hb hd hdd
  go_enter Tryd.func26, Tryd.ntmps26
  go_wp2_with (at_make; refine wpList_make_u8 rfl _ _ 35 rfl i0 Tryd.underlying35 hi0 hz0 hz1 hz2 _ _ _ _ 32 rfl rfl rfl rfl (by omega) ?_)
  intro w1 hk1 hs1 hb1
  have k1 := rowW_blk hk1 X1
  have b1 := rowW_below X1 hb1 (Nat.le_refl _)
  have r1 := (unhide C1) w1 hk1 ((unhide S1).below hb1)
  have hdr : Below (rowW w1 w.heap.size X1).heap.size (rowW w1 w.heap.size X1) (rowW w1 w.heap.size X1).drew := ⟨rfl, rfl, rfl, Nat.le_refl _, fun _ _ => rfl⟩
  have k2 := k1.below hdr
  have b2 : Below w.heap.size w (rowW w1 w.heap.size X1).drew := b1.trans (hdr.mono b1.size)
  have R2 := hide ((unhide C2) (rowW w1 w.heap.size X1).drew k2 ((unhide S2).below b2))
  have HK := hide (rowW_blk k2 (mixL l m c))
  have HBL := hide (rowW_below (mixL l m c) b2 (Nat.le_refl _))
  clear C1 C2 S1 S2 hk1 hb1 hs1 k1 b1 k2 b2 hdr
  go_wp2_with fail
  go_region_law (refine step_copy_run (by rfl) (.tmp 33) (.tmp 36) 35 35 (by rfl) (.slice dp d d) (.slice x2 d (cb - c)) (by rfl) (by rfl) (.int .i64 d) (rowW (rowW w1 w.heap.size X1).drew w.heap.size (mixL l m c)) (unhide R2) ?_)
  go_wp2
  go_ret2
  exact ⟨_, rfl, Nat.le_refl _, unhide HK, unhide HBL⟩

/-- What Mix answers: the sector, and the error's number. -/
def mixOut (l m : List Int) (cut : Int) : List Int × Int := if ¬ (l.length = 32 ∧ m.length = 32) then ([], 3) else if cut < 0 ∨ 32 < cut then ([], 1) else (mixL l m cut.toNat, 0)
theorem mix_any (a b : Option Addr) (ca cb : Nat) (l m : List Int) (cut : Int) (w : World) (ha : Bs w a ca l) (hb : Bs w b cb m) :
    Calls Tryd.prog 26 #[.slice a l.length ca, .slice b m.length cb, .int .i64 cut] w (Ends w (mixOut l m cut).1 (errV (mixOut l m cut).2)) := by
  unfold mixOut
  by_cases h : ¬ (l.length = 32 ∧ m.length = 32)
  · rw [if_pos h]
    exact (mix_shape a b l.length m.length ca cb cut w h).mono fun e w' ⟨he, hw⟩ => ends_nil he hw
  · rw [if_neg h]
    have hl : l.length = 32 ∧ m.length = 32 := by omega
    rw [hl.1, hl.2]
    by_cases h2 : cut < 0 ∨ 32 < cut
    · rw [if_pos h2]
      exact (mix_range a b ca cb cut w h2).mono fun e w' ⟨he, hw⟩ => ends_nil he hw
    · rw [if_neg h2]
      obtain ⟨c, rfl⟩ : ∃ c : Nat, cut = c := ⟨cut.toNat, by omega⟩
      rw [Int.toNat_natCast]
      have hlen := length_mixL l m c hl.1 hl.2 (by omega)
      refine (mix_yes a b ca cb l m c w ha hb hl.1 hl.2 (by omega)).mono fun e w' ⟨g, he, _, hk, hbel⟩ => ⟨some ⟨g, 0, none⟩, 32, ?_, ?_, hbel⟩
      · rw [he, hlen]; rfl
      · have := Blk.bs hk (byt_mixL ha.1 hb.1 c) (by rw [hlen]; decide)
        rwa [hlen] at this
end Go.Proofs.YtnpdejlbknjhnaaDoor
