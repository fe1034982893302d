/-
  The walk of RootLeads. (Part of the proof of RootLeads.)
-/
import Derived.Test.YtojdfbmfbmanaaaGreatDoorJRl
namespace Go.Proofs.YtojdfbmfbmanaaaGreatDoor
open Go.RowKit
set_option linter.unusedVariables false

theorem walkRootLeads (a : Option Addr) (cap : Nat) (l : List Int) (s t : ByteArray) (x : Int) (w : World) (hg : ErrT w) (hb : Bs w a cap l) (hs : s.size ≤ 140737488351232) (hts : t.size ≤ 140737488351232) :
    Calls Tryz.prog 4 #[.slice a l.length cap, .string s, .string t, .int .i64 x] w fun e w' => e = .returned (.bool true) ∧ Below w.heap.size w w' := by
  by_cases h0 : seE (ldL l) s x = 0
  · by_cases hst : s = t
    · exact leads_same a cap l s t x w hg hb hs hts h0 hst
    · by_cases hE : gtE (ldL l) t (-1) = 0
      · exact leads_is a cap l s t x w hg hb hs hts h0 hst hE
      · exact leads_isno a cap l s t x w hg hb hs hts h0 hst hE
  · exact leads_no a cap l s t x w hg hb hs hts h0
end Go.Proofs.YtojdfbmfbmanaaaGreatDoor
