/-
  The text of bytes, whatever was drawn. (Part of the proofs of StampTells, StampWhole, StampRow.)
-/
import Derived.Test.YtnpdejlbknjhnaaDoorStampB
namespace Go.Proofs.YtnpdejlbknjhnaaDoor
open Go.RowKit
set_option linter.unusedVariables false

theorem bytes_str {w : World} {a : Option Addr} {cap : Nat} {l : List Int} (hb : Bs w a cap l) : ∀ k, (convert 35 9 (.slice a l.length cap)).run Tryd.prog (w.drewN k) = .ok (.string (strOf l)) (w.drewN k) :=
  fun k => conv_str (P := Tryd.prog) (t := 35) (e := 9) Tryd.underlying35 Tryd.underlying5 Tryd.underlying9 (show Bs (w.drewN k) a cap l from hb)
theorem bytes_str0 {w : World} {a : Option Addr} {cap : Nat} {l : List Int} (hb : Bs w a cap l) : (convert 35 9 (.slice a l.length cap)).run Tryd.prog w = .ok (.string (strOf l)) w :=
  conv_str (P := Tryd.prog) (t := 35) (e := 9) Tryd.underlying35 Tryd.underlying5 Tryd.underlying9 hb
end Go.Proofs.YtnpdejlbknjhnaaDoor
