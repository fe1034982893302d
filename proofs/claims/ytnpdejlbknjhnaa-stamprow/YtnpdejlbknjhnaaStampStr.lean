/-
  The text of bytes, whatever was drawn. (Part of the proofs of StampTells, StampWhole, StampRow.)
-/
import Derived.Test.YtnpdejlbknjhnaaStampB
namespace Go.Proofs.Ytnpdejlbknjhnaa
open Go.RowKit
set_option linter.unusedVariables false

theorem bytes_str {w : World} {a : Option Addr} {cap : Nat} {l : List Int} (hb : Bs w a cap l) : ∀ k, (convert 22 9 (.slice a l.length cap)).run Try.prog (w.drewN k) = .ok (.string (strOf l)) (w.drewN k) :=
  fun k => conv_str (P := Try.prog) (t := 22) (e := 9) Try.underlying22 Try.underlying5 Try.underlying9 (show Bs (w.drewN k) a cap l from hb)
theorem bytes_str0 {w : World} {a : Option Addr} {cap : Nat} {l : List Int} (hb : Bs w a cap l) : (convert 22 9 (.slice a l.length cap)).run Try.prog w = .ok (.string (strOf l)) w :=
  conv_str (P := Try.prog) (t := 22) (e := 9) Try.underlying22 Try.underlying5 Try.underlying9 hb
end Go.Proofs.Ytnpdejlbknjhnaa
