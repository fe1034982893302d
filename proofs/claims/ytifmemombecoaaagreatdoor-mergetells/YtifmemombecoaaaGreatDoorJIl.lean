/-
  An entry whose bytes are all there. (Part of the proofs over checks and heaps.)
-/
import Derived.Test.YtifmemombecoaaaGreatDoorJImp
namespace Go.Proofs.YtifmemombecoaaaGreatDoor
open Go.RowKit
set_option linter.unusedVariables false
def InL (n : Nat) (e : (Int × Int × Int × Int)) : Prop := 0 <= e.2.1 /\ 0 <= e.2.2.1 /\ e.2.1 + e.2.2.1 <= n
theorem ent_small {L : List Int} {h : Int} (hb : Byt L) (hl : 288 <= L.length) (h1 : 1 <= h) (h2 : h <= 40) : (0 <= (entOf L h).2.1 /\ (entOf L h).2.1 <= 65535) /\ 0 <= (entOf L h).2.2.1 /\ (entOf L h).2.2.1 <= 65535 := by
 have hp := plc_le h1 h2
 unfold entOf
 dsimp only
 rw [getV_two _ _ (by omega), getV_two _ _ (by omega)]
 have e1 := hb.getD (plc h + 1)
 have e2 := hb.getD (plc h + 1 + 1)
 have e3 := hb.getD (plc h + 3)
 have e4 := hb.getD (plc h + 3 + 1)
 omega
end Go.Proofs.YtifmemombecoaaaGreatDoor
