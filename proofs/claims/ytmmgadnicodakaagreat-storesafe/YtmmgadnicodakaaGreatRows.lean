/-
  No cell of these rows narrows 'for every input' (looked for: loops, veiled, ifaces, maps, wideKeys, modest, calm, conditions, laid).
  DERIVED. THE GIVEN ROWS OF THIS SEAT. 3 by the template 'for every input the law returns true; each argument reads behind the call as it read before'; 0 by the template 'total and deterministic' (their statements: YtmmgadnicodakaaGreatTotals.lean).
  GIVEN WITH THE SEED: the statements are not yours to turn. If you find one false, say at which input.
  Laid BY PROGRAM, IN A SANDBOX (cutbox-rows.mjs): the forced cells as the released guide's own fill.sh prints them over the translation ee70ed947b369c8a… (all of the seat's roots in one cut). By AI agents, Wed Nov 11 2026. No macro, syntax, notation, axiom, sorry.
-/
import Derived.Test.YtmmgadnicodakaaGreatChecked
import GoSem.Claim
import GoSem.ClaimJoined
import GoSem.ClaimMapViews
import Derived.JoinedTies
import Derived.KernelRfl
namespace Go.Proofs.YtmmgadnicodakaaGreat
/- THE CELL 'sum', in the pinned program and in every row, IS THE sha256 OF THE DUMP (.gsa) THAT YtmmgadnicodakaaGreatProg.lean LOADS. Nothing in Lean hashes anything: it is a label: what it is worth is what the hold of that sum in a sandbox is worth. -/
noncomputable def Tryz.pinned : Pinned := { name := "ytmmgadnicodakaagreat", sum := "ee70ed947b369c8a33cab8fc13a5437dc82906c4cff1c10a2eae411b1c75296a", checked := Tryz.checked }
namespace Rows
def none {H : Type} : Left H := { results := [], args := [] }

/-- 'vaultlaw4.StoreTwice': WHATEVER THE INPUT: true; the input reads as it did. -/
def storeTwiceSpec : ChangeSpec := { name := "storeTwice", fn := fun _ => fun
  | [d1, d2] => { results := [.lit (.bool true)], args := [d1, d2] }
  | _ => none }
def storeTwiceRow : OpenClaim := { program := "ytmmgadnicodakaagreat", sum := "ee70ed947b369c8a33cab8fc13a5437dc82906c4cff1c10a2eae411b1c75296a", func := "vaultkeel/vaultlaw4.StoreTwice", spec := "storeTwice", unfollowed := true, recurses := true, apart := false }
def StoreTwiceSaid : Prop := storeTwiceRow.holds Tryz.pinned (OpenSpec.ofChange storeTwiceSpec)

/-- ITS FALSE NEIGHBOUR: 'it returns false'. Refute it at one input. -/
def storeTwiceWrong : ChangeSpec := { name := "storeTwice", fn := fun _ => fun
  | [d1, d2] => { results := [.lit (.bool false)], args := [d1, d2] }
  | _ => none }
def StoreTwiceWrongFalsely : Prop := storeTwiceRow.holds Tryz.pinned (OpenSpec.ofChange storeTwiceWrong)

/-- 'vaultlaw4.PlaySteps': WHATEVER THE INPUT: true; the input reads as it did. -/
def playStepsSpec : ChangeSpec := { name := "playSteps", fn := fun _ => fun
  | [d1, d2] => { results := [.lit (.bool true)], args := [d1, d2] }
  | _ => none }
def playStepsRow : OpenClaim := { program := "ytmmgadnicodakaagreat", sum := "ee70ed947b369c8a33cab8fc13a5437dc82906c4cff1c10a2eae411b1c75296a", func := "vaultkeel/vaultlaw4.PlaySteps", spec := "playSteps", unfollowed := true, recurses := true, apart := false }
def PlayStepsSaid : Prop := playStepsRow.holds Tryz.pinned (OpenSpec.ofChange playStepsSpec)

/-- ITS FALSE NEIGHBOUR: 'it returns false'. Refute it at one input. -/
def playStepsWrong : ChangeSpec := { name := "playSteps", fn := fun _ => fun
  | [d1, d2] => { results := [.lit (.bool false)], args := [d1, d2] }
  | _ => none }
def PlayStepsWrongFalsely : Prop := playStepsRow.holds Tryz.pinned (OpenSpec.ofChange playStepsWrong)

/-- 'vaultlaw3.StoreSafe': WHATEVER THE INPUT: true; the input reads as it did. -/
def storeSafeSpec : ChangeSpec := { name := "storeSafe", fn := fun _ => fun
  | [d1, d2, d3, d4, d5, d6] => { results := [.lit (.bool true)], args := [d1, d2, d3, d4, d5, d6] }
  | _ => none }
def storeSafeRow : OpenClaim := { program := "ytmmgadnicodakaagreat", sum := "ee70ed947b369c8a33cab8fc13a5437dc82906c4cff1c10a2eae411b1c75296a", func := "vaultkeel/vaultlaw3.StoreSafe", spec := "storeSafe", unfollowed := true, recurses := true, apart := false }
def StoreSafeSaid : Prop := storeSafeRow.holds Tryz.pinned (OpenSpec.ofChange storeSafeSpec)

/-- ITS FALSE NEIGHBOUR: 'it returns false'. Refute it at one input. -/
def storeSafeWrong : ChangeSpec := { name := "storeSafe", fn := fun _ => fun
  | [d1, d2, d3, d4, d5, d6] => { results := [.lit (.bool false)], args := [d1, d2, d3, d4, d5, d6] }
  | _ => none }
def StoreSafeWrongFalsely : Prop := storeSafeRow.holds Tryz.pinned (OpenSpec.ofChange storeSafeWrong)

/- THE SECOND FORM. 'bulk': how many values and letters a reading holds, each counted each time it is reached (what is shared counts as often as it is met; a slice's spare places count too). A statement '..UptoSaid' is the law's where the arguments, and the package variables that the reading takes, are together of bulk at most 1048576: NARROWER than '..Said'. Prove '..Said' where nothing that the law and all that it calls make is longer than what came in: it says more and counts as full. Else prove '..UptoSaid'. A law counts once. -/
mutual
def uptoBulk {H : Type} : DataW H → Nat
  | .lit (.string bytes) => bytes.length + 1
  | .lit _ => 1
  | .nil => 1
  | .ptr d => uptoBulk d + 1
  | .slice elems spare => uptoBulkAll elems + uptoBulkAll spare + 1
  | .agg parts => uptoBulkAll parts + 1
  | .iface _ d => uptoBulk d + 1
  | .map entries => uptoBulkEntries entries + 1
  | .held _ => 1
def uptoBulkAll {H : Type} : List (DataW H) → Nat
  | [] => 0
  | d :: r => uptoBulk d + uptoBulkAll r
def uptoBulkEntries {H : Type} : List (Lit × DataW H) → Nat
  | [] => 0
  | x :: r => uptoBulkEntry x + uptoBulkEntries r
def uptoBulkEntry {H : Type} : Lit × DataW H → Nat
  | (.string bytes, d) => bytes.length + uptoBulk d + 1
  | (_, d) => uptoBulk d + 1
 end
def uptoSmall : (H : Type) → List (DataW H) → Bool := fun _ ds => decide (uptoBulkAll ds ≤ 1048576)
def OpenSpec.upto (s : _root_.Go.ChangeSpec) : _root_.Go.OpenSpec := { _root_.Go.OpenSpec.ofChange s with cond := some uptoSmall }

/-- 'vaultlaw4.StoreTwice', WHERE WHAT IT READS IS OF BULK AT MOST 1048576: true; the input reads as it did. -/
def storeTwiceUptoRow : OpenClaim := { program := "ytmmgadnicodakaagreat", sum := "ee70ed947b369c8a33cab8fc13a5437dc82906c4cff1c10a2eae411b1c75296a", func := "vaultkeel/vaultlaw4.StoreTwice", spec := "storeTwice", unfollowed := true, recurses := true, apart := false, narrowed := true }
def StoreTwiceUptoSaid : Prop := storeTwiceUptoRow.holds Tryz.pinned (OpenSpec.upto storeTwiceSpec)

/-- 'vaultlaw4.PlaySteps', WHERE WHAT IT READS IS OF BULK AT MOST 1048576: true; the input reads as it did. -/
def playStepsUptoRow : OpenClaim := { program := "ytmmgadnicodakaagreat", sum := "ee70ed947b369c8a33cab8fc13a5437dc82906c4cff1c10a2eae411b1c75296a", func := "vaultkeel/vaultlaw4.PlaySteps", spec := "playSteps", unfollowed := true, recurses := true, apart := false, narrowed := true }
def PlayStepsUptoSaid : Prop := playStepsUptoRow.holds Tryz.pinned (OpenSpec.upto playStepsSpec)

/-- 'vaultlaw3.StoreSafe', WHERE WHAT IT READS IS OF BULK AT MOST 1048576: true; the input reads as it did. -/
def storeSafeUptoRow : OpenClaim := { program := "ytmmgadnicodakaagreat", sum := "ee70ed947b369c8a33cab8fc13a5437dc82906c4cff1c10a2eae411b1c75296a", func := "vaultkeel/vaultlaw3.StoreSafe", spec := "storeSafe", unfollowed := true, recurses := true, apart := false, narrowed := true }
def StoreSafeUptoSaid : Prop := storeSafeUptoRow.holds Tryz.pinned (OpenSpec.upto storeSafeSpec)

end Rows
end Go.Proofs.YtmmgadnicodakaaGreat
