/-
  No cell of these rows narrows 'for every input' (looked for: loops, veiled, ifaces, maps, wideKeys, modest, calm, conditions, laid).
  DERIVED. THE GIVEN ROWS OF THIS SEAT. 2 by the template 'for every input the law returns true; each argument reads behind the call as it read before'; 0 by the template 'total and deterministic' (their statements: YtjipnjmnkfjmhaaTotals.lean).
  GIVEN WITH THE SEED: the statements are not yours to turn. If you find one false, say at which input.
  Laid BY PROGRAM, IN A SANDBOX (cutbox-rows.mjs): the forced cells as the released guide's own fill.sh prints them over the translation da4390c6e0f152e1… (all of the seat's roots in one cut). By AI agents, Wed Nov 11 2026. No macro, syntax, notation, axiom, sorry.
-/
import Derived.Test.YtjipnjmnkfjmhaaChecked
import GoSem.Claim
import GoSem.ClaimJoined
import GoSem.ClaimMapViews
import Derived.JoinedTies
import Derived.KernelRfl
namespace Go.Proofs.Ytjipnjmnkfjmhaa
/- THE CELL 'sum', in the pinned program and in every row, IS THE sha256 OF THE DUMP (.gsa) THAT YtjipnjmnkfjmhaaProg.lean LOADS. Nothing in Lean hashes anything: it is a label: what it is worth is what the hold of that sum in a sandbox is worth. -/
noncomputable def Try.pinned : Pinned := { name := "ytjipnjmnkfjmhaa", sum := "da4390c6e0f152e12c2ecb4379a659385899e9c6caf556c9ea5af2524a23337f", checked := Try.checked }
namespace Rows
def none {H : Type} : Left H := { results := [], args := [] }

/-- 'vaultlaw1.ExtentHolds': WHATEVER THE INPUT: true; the input reads as it did. -/
def extentHoldsSpec : ChangeSpec := { name := "extentHolds", fn := fun _ => fun
  | [d1, d2, d3] => { results := [.lit (.bool true)], args := [d1, d2, d3] }
  | _ => none }
def extentHoldsRow : OpenClaim := { program := "ytjipnjmnkfjmhaa", sum := "da4390c6e0f152e12c2ecb4379a659385899e9c6caf556c9ea5af2524a23337f", func := "vaultkeel/vaultlaw1.ExtentHolds", spec := "extentHolds", unfollowed := true, recurses := true, apart := false }
def ExtentHoldsSaid : Prop := extentHoldsRow.holds Try.pinned (OpenSpec.ofChange extentHoldsSpec)

/-- ITS FALSE NEIGHBOUR: 'it returns false'. Refute it at one input. -/
def extentHoldsWrong : ChangeSpec := { name := "extentHolds", fn := fun _ => fun
  | [d1, d2, d3] => { results := [.lit (.bool false)], args := [d1, d2, d3] }
  | _ => none }
def ExtentHoldsWrongFalsely : Prop := extentHoldsRow.holds Try.pinned (OpenSpec.ofChange extentHoldsWrong)

/-- 'vaultlaw4.ExtentMore': WHATEVER THE INPUT: true; the input reads as it did. -/
def extentMoreSpec : ChangeSpec := { name := "extentMore", fn := fun _ => fun
  | [d1, d2, d3] => { results := [.lit (.bool true)], args := [d1, d2, d3] }
  | _ => none }
def extentMoreRow : OpenClaim := { program := "ytjipnjmnkfjmhaa", sum := "da4390c6e0f152e12c2ecb4379a659385899e9c6caf556c9ea5af2524a23337f", func := "vaultkeel/vaultlaw4.ExtentMore", spec := "extentMore", unfollowed := true, recurses := true, apart := false }
def ExtentMoreSaid : Prop := extentMoreRow.holds Try.pinned (OpenSpec.ofChange extentMoreSpec)

/-- ITS FALSE NEIGHBOUR: 'it returns false'. Refute it at one input. -/
def extentMoreWrong : ChangeSpec := { name := "extentMore", fn := fun _ => fun
  | [d1, d2, d3] => { results := [.lit (.bool false)], args := [d1, d2, d3] }
  | _ => none }
def ExtentMoreWrongFalsely : Prop := extentMoreRow.holds Try.pinned (OpenSpec.ofChange extentMoreWrong)

/- THE SECOND FORM. 'bulk': how many values and letters a reading holds, each counted each time it is reached (what is shared counts as often as it is met; a slice's spare places count too). A statement '..UptoSaid' is the law's where the arguments, and the package variables that the reading takes, are together of bulk at most 1048576: NARROWER than '..Said'. Prove '..Said' where nothing that the law and all that it calls make is longer than what came in: it says more and counts as full. Else prove '..UptoSaid'. A law counts once. -/
mutual
def uptoBulk {H : Type} : DataW H → Nat
  | .lit (.string bytes) => bytes.length + 1
  | .lit _ => 1
  | .nil => 1
  | .ptr d => uptoBulk d + 1
  | .slice elems spare => uptoBulkAll elems + uptoBulkAll spare + 1
  | .agg parts => uptoBulkAll parts + 1
  | .iface _ d => uptoBulk d + 1
  | .map entries => uptoBulkEntries entries + 1
  | .held _ => 1
def uptoBulkAll {H : Type} : List (DataW H) → Nat
  | [] => 0
  | d :: r => uptoBulk d + uptoBulkAll r
def uptoBulkEntries {H : Type} : List (Lit × DataW H) → Nat
  | [] => 0
  | x :: r => uptoBulkEntry x + uptoBulkEntries r
def uptoBulkEntry {H : Type} : Lit × DataW H → Nat
  | (.string bytes, d) => bytes.length + uptoBulk d + 1
  | (_, d) => uptoBulk d + 1
 end
def uptoSmall : (H : Type) → List (DataW H) → Bool := fun _ ds => decide (uptoBulkAll ds ≤ 1048576)
def OpenSpec.upto (s : _root_.Go.ChangeSpec) : _root_.Go.OpenSpec := { _root_.Go.OpenSpec.ofChange s with cond := some uptoSmall }

/-- 'vaultlaw1.ExtentHolds', WHERE WHAT IT READS IS OF BULK AT MOST 1048576: true; the input reads as it did. -/
def extentHoldsUptoRow : OpenClaim := { program := "ytjipnjmnkfjmhaa", sum := "da4390c6e0f152e12c2ecb4379a659385899e9c6caf556c9ea5af2524a23337f", func := "vaultkeel/vaultlaw1.ExtentHolds", spec := "extentHolds", unfollowed := true, recurses := true, apart := false, narrowed := true }
def ExtentHoldsUptoSaid : Prop := extentHoldsUptoRow.holds Try.pinned (OpenSpec.upto extentHoldsSpec)

/-- 'vaultlaw4.ExtentMore', WHERE WHAT IT READS IS OF BULK AT MOST 1048576: true; the input reads as it did. -/
def extentMoreUptoRow : OpenClaim := { program := "ytjipnjmnkfjmhaa", sum := "da4390c6e0f152e12c2ecb4379a659385899e9c6caf556c9ea5af2524a23337f", func := "vaultkeel/vaultlaw4.ExtentMore", spec := "extentMore", unfollowed := true, recurses := true, apart := false, narrowed := true }
def ExtentMoreUptoSaid : Prop := extentMoreUptoRow.holds Try.pinned (OpenSpec.upto extentMoreSpec)

end Rows
end Go.Proofs.Ytjipnjmnkfjmhaa
