/-
  No cell of these rows narrows 'for every input' (looked for: loops, veiled, ifaces, maps, wideKeys, modest, calm, conditions, laid).
  DERIVED. THE GIVEN ROWS OF THIS SEAT. 3 by the template 'for every input the law returns true; each argument reads behind the call as it read before'; 0 by the template 'total and deterministic' (their statements: YtpeglgkhpgifnaaGreatTotals.lean).
  GIVEN WITH THE SEED: the statements are not yours to turn. If you find one false, say at which input.
  Laid BY PROGRAM, IN A SANDBOX (cutbox-rows.mjs): the forced cells as the released guide's own fill.sh prints them over the translation f706251dc751a750… (all of the seat's roots in one cut). By AI agents, Wed Nov 11 2026. No macro, syntax, notation, axiom, sorry.
-/
import Derived.Test.YtpeglgkhpgifnaaGreatChecked
import GoSem.Claim
import GoSem.ClaimJoined
import GoSem.ClaimMapViews
import Derived.JoinedTies
import Derived.KernelRfl
namespace Go.Proofs.YtpeglgkhpgifnaaGreat
/- THE CELL 'sum', in the pinned program and in every row, IS THE sha256 OF THE DUMP (.gsa) THAT YtpeglgkhpgifnaaGreatProg.lean LOADS. Nothing in Lean hashes anything: it is a label: what it is worth is what the hold of that sum in a sandbox is worth. -/
noncomputable def Tryz.pinned : Pinned := { name := "ytpeglgkhpgifnaagreat", sum := "f706251dc751a7505260f5e00c4f11912f1d27cd118fa7832b19798f75cd8e03", checked := Tryz.checked }
namespace Rows
def none {H : Type} : Left H := { results := [], args := [] }

/-- 'vaultlaw2.MoveKeeps': WHATEVER THE INPUT: true; the input reads as it did. -/
def moveKeepsSpec : ChangeSpec := { name := "moveKeeps", fn := fun _ => fun
  | [d] => { results := [.lit (.bool true)], args := [d] }
  | _ => none }
def moveKeepsRow : OpenClaim := { program := "ytpeglgkhpgifnaagreat", sum := "f706251dc751a7505260f5e00c4f11912f1d27cd118fa7832b19798f75cd8e03", func := "vaultkeel/vaultlaw2.MoveKeeps", spec := "moveKeeps", unfollowed := true, recurses := true, apart := false }
def MoveKeepsSaid : Prop := moveKeepsRow.holds Tryz.pinned (OpenSpec.ofChange moveKeepsSpec)

/-- ITS FALSE NEIGHBOUR: 'it returns false'. Refute it at one input. -/
def moveKeepsWrong : ChangeSpec := { name := "moveKeeps", fn := fun _ => fun
  | [d] => { results := [.lit (.bool false)], args := [d] }
  | _ => none }
def MoveKeepsWrongFalsely : Prop := moveKeepsRow.holds Tryz.pinned (OpenSpec.ofChange moveKeepsWrong)

/-- 'vaultlaw3.StatSums': WHATEVER THE INPUT: true; the input reads as it did. -/
def statSumsSpec : ChangeSpec := { name := "statSums", fn := fun _ => fun
  | [d1, d2, d3] => { results := [.lit (.bool true)], args := [d1, d2, d3] }
  | _ => none }
def statSumsRow : OpenClaim := { program := "ytpeglgkhpgifnaagreat", sum := "f706251dc751a7505260f5e00c4f11912f1d27cd118fa7832b19798f75cd8e03", func := "vaultkeel/vaultlaw3.StatSums", spec := "statSums", unfollowed := true, recurses := true, apart := false }
def StatSumsSaid : Prop := statSumsRow.holds Tryz.pinned (OpenSpec.ofChange statSumsSpec)

/-- ITS FALSE NEIGHBOUR: 'it returns false'. Refute it at one input. -/
def statSumsWrong : ChangeSpec := { name := "statSums", fn := fun _ => fun
  | [d1, d2, d3] => { results := [.lit (.bool false)], args := [d1, d2, d3] }
  | _ => none }
def StatSumsWrongFalsely : Prop := statSumsRow.holds Tryz.pinned (OpenSpec.ofChange statSumsWrong)

/-- 'vaultlaw4.MoveRoom': WHATEVER THE INPUT: true; the input reads as it did. -/
def moveRoomSpec : ChangeSpec := { name := "moveRoom", fn := fun _ => fun
  | [d1, d2] => { results := [.lit (.bool true)], args := [d1, d2] }
  | _ => none }
def moveRoomRow : OpenClaim := { program := "ytpeglgkhpgifnaagreat", sum := "f706251dc751a7505260f5e00c4f11912f1d27cd118fa7832b19798f75cd8e03", func := "vaultkeel/vaultlaw4.MoveRoom", spec := "moveRoom", unfollowed := true, recurses := true, apart := false }
def MoveRoomSaid : Prop := moveRoomRow.holds Tryz.pinned (OpenSpec.ofChange moveRoomSpec)

/-- ITS FALSE NEIGHBOUR: 'it returns false'. Refute it at one input. -/
def moveRoomWrong : ChangeSpec := { name := "moveRoom", fn := fun _ => fun
  | [d1, d2] => { results := [.lit (.bool false)], args := [d1, d2] }
  | _ => none }
def MoveRoomWrongFalsely : Prop := moveRoomRow.holds Tryz.pinned (OpenSpec.ofChange moveRoomWrong)

/- THE SECOND FORM. 'bulk': how many values and letters a reading holds, each counted each time it is reached (what is shared counts as often as it is met; a slice's spare places count too). A statement '..UptoSaid' is the law's where the arguments, and the package variables that the reading takes, are together of bulk at most 1048576: NARROWER than '..Said'. Prove '..Said' where nothing that the law and all that it calls make is longer than what came in: it says more and counts as full. Else prove '..UptoSaid'. A law counts once. -/
mutual
def uptoBulk {H : Type} : DataW H → Nat
  | .lit (.string bytes) => bytes.length + 1
  | .lit _ => 1
  | .nil => 1
  | .ptr d => uptoBulk d + 1
  | .slice elems spare => uptoBulkAll elems + uptoBulkAll spare + 1
  | .agg parts => uptoBulkAll parts + 1
  | .iface _ d => uptoBulk d + 1
  | .map entries => uptoBulkEntries entries + 1
  | .held _ => 1
def uptoBulkAll {H : Type} : List (DataW H) → Nat
  | [] => 0
  | d :: r => uptoBulk d + uptoBulkAll r
def uptoBulkEntries {H : Type} : List (Lit × DataW H) → Nat
  | [] => 0
  | x :: r => uptoBulkEntry x + uptoBulkEntries r
def uptoBulkEntry {H : Type} : Lit × DataW H → Nat
  | (.string bytes, d) => bytes.length + uptoBulk d + 1
  | (_, d) => uptoBulk d + 1
 end
def uptoSmall : (H : Type) → List (DataW H) → Bool := fun _ ds => decide (uptoBulkAll ds ≤ 1048576)
def OpenSpec.upto (s : _root_.Go.ChangeSpec) : _root_.Go.OpenSpec := { _root_.Go.OpenSpec.ofChange s with cond := some uptoSmall }

/-- 'vaultlaw2.MoveKeeps', WHERE WHAT IT READS IS OF BULK AT MOST 1048576: true; the input reads as it did. -/
def moveKeepsUptoRow : OpenClaim := { program := "ytpeglgkhpgifnaagreat", sum := "f706251dc751a7505260f5e00c4f11912f1d27cd118fa7832b19798f75cd8e03", func := "vaultkeel/vaultlaw2.MoveKeeps", spec := "moveKeeps", unfollowed := true, recurses := true, apart := false, narrowed := true }
def MoveKeepsUptoSaid : Prop := moveKeepsUptoRow.holds Tryz.pinned (OpenSpec.upto moveKeepsSpec)

/-- 'vaultlaw3.StatSums', WHERE WHAT IT READS IS OF BULK AT MOST 1048576: true; the input reads as it did. -/
def statSumsUptoRow : OpenClaim := { program := "ytpeglgkhpgifnaagreat", sum := "f706251dc751a7505260f5e00c4f11912f1d27cd118fa7832b19798f75cd8e03", func := "vaultkeel/vaultlaw3.StatSums", spec := "statSums", unfollowed := true, recurses := true, apart := false, narrowed := true }
def StatSumsUptoSaid : Prop := statSumsUptoRow.holds Tryz.pinned (OpenSpec.upto statSumsSpec)

/-- 'vaultlaw4.MoveRoom', WHERE WHAT IT READS IS OF BULK AT MOST 1048576: true; the input reads as it did. -/
def moveRoomUptoRow : OpenClaim := { program := "ytpeglgkhpgifnaagreat", sum := "f706251dc751a7505260f5e00c4f11912f1d27cd118fa7832b19798f75cd8e03", func := "vaultkeel/vaultlaw4.MoveRoom", spec := "moveRoom", unfollowed := true, recurses := true, apart := false, narrowed := true }
def MoveRoomUptoSaid : Prop := moveRoomUptoRow.holds Tryz.pinned (OpenSpec.upto moveRoomSpec)

end Rows
end Go.Proofs.YtpeglgkhpgifnaaGreat
