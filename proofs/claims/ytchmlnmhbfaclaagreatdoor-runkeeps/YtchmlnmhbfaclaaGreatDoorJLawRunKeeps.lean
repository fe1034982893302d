/-
  The law RunKeeps (what was written and committed in a session is read behind a crash, what was written later and not committed is not; where the power goes in a Commit, or behind it, one of both is read) is true of the program at this commit, for every two lists of bytes and every number of steps, nine package variables of Go's library and of package run (errors' errorType, strconv's ErrRange and ErrSyntax, run's errBad, tables of utf8, bits and strconv) start as the program's text lays them (the card ties them).
-/
import Derived.Test.YtchmlnmhbfaclaaGreatDoorJLkB
namespace Go.Proofs.YtchmlnmhbfaclaaGreatDoor.runKeeps
open Go.ChangeShapes Go.WideShapes Go.ChangeAt Go.RowKit
open Go.ChangeMaps (open_string shut_string)
set_option linter.unusedVariables false
theorem plain(f:FuncId)(fn:Func)(hf:Tryz.pinned.checked.prog.funcNamed "vaultkeel/vaultlaw3.RunKeeps" = some f) (hfn:Tryz.pinned.checked.prog.funcs[f]?=some fn) :
  true=Tryz.pinned.checked.prog.looks []/\∀ (j:Nat) t,fn.params[j]?=some t->Tryz.pinned.checked.prog.wantsStandIn t=false:=by
 obtain rfl:f=5:=Option.some.inj ((show Tryz.prog.funcNamed "vaultkeel/vaultlaw3.RunKeeps" = some 5 by kernel_rfl).symm.trans hf) |>.symm
 obtain rfl:fn=Tryz.f5:=(Option.some.inj (Tryz.func5.symm.trans hfn)).symm
 refine⟨by kernel_rfl,fun j t ht=>?_⟩
 rw [Tryz.params5] at ht
 have hm:=Array.mem_of_getElem? ht
 have hall:∀ t∈(#[29,29,3]:Array TypeId),t=29\/t=3:=by simp
 rcases hall t hm with rfl | rfl
 ·exact(show Tryz.prog.wantsStandIn 29=false by kernel_rfl)
 ·exact(show Tryz.prog.wantsStandIn 3=false by kernel_rfl)
theorem card:Rows.RunKeepsCardSaid :=
 Claim7.holds_tied_plain_at .later [] _ _ _ _ said (fun _ h=>by cases h) (by kernel_rfl) (fun _ h=>by cases h) runKeeps_row_tie rfl ⟨rfl,rfl⟩ (by kernel_rfl) rfl plain (by kernel_rfl)
end Go.Proofs.YtchmlnmhbfaclaaGreatDoor.runKeeps
namespace Go.Proofs.YtchmlnmhbfaclaaGreatDoor
theorem runKeeps_holds:Rows.RunKeepsCardSaid:=runKeeps.card
#print axioms runKeeps_holds
end Go.Proofs.YtchmlnmhbfaclaaGreatDoor
