/-
  The law RunBegins (the answers to the first lines of a text are the beginning of the answers to all of it; a text that is too long is answered so) is true of the program at this commit, for every text and every number of lines, nine package variables of Go's library and of package run (errors' errorType, strconv's ErrRange and ErrSyntax, run's errBad, tables of utf8, bits and strconv) start as the program's text lays them (the card ties them).
-/
import Derived.Test.YtchmlnmhbfaclaaGreatDoorJLaB
namespace Go.Proofs.YtchmlnmhbfaclaaGreatDoor.runBegins
open Go.ChangeShapes Go.WideShapes Go.ChangeAt Go.RowKit
open Go.ChangeMaps (open_string shut_string)
set_option linter.unusedVariables false
theorem plain(f:FuncId)(fn:Func)(hf:Tryz.pinned.checked.prog.funcNamed "vaultkeel/vaultlaw3.RunBegins" = some f) (hfn:Tryz.pinned.checked.prog.funcs[f]?=some fn) :
  true=Tryz.pinned.checked.prog.looks []/\∀ (j:Nat) t,fn.params[j]?=some t->Tryz.pinned.checked.prog.wantsStandIn t=false:=by
 obtain rfl:f=4:=Option.some.inj ((show Tryz.prog.funcNamed "vaultkeel/vaultlaw3.RunBegins" = some 4 by kernel_rfl).symm.trans hf) |>.symm
 obtain rfl:fn=Tryz.f4:=(Option.some.inj (Tryz.func4.symm.trans hfn)).symm
 refine⟨by kernel_rfl,fun j t ht=>?_⟩
 rw [Tryz.params4] at ht
 have hm:=Array.mem_of_getElem? ht
 have hall:∀ t∈(#[9,3]:Array TypeId),t=3\/t=9:=by simp
 rcases hall t hm with rfl | rfl
 ·exact(show Tryz.prog.wantsStandIn 3=false by kernel_rfl)
 ·exact(show Tryz.prog.wantsStandIn 9=false by kernel_rfl)
theorem card:Rows.RunBeginsCardSaid :=
 Claim7.holds_tied_plain_at .later [] _ _ _ _ said (fun _ h=>by cases h) (by kernel_rfl) (fun _ h=>by cases h) runBegins_row_tie rfl ⟨rfl,rfl⟩ (by kernel_rfl) rfl plain (by kernel_rfl)
end Go.Proofs.YtchmlnmhbfaclaaGreatDoor.runBegins
namespace Go.Proofs.YtchmlnmhbfaclaaGreatDoor
theorem runBegins_holds:Rows.RunBeginsCardSaid:=runBegins.card
#print axioms runBegins_holds
end Go.Proofs.YtchmlnmhbfaclaaGreatDoor
