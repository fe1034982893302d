/-
  The law RunAnswers (what package run answers to a text of lines is what the law's own desk, over the reference, answers to it) is true of the program at this commit, for every text, nine package variables of Go's library and of package run (errors' errorType, strconv's ErrRange and ErrSyntax, run's errBad, tables of utf8, bits and strconv) start as the program's text lays them (the card ties them).
-/
import Derived.Test.YtoiebmeajhpgcaaGreatDoorJLaB
namespace Go.Proofs.YtoiebmeajhpgcaaGreatDoor.runAnswers
open Go.ChangeShapes Go.WideShapes Go.ChangeAt Go.RowKit
open Go.ChangeMaps (open_string shut_string)
set_option linter.unusedVariables false
theorem plain(f:FuncId)(fn:Func)(hf:Tryz.pinned.checked.prog.funcNamed "vaultkeel/vaultlaw3.RunAnswers" = some f) (hfn:Tryz.pinned.checked.prog.funcs[f]?=some fn) :
  true=Tryz.pinned.checked.prog.looks []/\∀ (j:Nat) t,fn.params[j]?=some t->Tryz.pinned.checked.prog.wantsStandIn t=false:=by
 obtain rfl:f=3:=Option.some.inj ((show Tryz.prog.funcNamed "vaultkeel/vaultlaw3.RunAnswers" = some 3 by kernel_rfl).symm.trans hf) |>.symm
 obtain rfl:fn=Tryz.f3:=(Option.some.inj (Tryz.func3.symm.trans hfn)).symm;refine⟨by kernel_rfl,fun j t ht=>?_⟩;rw [Tryz.params3] at ht;have hm:=Array.mem_of_getElem? ht;have bQ:∀ t∈(#[9]:Array TypeId),t=9:=by simp
 rcases bQ t hm with rfl
 ·exact(show Tryz.prog.wantsStandIn 9=false by kernel_rfl)
theorem card:Rows.RunAnswersCardSaid :=Claim7.holds_tied_plain_at .later [] _ _ _ _ said (fun _ h=>by cases h) (by kernel_rfl) (fun _ h=>by cases h) runAnswers_row_tie rfl ⟨rfl,rfl⟩ (by kernel_rfl) rfl plain (by kernel_rfl)
end Go.Proofs.YtoiebmeajhpgcaaGreatDoor.runAnswers
namespace Go.Proofs.YtoiebmeajhpgcaaGreatDoor
theorem runAnswers_holds:Rows.RunAnswersCardSaid:=runAnswers.card
#print axioms runAnswers_holds
