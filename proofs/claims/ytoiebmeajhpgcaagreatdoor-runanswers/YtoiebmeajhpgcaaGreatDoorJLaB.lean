/-
  The frame of RunAnswers: the row. (Part of the proof of RunAnswers.)
-/
import Derived.Test.YtoiebmeajhpgcaaGreatDoorJLaA
namespace Go.Proofs.YtoiebmeajhpgcaaGreatDoor.runAnswers
open Go.ChangeShapes Go.WideShapes Go.ChangeAt Go.RowKit
open Go.ChangeMaps (open_string shut_string)
set_option linter.unusedVariables false
theorem fcIn:Tryz.prog.inPlace 3=Rows.runAnswersRow.inPlace:=SQ
theorem fcUn:Tryz.prog.unfollowed 3=true:=SQ
theorem fcRe:Tryz.prog.recurses 3=true:=SQ
theorem fcVa:Tryz.prog.varsNamed 3=Rows.runAnswersRow.named:=SQ
theorem closed:joinedFacts Tryz.prog 3 Tryz.f3 (OpenSpec.ofChange Rows.runAnswersSpec).bare Rows.runAnswersRow=true:=by unfold joinedFacts;rw [fcIn,fcUn,fcRe,fcVa];kernel_rfl
theorem said:Rows.RunAnswersSaid :=
 OpenClaim.holds_of_cond 3 Tryz.f3 rfl rfl rfl rfl rfl rfl rfl ⟨rfl,rfl,rfl,rfl,rfl⟩ rfl rfl rfl rfl rfl SQ Tryz.func3 closed
  (of_decide_eq_true SQ) (by unfold Func.isWrapper;first | (rw [if_pos (by decide +kernel)];kernel_rfl) | (rw [if_neg (by decide +kernel)];exact⟨rfl,rfl⟩))
  (fun os started H enc _ F=>by rw [OpenClaim.pre_eq_preRow];exact lifted os started H enc F)
