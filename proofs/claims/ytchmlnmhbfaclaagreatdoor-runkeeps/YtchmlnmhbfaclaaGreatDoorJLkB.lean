/-
  The frame of RunKeeps: the row. (Part of the proof of RunKeeps.)
-/
import Derived.Test.YtchmlnmhbfaclaaGreatDoorJLkA
namespace Go.Proofs.YtchmlnmhbfaclaaGreatDoor.runKeeps
open Go.ChangeShapes Go.WideShapes Go.ChangeAt Go.RowKit
open Go.ChangeMaps (open_string shut_string)
set_option linter.unusedVariables false
theorem fcIn:Tryz.prog.inPlace 5=Rows.runKeepsRow.inPlace:=by kernel_rfl
theorem fcUn:Tryz.prog.unfollowed 5=true:=by kernel_rfl
theorem fcRe:Tryz.prog.recurses 5=true:=by kernel_rfl
theorem fcVa:Tryz.prog.varsNamed 5=Rows.runKeepsRow.named:=by kernel_rfl
theorem closed:joinedFacts Tryz.prog 5 Tryz.f5 (OpenSpec.ofChange Rows.runKeepsSpec).bare Rows.runKeepsRow=true:=by
 unfold joinedFacts
 rw [fcIn,fcUn,fcRe,fcVa]
 kernel_rfl
theorem said:Rows.RunKeepsSaid :=
 OpenClaim.holds_of_cond 5 Tryz.f5 rfl rfl rfl rfl rfl rfl rfl ⟨rfl,rfl,rfl,rfl,rfl⟩ rfl rfl rfl rfl rfl (by kernel_rfl) Tryz.func5 closed
  (of_decide_eq_true (by kernel_rfl)) (by unfold Func.isWrapper;first | (rw [if_pos (by decide +kernel)];kernel_rfl) | (rw [if_neg (by decide +kernel)];exact⟨rfl,rfl⟩))
  (fun os started H enc _ F=>by rw [OpenClaim.pre_eq_preRow];exact lifted os started H enc F)
end Go.Proofs.YtchmlnmhbfaclaaGreatDoor.runKeeps
