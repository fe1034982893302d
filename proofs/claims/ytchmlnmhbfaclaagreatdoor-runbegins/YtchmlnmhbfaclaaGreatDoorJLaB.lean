/-
  The frame of RunBegins: the row. (Part of the proof of RunBegins.)
-/
import Derived.Test.YtchmlnmhbfaclaaGreatDoorJLaA
namespace Go.Proofs.YtchmlnmhbfaclaaGreatDoor.runBegins
open Go.ChangeShapes Go.WideShapes Go.ChangeAt Go.RowKit
open Go.ChangeMaps (open_string shut_string)
set_option linter.unusedVariables false
theorem fcIn:Tryz.prog.inPlace 4=Rows.runBeginsRow.inPlace:=by kernel_rfl
theorem fcUn:Tryz.prog.unfollowed 4=true:=by kernel_rfl
theorem fcRe:Tryz.prog.recurses 4=true:=by kernel_rfl
theorem fcVa:Tryz.prog.varsNamed 4=Rows.runBeginsRow.named:=by kernel_rfl
theorem closed:joinedFacts Tryz.prog 4 Tryz.f4 (OpenSpec.ofChange Rows.runBeginsSpec).bare Rows.runBeginsRow=true:=by
 unfold joinedFacts
 rw [fcIn,fcUn,fcRe,fcVa]
 kernel_rfl
theorem said:Rows.RunBeginsSaid :=
 OpenClaim.holds_of_cond 4 Tryz.f4 rfl rfl rfl rfl rfl rfl rfl ⟨rfl,rfl,rfl,rfl,rfl⟩ rfl rfl rfl rfl rfl (by kernel_rfl) Tryz.func4 closed
  (of_decide_eq_true (by kernel_rfl)) (by unfold Func.isWrapper;first | (rw [if_pos (by decide +kernel)];kernel_rfl) | (rw [if_neg (by decide +kernel)];exact⟨rfl,rfl⟩))
  (fun os started H enc _ F=>by rw [OpenClaim.pre_eq_preRow];exact lifted os started H enc F)
end Go.Proofs.YtchmlnmhbfaclaaGreatDoor.runBegins
