/-
  'b[x : x+n]' of a row; what an extent's cells are. (Part of the proofs over packages check and heap.)
-/
import Derived.Test.YtchmlnmhbfaclaaGreatDoorJIm
namespace Go.Proofs.YtchmlnmhbfaclaaGreatDoor
open Go.RowKit
set_option linter.unusedVariables false
theorem size_ext:(Tryz.prog.info? 124).map (·.size)=some 2:=by kernel_rfl
theorem ziz{P:Program}{t:TypeId}(hu:P.underlying t=some (.slice 5))(hsz:(P.info? 5).map (·.size)=some 1)(g c N x n:Nat)(hp:x+n<=N)(hn:N<=c)(hlt:x<c)(w':World) :
  (Instr.slice t (.slice (some ⟨g,0,none⟩) N c) (some (.int .i64 x)) (some (.int .i64 ((x:Int)+n))) none).run P w'=.ok (.slice (some ⟨g,x,none⟩) n (c-x)) w':=by
 have he:=elem_u8 hu
 rw [run_slice_lh (P:=P) (w:=w') t (some ⟨g,0,none⟩) N c (by rw [he];exact hu) .i64 .i64 x (x+n) (by omega) (by omega) (by omega),he,run_size_u8 w' hsz]
 have t1:(x:Int).toNat=x:=Int.toNat_natCast x
 have t2:((x:Int)+n).toNat=x+n:=by omega
 simp only [Result.andThen,sliced,t1,t2]
 rw [if_neg (by omega)]
 simp [Addr.add]
 exact fun h=>h.symm
end Go.Proofs.YtchmlnmhbfaclaaGreatDoor
