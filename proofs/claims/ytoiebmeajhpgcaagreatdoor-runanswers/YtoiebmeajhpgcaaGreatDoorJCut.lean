import Derived.Test.YtoiebmeajhpgcaaGreatDoorJIm
set_option maxRecDepth 100000
set_option maxHeartbeats 16000000
set_option linter.all false
namespace Go.Proofs.YtoiebmeajhpgcaaGreatDoor
open Tryz
open Go.RowKit
theorem Nj:(prog.info? 122).map (·.size)=some 2:=SQ
theorem FP{P}{t:TypeId}(hu:P.underlying t=some (.slice 5))(bW:(P.info? 5).map (·.size)=some 1)(g c N x n:Nat)(hp:x+n<=N)(hn:N<=c)(aB:x<c) w' :
  (Instr.slice t (.slice (zo g) N c) (some (zi x)) (some (zi ((x:Int)+n))) none).run P w'=.ok (.slice (some (zw g x)) n (c-x)) w':=by
 have he:=kG hu;rw[run_slice_lh (P:=P) (w:=w') t (zo g) N c UW .i64 .i64 x (x+n) Sg Sg Sg,he,eR w' bW];have t1:=zTn x;have t2:((x:Int)+n).toNat=x+n:=Sg;simp only[Result.andThen,sliced,t1,t2];exact zn3
