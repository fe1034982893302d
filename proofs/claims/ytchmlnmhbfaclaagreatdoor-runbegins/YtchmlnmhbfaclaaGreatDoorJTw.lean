/-
  Two stores over one device: one that was opened, and one that goes on with its heap alone. (Part of the proof of StoreTwice.)
-/
import Derived.Test.YtchmlnmhbfaclaaGreatDoorJPo
namespace Go.Proofs.YtchmlnmhbfaclaaGreatDoor
open Go.RowKit
set_option linter.unusedVariables false
section
variable {w0 w w':World} {t p q:Nat} {S S':Nat->Prop} {D D':DS} {s:Int} {m n x g c:Nat} {L M:List Int} {gk ck:Nat} {K:List Int} {cut:Bool}
set_option maxRecDepth 100000 in
theorem zcU(h:Sto w0 w t p q S D s m x g c L gk ck K cut):Calls Tryz.prog 102 #[.pointer (some ⟨t,0,none⟩)] w fun e w'=>e=.returned (.int .i64 s)/\w=w':=by
 have c1:=h.c1
 have HP:=zb (zoI h.bsd.pg)
 clear h
 go_enter Tryz.func102,Tryz.ntmps102
 go_wp2_with fail
 refine(za HP).mono ?_
 rintro e w1 ⟨rfl,rfl⟩
 go_wp2
 go_ret
 exact⟨rfl,rfl⟩
end
section
variable {w0 w w':World} {t p x m n:Nat} {P:Ps} {F:Nat->Prop}
theorem Tf.stamp(h:Tf w0 w t p x m P F):Calls Tryz.prog 102 #[.pointer (some ⟨t,0,none⟩)] w fun e w'=>e=.returned (.int .i64 P.s)/\w=w':=by
 obtain⟨q,S,g,c,gk,ck,hs,_⟩:=h
 exact zcU hs
end
section
variable {w0 w w':World} {t p x m n t2 x2:Nat} {L K:List Int} {s:Int}
end
end Go.Proofs.YtchmlnmhbfaclaaGreatDoor
