/-
  The law TopBack (whatever is done with a heap, behind Back it is as it was at the mark, and what has changed makes of it what it came to; that image, brought down and up, merged with itself, moved together, says the same) is true of the program at this commit, for every length and every two lists of ops, with no condition.
-/
import Derived.Test.YtcimhnnendlblaaGreatRows
import Derived.Test.YtcimhnnendlblaaGreatJWalkTopBack
import Derived.ProofKit
import Derived.ShutString
import Derived.ChangeOld
import Derived.Below
namespace Go.Proofs.YtcimhnnendlblaaGreat.topBack
open Go.ChangeShapes Go.WideShapes Go.ChangeAt Go.RowKit
open Go.ChangeMaps (open_string shut_string)
set_option linter.unusedVariables false
theorem own:ownKnob Tryz.prog.godebug=none:=by kernel_rfl
theorem laidOut:laidOutB Tryz.prog=true:=by kernel_rfl
set_option maxRecDepth 100000 in
theorem lifted(os:Os)(started:os.Started)(H:Type)(enc:TypeId×Value->H) :
  ReturnsInHanded {} Tryz.checked os 3 .any (Rows.topBackSpec.pre6 enc Tryz.prog Tryz.f3 Rows.topBackRow.domain false) (Rows.topBackSpec.post enc Tryz.prog Tryz.f3 false true false false):=by
 refine returnsInHanded_of_change_sized (C:=Tryz.checked) own started (by kernel_rfl) Tryz.func3
  (ChangeSpec.witness6 (enc:=enc) (C:=Tryz.checked) false ⟨#[],#[.int .i64 0,.slice none 0 0,.slice none 0 0],[]⟩ 8 (by kernel_rfl) (by kernel_rfl) (by kernel_rfl) (by kernel_rfl)) ?_
 intro W base args ds gs before hval0 hW hcnd Sx _;have cL:(DataW.weightsEach Tryz.prog (Tryz.f3.params.toList++Rows.topBackSpec.plain.varTypes Tryz.prog) (ds++gs)).all (·<=reachBytes)=true:=Sx;have lG:∀ (j:Nat) t v,Tryz.f3.params[j]?=some t->args[j]?=some v->Value.okWide Tryz.prog W .any base t v:=hval0;have hW':=hW;obtain⟨p,q,Yi,hV,rfl,hfz,sC⟩:=hW;have hA:DataW.TrodAll enc Tryz.prog W 0 (fun _=>true) true Tryz.f3.params.toList args.toList ds p:=Yi;rw [Tryz.params3] at hA lG cL;obtain⟨v0,vs0,d0,yh,p0,q0,hargs,rfl,rfl,h0,r0⟩:=trodAll_cons hA;obtain⟨v1,vs1,d1,ds1,p1,q1,rfl,rfl,rfl,h1,r1⟩:=trodAll_cons r0;obtain⟨v2,vs2,d2,ds2,p2,q2,rfl,rfl,rfl,h2,r2⟩:=trodAll_cons r1;obtain⟨rfl,rfl,rfl⟩:=trodAll_nil r2;obtain rfl:args=#[v0,v1,v2]:=by cases args;simp_all
 obtain⟨rfl,rfl⟩:=trodVars_none hV;obtain⟨a0,rfl,rfl,rfl,w0⟩:=open_int Tryz.underlying3 (lG 0 3 v0 rfl rfl) h0;obtain⟨a1,len1,cap1,rfl⟩:=okWide_slice Tryz.underlying22 (lG 1 22 v1 rfl rfl);have k1:=h1;have lt1:∀ x∈p1,x.block<W.heap.size:=by obtain⟨m,hm⟩:=k1;exact DataW.trod_lt m _ _ _ hm
 obtain⟨l1,w1,e1⟩:∃ l,Ops W a1 cap1 l/\l.length=len1:=by obtain⟨fuel,hf⟩:=h1;exact VL hf (fun n hn=>by have h9:=List.all_eq_true.1 cL n (DataW.weights_mem_each (j:=1) (t:=22) rfl rfl n hn);simpa using h9)
 obtain⟨a2,len2,cap2,rfl⟩:=okWide_slice Tryz.underlying22 (lG 2 22 v2 rfl rfl);have k2:=h2;have lt2:∀ x∈p2,x.block<W.heap.size:=by obtain⟨m,hm⟩:=k2;exact DataW.trod_lt m _ _ _ hm
 obtain⟨l2,w2,e2⟩:∃ l,Ops W a2 cap2 l/\l.length=len2:=by obtain⟨fuel,hf⟩:=h2;exact VL hf (fun n hn=>by have h9:=List.all_eq_true.1 cL n (DataW.weights_mem_each (j:=2) (t:=22) rfl rfl n hn);simpa using h9)
 clear Yi hval0 Sx cL;subst e1;subst e2;refine(Hf a0 a1 cap1 l1 a2 cap2 l2 W w1 w2).mono fun e W' ⟨he,Cv⟩=>?_
 subst he;exact⟨_,rfl,_,_,_,[],_,[],hW',trodAll_mk1 (shut_bool Tryz.underlying4 _),(trodAll_cons_mk (shut_int Tryz.underlying3 w0) (trodAll_cons_mk (Below.trod laidOut (by kernel_rfl) (of_decide_eq_true (by kernel_rfl)) k1 Cv lt1) (trodAll_cons_mk (Below.trod laidOut (by kernel_rfl) (of_decide_eq_true (by kernel_rfl)) k2 Cv lt2) trodAll_mk0))),rfl,Cv.frame _,fun h=>by cases h⟩
theorem over:Rows.topBackRow.holds Tryz.pinned (OpenSpec.ofChange Rows.topBackSpec) :=
 OpenClaim.holds_of_wide 3 Tryz.f3 rfl rfl rfl rfl rfl rfl rfl ⟨rfl,rfl,rfl,rfl,rfl⟩ rfl rfl rfl rfl rfl (by kernel_rfl) Tryz.func3 (by kernel_rfl)
  (of_decide_eq_true (by kernel_rfl)) (by unfold Func.isWrapper;first | (rw [if_pos (by decide +kernel)];kernel_rfl) | (rw [if_neg (by decide +kernel)];exact⟨rfl,rfl⟩))
  (fun os started H enc _=>lifted os started H enc)
end Go.Proofs.YtcimhnnendlblaaGreat.topBack
namespace Go.Proofs.YtcimhnnendlblaaGreat
theorem topBack_holds:Rows.TopBackSaid:=topBack.over
#print axioms topBack_holds
end Go.Proofs.YtcimhnnendlblaaGreat
