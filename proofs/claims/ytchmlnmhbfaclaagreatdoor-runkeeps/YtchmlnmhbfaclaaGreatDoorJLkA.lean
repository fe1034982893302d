/-
  The frame of RunKeeps: the walk, lifted. (Part of the proof of RunKeeps.)
-/
import Derived.Test.YtchmlnmhbfaclaaGreatDoorRows
import Derived.Test.YtchmlnmhbfaclaaGreatDoorJWalkRunKeeps
import Derived.WalkKit
import Derived.ProofKit
import Derived.OpenShut
import Derived.ShutString
import Derived.ChangeOld
import Derived.Below
import Derived.SizedLaws
import Derived.Test.YtchmlnmhbfaclaaGreatDoorCards
import Derived.Test.YtchmlnmhbfaclaaGreatDoorTie
import Derived.Deep.DeepHandedRow
import Derived.LaidHandle
import Derived.LaidLaws
import Derived.Test.YtchmlnmhbfaclaaGreatDoorJLd
import Derived.Deep.DeepWitnessRowRef
namespace Go.Proofs.YtchmlnmhbfaclaaGreatDoor.runKeeps
open Go.ChangeShapes Go.WideShapes Go.ChangeAt Go.RowKit
open Go.ChangeMaps (open_string shut_string)
set_option linter.unusedVariables false
theorem own:ownKnob Tryz.prog.godebug=none:=by kernel_rfl
theorem laidOut:laidOutB Tryz.prog=true:=by kernel_rfl
theorem bytesU8:Tryz.prog.bytesOf 5=1:=by kernel_rfl
theorem laid_met(os:Os):laidMetH Tryz.prog Rows.runKeepsRow.laid ((World.layVars Tryz.prog ({ World.holding Tryz.prog os ⟨#[],#[],[]⟩ with heap:=(World.holding Tryz.prog os ⟨#[],#[],[]⟩).heap.modify 1 fun | .cells _ t frozen=>.cells #[.iface 220 (.agg #[.pointer (some ⟨10,39,none⟩)])] t frozen | o=>o }:World) zgW).forCall (fun _ _=>0) ⟨#[],#[.slice none 0 0,.slice none 0 0,.int .i64 0],[]⟩).memory :=
 zwz #[.slice none 0 0,.slice none 0 0,.int .i64 0] (by kernel_rfl) (by kernel_rfl) (by kernel_rfl)
theorem reads(os:Os){H:Type}(enc:TypeId×Value->H):∃ places,DataW.whole enc Tryz.prog ((World.layVars Tryz.prog ({ World.holding Tryz.prog os ⟨#[],#[],[]⟩ with heap:=(World.holding Tryz.prog os ⟨#[],#[],[]⟩).heap.modify 1 fun | .cells _ t frozen=>.cells #[.iface 220 (.agg #[.pointer (some ⟨10,39,none⟩)])] t frozen | o=>o }:World) zgW).forCall (fun _ _=>0) ⟨#[],#[.slice none 0 0,.slice none 0 0,.int .i64 0],[]⟩).memory Tryz.f5.params.toList Rows.runKeepsSpec.vars false #[.slice none 0 0,.slice none 0 0,.int .i64 0].toList 8=some ([.nil,.nil,.lit (.int .i64 0)],[],places) :=
 ⟨[],by kernel_rfl⟩
set_option maxRecDepth 100000 in
theorem lifted(os:Os)(started:os.Started)(H:Type)(enc:TypeId×Value->H)(F:Stop.Interp) :
  ReturnsInHanded {} Tryz.checked os 5 .any ((OpenSpec.ofChange Rows.runKeepsSpec).preRow enc Tryz.prog Tryz.f5 Rows.runKeepsRow.domain false Rows.runKeepsRow.laid) (((OpenSpec.ofChange Rows.runKeepsSpec).at F).post enc Tryz.prog Tryz.f5 false true false false):=by
 obtain⟨places,hx⟩:=reads os enc
 refine returnsInHanded_of_row (C:=Tryz.checked) (s:=OpenSpec.ofChange Rows.runKeepsSpec) own started (by kernel_rfl) Tryz.func5
  (witness_row_atRef (enc:=enc) (C:=Tryz.checked) false (World.layVars Tryz.prog ({ World.holding Tryz.prog os ⟨#[],#[],[]⟩ with heap:=(World.holding Tryz.prog os ⟨#[],#[],[]⟩).heap.modify 1 fun | .cells _ t frozen=>.cells #[.iface 220 (.agg #[.pointer (some ⟨10,39,none⟩)])] t frozen | o=>o }:World) zgW) #[.slice none 0 0,.slice none 0 0,.int .i64 0] (World.layVars_os _ _ _) (by kernel_rfl) (by kernel_rfl) (by kernel_rfl)
   (OpenSpec.preRow_of_cond 8 hx (by kernel_rfl) (fun k hk=>by cases hk) (by kernel_rfl) (laid_met os))) ?_
 intro W base args ds gs before hval0 hW0 _ _ hsz0 hL hsh _
 obtain⟨bq,hg⟩:=zwA hL hsh
 have hW:DataW.Whole enc Tryz.prog Tryz.f5.params.toList Rows.runKeepsSpec.vars false W args.toList ds gs before:=hW0
 have hsz:(DataW.weightsEach Tryz.prog (Tryz.f5.params.toList++Rows.runKeepsSpec.plain.varTypes Tryz.prog) (ds++gs)).all (·<=reachBytes)=true:=hsz0
 show Calls Tryz.prog 5 args W fun e W'=>∃ v,e=.returned v/\Rows.runKeepsSpec.post enc Tryz.prog Tryz.f5 false true false false W args v W'
 have hval:∀ (j:Nat) t v,Tryz.f5.params[j]?=some t->args[j]?=some v->Value.okWide Tryz.prog W .any base t v:=hval0
 have hW':=hW
 obtain⟨p,q,hA0,hV,rfl,hfz,hnd⟩:=hW
 have hA:DataW.TrodAll enc Tryz.prog W 0 (fun _=>true) true Tryz.f5.params.toList args.toList ds p:=hA0
 rw [Tryz.params5] at hA hval hsz
 obtain⟨v0,vs0,d0,ds0,p0,q0,hargs,rfl,rfl,h0,r0⟩:=trodAll_cons hA
 obtain⟨v1,vs1,d1,ds1,p1,q1,rfl,rfl,rfl,h1,r1⟩:=trodAll_cons r0
 obtain⟨v2,vs2,d2,ds2,p2,q2,rfl,rfl,rfl,h2,r2⟩:=trodAll_cons r1
 obtain⟨rfl,rfl,rfl⟩:=trodAll_nil r2
 obtain rfl:args=#[v0,v1,v2]:=by cases args;simp_all
 obtain⟨rfl,rfl⟩:=trodVars_none hV
 obtain⟨a0,len0,cap0,rfl⟩:=okWide_slice Tryz.underlying29 (hval 0 29 v0 rfl rfl)
 have k0:=h0
 have lt0:∀ x∈p0,x.block<W.heap.size:=by obtain⟨m,hm⟩:=k0;exact DataW.trod_lt m _ _ _ hm
 obtain⟨l0,w0,e0⟩:∃ l,Bs W a0 cap0 l/\l.length=len0:=by
  obtain⟨fuel,hf⟩:=h0
  rcases open_ints Tryz.underlying29 Tryz.underlying5 (by kernel_rfl) hf with ⟨hcs,_⟩ | ⟨x,l,c,zs,hcs,_,hl,hm,hz,hx,hcell,hwz⟩
  ·simp [Value.cells] at hcs
   obtain⟨rfl,rfl,rfl⟩:=hcs
   exact⟨[],⟨fun z hz=>(by cases hz),Nat.le_refl _,by decide,fun _=>rfl,fun h=>absurd rfl h⟩,rfl⟩
  ·simp [Value.cells] at hcs
   obtain⟨rfl,rfl,rfl⟩:=hcs
   simp only [Prod.mk.injEq] at hx
   simp only [if_true] at hz
   have hs:=sized_slice hsz (j:=0) (t:=29) (e:=5) rfl (by rw [hx.1];rfl) Tryz.underlying29
   rw [bytesU8] at hs
   simp only [lits,List.length_map,List.length_take,List.length_drop,reachBytes] at hs
   exact⟨_,zgp hl (by omega) hz hcell hwz⟩
 obtain⟨a1,len1,cap1,rfl⟩:=okWide_slice Tryz.underlying29 (hval 1 29 v1 rfl rfl)
 have k1:=h1
 have lt1:∀ x∈p1,x.block<W.heap.size:=by obtain⟨m,hm⟩:=k1;exact DataW.trod_lt m _ _ _ hm
 obtain⟨l1,w1,e1⟩:∃ l,Bs W a1 cap1 l/\l.length=len1:=by
  obtain⟨fuel,hf⟩:=h1
  rcases open_ints Tryz.underlying29 Tryz.underlying5 (by kernel_rfl) hf with ⟨hcs,_⟩ | ⟨x,l,c,zs,hcs,_,hl,hm,hz,hx,hcell,hwz⟩
  ·simp [Value.cells] at hcs
   obtain⟨rfl,rfl,rfl⟩:=hcs
   exact⟨[],⟨fun z hz=>(by cases hz),Nat.le_refl _,by decide,fun _=>rfl,fun h=>absurd rfl h⟩,rfl⟩
  ·simp [Value.cells] at hcs
   obtain⟨rfl,rfl,rfl⟩:=hcs
   simp only [Prod.mk.injEq] at hx
   simp only [if_true] at hz
   have hs:=sized_slice hsz (j:=1) (t:=29) (e:=5) rfl (by rw [hx.1];rfl) Tryz.underlying29
   rw [bytesU8] at hs
   simp only [lits,List.length_map,List.length_take,List.length_drop,reachBytes] at hs
   exact⟨_,zgp hl (by omega) hz hcell hwz⟩
 obtain⟨a2,rfl,rfl,rfl,w2⟩:=open_int Tryz.underlying3 (hval 2 3 v2 rfl rfl) h2
 clear hA0 hval0 hsz0 hsz
 subst e0
 subst e1
 refine(zi2 bq a0 cap0 l0 a1 cap1 l1 a2 W hg w0 w1).mono fun e W' ⟨he,bel⟩=>?_
 subst he
 exact⟨_,rfl,_,_,_,[],_,[],hW',trodAll_mk1 (shut_bool Tryz.underlying4 _),(trodAll_cons_mk (Below.trod laidOut (by kernel_rfl) (of_decide_eq_true (by kernel_rfl)) k0 bel lt0) (trodAll_cons_mk (Below.trod laidOut (by kernel_rfl) (of_decide_eq_true (by kernel_rfl)) k1 bel lt1) (trodAll_cons_mk (shut_int Tryz.underlying3 w2) trodAll_mk0))),rfl,bel.frame _,fun h=>by cases h⟩
end Go.Proofs.YtchmlnmhbfaclaaGreatDoor.runKeeps
