/-
  Parts of the proofs, joined by program.
-/
import Derived.Test.YtchmlnmhbfaclaaGreatDoorRows
import Derived.Test.YtchmlnmhbfaclaaGreatDoorJRa
import Derived.Lay
import Derived.Stop.LaidErr
import Derived.Shelf.Vars
import Derived.Lib.LaidTab
import Derived.Deep.DeepHandedRow
import Derived.LaidHandle
import Derived.LaidLaws
import Derived.Test.YtchmlnmhbfaclaaGreatDoorJWalkRunKeeps
import Derived.WalkKit
import Derived.ProofKit
import Derived.OpenShut
import Derived.ShutString
import Derived.ChangeOld
import Derived.Below
import Derived.SizedLaws
import Derived.Test.YtchmlnmhbfaclaaGreatDoorCards
import Derived.Test.YtchmlnmhbfaclaaGreatDoorTie
import Derived.Deep.DeepWitnessRowRef
namespace Go.Proofs.YtchmlnmhbfaclaaGreatDoor
open Go.ChangeShapes Go.WideShapes Go.ChangeAt Go.RowKit Go.Shelf
set_option linter.unusedVariables false
def zzC:List (String×DataW Unit):=Rows.runBeginsRow.laid
theorem zCR:Tryz.prog.globalNamed "errors.errorType" = some 1:=by kernel_rfl
theorem zAm:(Tryz.prog.cutTypes.find? (·.1 == "internal/reflectlite.rtype")).map (·.2)=some 220:=by kernel_rfl
theorem zCS:((List.range 482).filter fun t=>Tryz.prog.rowNamed t [101,114,114,111,114])=[39]:=by kernel_rfl
theorem zAn:Tryz.prog.types.size=482:=by kernel_rfl
theorem zmQ{W:World}(h:laidMetH Tryz.prog zzC W):laidMet Tryz.prog [("math/bits.deBruijn32tab",Rows.laid_math_bits_deBruijn32tab),("math/bits.deBruijn64tab",Rows.laid_math_bits_deBruijn64tab),("internal/strconv.uint64pow10",Rows.laid_internal_strconv_uint64pow10),("unicode/utf8.acceptRanges",Rows.laid_unicode_utf8_acceptRanges),("strconv.ErrRange",Rows.laid_strconv_ErrRange),("strconv.ErrSyntax",Rows.laid_strconv_ErrSyntax),("vaultkeel/run.errBad",Rows.laid_vaultkeel_run_errBad),("unicode/utf8.first",Rows.laid_unicode_utf8_first)] W/\handlesMet Tryz.prog [("errors.errorType",Rows.laid_errors_errorType)] W:=h
theorem zxW{W:World}(h:laidMetH Tryz.prog zzC W):ErrT W:=by
 obtain⟨name,u,ty,e1,e2,e3,e4,e5⟩:=(zmQ h).2 _ (List.mem_singleton.2 rfl)
 have en:name=[101,114,114,111,114]:=(Option.some.inj e1).symm
 subst en
 obtain rfl:=Option.some.inj (zAm.symm.trans e2)
 have hm:ty∈(List.range 482).filter fun t=>Tryz.prog.rowNamed t [101,114,114,111,114]:=List.mem_filter.2 ⟨List.mem_range.2 (by rw [<- zAn];exact e3),e4⟩
 rw [zCS] at hm
 obtain rfl:=List.mem_singleton.1 hm
 have hh:typeHandle Tryz.prog 39=.pointer (some ⟨10,39,none⟩):=by kernel_rfl
 rw [hh] at e5
 unfold ErrT
 simpa using World.var?_cell zCR e5 0
theorem zwB : "*" ++ "errors.errorString" = "*errors.errorString" := by decide
theorem zqU(u:TypeId)(h:Tryz.prog.typeName? 3 u=some "*errors.errorString"):u=426 :=
 typeName_ptr_named (nm := "errors.errorString") (by rw [zwB];kernel_rfl) (by kernel_rfl) (by decide) u (by rw [zwB];exact h)
theorem zwA{W:World}(h:laidMetH Tryz.prog zzC W)(hsh:W.ShapedOpen Tryz.prog):∃ b,RnW W b:=by
 have hL:=(zmQ h).1
 obtain⟨a4,s4,v4,_⟩:=laid_sentinel (g:=6) (ti:=39) (tp:=426) (te:=428) (ts:=9) hL.tail.tail.tail.tail (by kernel_rfl) (by kernel_rfl) Tryz.underlying39 zqU Tryz.underlying426 Tryz.underlying428 rfl rfl Tryz.underlying9 (by kernel_rfl) (by kernel_rfl)
 obtain⟨a5,s5,v5,_⟩:=laid_sentinel (g:=5) (ti:=39) (tp:=426) (te:=428) (ts:=9) hL.tail.tail.tail.tail.tail (by kernel_rfl) (by kernel_rfl) Tryz.underlying39 zqU Tryz.underlying426 Tryz.underlying428 rfl rfl Tryz.underlying9 (by kernel_rfl) (by kernel_rfl)
 obtain⟨a6,s6,v6,_⟩:=laid_sentinel (g:=0) (ti:=39) (tp:=426) (te:=428) (ts:=9) hL.tail.tail.tail.tail.tail.tail (by kernel_rfl) (by kernel_rfl) Tryz.underlying39 zqU Tryz.underlying426 Tryz.underlying428 rfl rfl Tryz.underlying9 (by kernel_rfl) (by kernel_rfl)
 have c4:=World.var?_cell (g:=6) (by kernel_rfl) v4 0
 have c5:=World.var?_cell (g:=5) (by kernel_rfl) v5 0
 have c6:=World.var?_cell (g:=0) (by kernel_rfl) v6 0
 exact⟨a6,zxW h,by unfold BdT;simpa using c6,
  cell_of_shapedOpen_int (P:=Tryz.prog) (g:=2) (t:=3) (zero:=#[.int .i64 0]) hsh (of_decide_eq_true (by kernel_rfl)) (by kernel_rfl) rfl (by kernel_rfl) (by kernel_rfl) Tryz.underlying3,
  Go.Lib.tabIs_of_head (g:=7) (t:=416) (e:=355) (by kernel_rfl) (by kernel_rfl) Tryz.underlying416 Tryz.underlying355 (by kernel_rfl) (by kernel_rfl) hL.tail.tail,
  ⟨_,_,by simpa using c5⟩,⟨_,_,by simpa using c4⟩⟩
def zgW:List (String×DataW Unit):=zzC.filter fun x=>x.2.handleName?.isNone
theorem zwz{w0:World}(args:Array Value)(hf:w0.layFits Tryz.prog zgW []=true)(hi:w0.layIfaces Tryz.prog zgW (w0.layVars Tryz.prog zgW)=true)(hh:(zzC.filter fun x=>x.2.handleName?.isSome).all (handleAtB Tryz.prog ((w0.layVars Tryz.prog zgW).forCall (fun _ _=>0) ⟨#[],args,[]⟩).memory)=true) :
  laidMetH Tryz.prog zzC ((w0.layVars Tryz.prog zgW).forCall (fun _ _=>0) ⟨#[],args,[]⟩).memory:=by
 refine laidMetH_of_parts ?_ hh
 show laidMet Tryz.prog zgW _
 have e1:(zgW.filter fun x=>(zgW.map (·.1)).contains x.1)=zgW:=List.filter_eq_self.2 fun x hx=>List.contains_iff_mem.2 (List.mem_map.2 ⟨x,hx,rfl⟩)
 have e2:(zgW.filter fun x=>!(zgW.map (·.1)).contains x.1)=[]:=List.filter_eq_nil_iff.2 fun x hx=>by rw [List.contains_iff_mem.2 (List.mem_map.2 ⟨x,hx,rfl⟩)];simp
 have h:laidMet Tryz.prog zgW (w0.layVars Tryz.prog zgW):=laidMet_layVars (w0:=w0) (zgW.map (·.1)) [] (by rw [e1]) (by rw [e1];exact hf) (by rw [e1];exact hi) (by rw [e2];exact LaidIn.none)
 exact h.of_heap (by simp [World.memory,World.forCall,Input.heap])
end Go.Proofs.YtchmlnmhbfaclaaGreatDoor
namespace Go.Proofs.YtchmlnmhbfaclaaGreatDoor.runKeeps
open Go.ChangeShapes Go.WideShapes Go.ChangeAt Go.RowKit
open Go.ChangeMaps (open_string shut_string)
set_option linter.unusedVariables false
theorem own:ownKnob Tryz.prog.godebug=none:=by kernel_rfl
theorem laidOut:laidOutB Tryz.prog=true:=by kernel_rfl
theorem bytesU8:Tryz.prog.bytesOf 5=1:=by kernel_rfl
theorem laid_met(os:Os):laidMetH Tryz.prog Rows.runKeepsRow.laid ((World.layVars Tryz.prog ({ World.holding Tryz.prog os ⟨#[],#[],[]⟩ with heap:=(World.holding Tryz.prog os ⟨#[],#[],[]⟩).heap.modify 1 fun | .cells _ t frozen=>.cells #[.iface 220 (.agg #[.pointer (some ⟨10,39,none⟩)])] t frozen | o=>o }:World) zgW).forCall (fun _ _=>0) ⟨#[],#[.slice none 0 0,.slice none 0 0,.int .i64 0],[]⟩).memory :=
 zwz #[.slice none 0 0,.slice none 0 0,.int .i64 0] (by kernel_rfl) (by kernel_rfl) (by kernel_rfl)
theorem reads(os:Os){H:Type}(enc:TypeId×Value->H):∃ places,DataW.whole enc Tryz.prog ((World.layVars Tryz.prog ({ World.holding Tryz.prog os ⟨#[],#[],[]⟩ with heap:=(World.holding Tryz.prog os ⟨#[],#[],[]⟩).heap.modify 1 fun | .cells _ t frozen=>.cells #[.iface 220 (.agg #[.pointer (some ⟨10,39,none⟩)])] t frozen | o=>o }:World) zgW).forCall (fun _ _=>0) ⟨#[],#[.slice none 0 0,.slice none 0 0,.int .i64 0],[]⟩).memory Tryz.f5.params.toList Rows.runKeepsSpec.vars false #[.slice none 0 0,.slice none 0 0,.int .i64 0].toList 8=some ([.nil,.nil,.lit (.int .i64 0)],[],places) :=
 ⟨[],by kernel_rfl⟩
set_option maxRecDepth 100000 in
theorem lifted(os:Os)(started:os.Started)(H:Type)(enc:TypeId×Value->H)(F:Stop.Interp) :
  ReturnsInHanded {} Tryz.checked os 5 .any ((OpenSpec.ofChange Rows.runKeepsSpec).preRow enc Tryz.prog Tryz.f5 Rows.runKeepsRow.domain false Rows.runKeepsRow.laid) (((OpenSpec.ofChange Rows.runKeepsSpec).at F).post enc Tryz.prog Tryz.f5 false true false false):=by
 obtain⟨places,hx⟩:=reads os enc
 refine returnsInHanded_of_row (C:=Tryz.checked) (s:=OpenSpec.ofChange Rows.runKeepsSpec) own started (by kernel_rfl) Tryz.func5
  (witness_row_atRef (enc:=enc) (C:=Tryz.checked) false (World.layVars Tryz.prog ({ World.holding Tryz.prog os ⟨#[],#[],[]⟩ with heap:=(World.holding Tryz.prog os ⟨#[],#[],[]⟩).heap.modify 1 fun | .cells _ t frozen=>.cells #[.iface 220 (.agg #[.pointer (some ⟨10,39,none⟩)])] t frozen | o=>o }:World) zgW) #[.slice none 0 0,.slice none 0 0,.int .i64 0] (World.layVars_os _ _ _) (by kernel_rfl) (by kernel_rfl) (by kernel_rfl)
   (OpenSpec.preRow_of_cond 8 hx (by kernel_rfl) (fun k hk=>by cases hk) (by kernel_rfl) (laid_met os))) ?_
 intro W base args ds gs before hval0 hW0 _ _ hsz0 hL hsh _
 obtain⟨bq,hg⟩:=zwA hL hsh
 have hW:DataW.Whole enc Tryz.prog Tryz.f5.params.toList Rows.runKeepsSpec.vars false W args.toList ds gs before:=hW0
 have hsz:(DataW.weightsEach Tryz.prog (Tryz.f5.params.toList++Rows.runKeepsSpec.plain.varTypes Tryz.prog) (ds++gs)).all (·<=reachBytes)=true:=hsz0
 show Calls Tryz.prog 5 args W fun e W'=>∃ v,e=.returned v/\Rows.runKeepsSpec.post enc Tryz.prog Tryz.f5 false true false false W args v W'
 have hval:∀ (j:Nat) t v,Tryz.f5.params[j]?=some t->args[j]?=some v->Value.okWide Tryz.prog W .any base t v:=hval0
 have hW':=hW
 obtain⟨p,q,hA0,hV,rfl,hfz,hnd⟩:=hW
 have hA:DataW.TrodAll enc Tryz.prog W 0 (fun _=>true) true Tryz.f5.params.toList args.toList ds p:=hA0
 rw [Tryz.params5] at hA hval hsz
 obtain⟨v0,vs0,d0,ds0,p0,q0,hargs,rfl,rfl,h0,r0⟩:=trodAll_cons hA
 obtain⟨v1,vs1,d1,ds1,p1,q1,rfl,rfl,rfl,h1,r1⟩:=trodAll_cons r0
 obtain⟨v2,vs2,d2,ds2,p2,q2,rfl,rfl,rfl,h2,r2⟩:=trodAll_cons r1
 obtain⟨rfl,rfl,rfl⟩:=trodAll_nil r2
 obtain rfl:args=#[v0,v1,v2]:=by cases args;simp_all
 obtain⟨rfl,rfl⟩:=trodVars_none hV
 obtain⟨a0,len0,cap0,rfl⟩:=okWide_slice Tryz.underlying29 (hval 0 29 v0 rfl rfl)
 have k0:=h0
 have lt0:∀ x∈p0,x.block<W.heap.size:=by obtain⟨m,hm⟩:=k0;exact DataW.trod_lt m _ _ _ hm
 obtain⟨l0,w0,e0⟩:∃ l,Bs W a0 cap0 l/\l.length=len0:=by
  obtain⟨fuel,hf⟩:=h0
  rcases open_ints Tryz.underlying29 Tryz.underlying5 (by kernel_rfl) hf with ⟨hcs,_⟩ | ⟨x,l,c,zs,hcs,_,hl,hm,hz,hx,hcell,hwz⟩
  ·simp [Value.cells] at hcs
   obtain⟨rfl,rfl,rfl⟩:=hcs
   exact⟨[],⟨fun z hz=>(by cases hz),Nat.le_refl _,by decide,fun _=>rfl,fun h=>absurd rfl h⟩,rfl⟩
  ·simp [Value.cells] at hcs
   obtain⟨rfl,rfl,rfl⟩:=hcs
   simp only [Prod.mk.injEq] at hx
   simp only [if_true] at hz
   have hs:=sized_slice hsz (j:=0) (t:=29) (e:=5) rfl (by rw [hx.1];rfl) Tryz.underlying29
   rw [bytesU8] at hs
   simp only [lits,List.length_map,List.length_take,List.length_drop,reachBytes] at hs
   exact⟨_,zgp hl (by omega) hz hcell hwz⟩
 obtain⟨a1,len1,cap1,rfl⟩:=okWide_slice Tryz.underlying29 (hval 1 29 v1 rfl rfl)
 have k1:=h1
 have lt1:∀ x∈p1,x.block<W.heap.size:=by obtain⟨m,hm⟩:=k1;exact DataW.trod_lt m _ _ _ hm
 obtain⟨l1,w1,e1⟩:∃ l,Bs W a1 cap1 l/\l.length=len1:=by
  obtain⟨fuel,hf⟩:=h1
  rcases open_ints Tryz.underlying29 Tryz.underlying5 (by kernel_rfl) hf with ⟨hcs,_⟩ | ⟨x,l,c,zs,hcs,_,hl,hm,hz,hx,hcell,hwz⟩
  ·simp [Value.cells] at hcs
   obtain⟨rfl,rfl,rfl⟩:=hcs
   exact⟨[],⟨fun z hz=>(by cases hz),Nat.le_refl _,by decide,fun _=>rfl,fun h=>absurd rfl h⟩,rfl⟩
  ·simp [Value.cells] at hcs
   obtain⟨rfl,rfl,rfl⟩:=hcs
   simp only [Prod.mk.injEq] at hx
   simp only [if_true] at hz
   have hs:=sized_slice hsz (j:=1) (t:=29) (e:=5) rfl (by rw [hx.1];rfl) Tryz.underlying29
   rw [bytesU8] at hs
   simp only [lits,List.length_map,List.length_take,List.length_drop,reachBytes] at hs
   exact⟨_,zgp hl (by omega) hz hcell hwz⟩
 obtain⟨a2,rfl,rfl,rfl,w2⟩:=open_int Tryz.underlying3 (hval 2 3 v2 rfl rfl) h2
 clear hA0 hval0 hsz0 hsz
 subst e0
 subst e1
 refine(zi2 bq a0 cap0 l0 a1 cap1 l1 a2 W hg w0 w1).mono fun e W' ⟨he,bel⟩=>?_
 subst he
 exact⟨_,rfl,_,_,_,[],_,[],hW',trodAll_mk1 (shut_bool Tryz.underlying4 _),(trodAll_cons_mk (Below.trod laidOut (by kernel_rfl) (of_decide_eq_true (by kernel_rfl)) k0 bel lt0) (trodAll_cons_mk (Below.trod laidOut (by kernel_rfl) (of_decide_eq_true (by kernel_rfl)) k1 bel lt1) (trodAll_cons_mk (shut_int Tryz.underlying3 w2) trodAll_mk0))),rfl,bel.frame _,fun h=>by cases h⟩
end Go.Proofs.YtchmlnmhbfaclaaGreatDoor.runKeeps
