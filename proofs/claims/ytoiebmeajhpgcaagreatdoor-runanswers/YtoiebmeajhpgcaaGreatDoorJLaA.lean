import Derived.Test.YtoiebmeajhpgcaaGreatDoorRows
import Derived.Lay
import Derived.Stop.LaidErr
import Derived.Shelf.Vars
import Derived.Lib.LaidTab
import Derived.Deep.DeepHandedRow
import Derived.LaidHandle
import Derived.LaidLaws
import Derived.Test.YtoiebmeajhpgcaaGreatDoorJWalkRunAnswers
import Derived.ProofKit
import Derived.ShutString
import Derived.ChangeOld
import Derived.Below
import Derived.Test.YtoiebmeajhpgcaaGreatDoorCards
import Derived.Test.YtoiebmeajhpgcaaGreatDoorTie
import Derived.Deep.DeepWitnessRowRef
namespace Go.Proofs.YtoiebmeajhpgcaaGreatDoor
open Go.ChangeShapes Go.WideShapes Go.ChangeAt Go.RowKit Go.Shelf
set_option linter.unusedVariables false
def X6:List (String×DataW Unit):=Rows.runAnswersRow.laid
theorem zmW:Tryz.prog.globalNamed "errors.errorType" = some 1:=SQ
theorem zjw:(Tryz.prog.cutTypes.find? (·.1 == "internal/reflectlite.rtype")).map (·.2)=some 218:=SQ
theorem zmX:((List.range 480).filter fun t=>Tryz.prog.rowNamed t [101,114,114,111,114])=[35]:=SQ
theorem zjx:Tryz.prog.types.size=480:=SQ
theorem Nz{W:World}(h:laidMetH Tryz.prog X6 W):laidMet Tryz.prog [("math/bits.deBruijn32tab",Rows.laid_math_bits_deBruijn32tab),("math/bits.deBruijn64tab",Rows.laid_math_bits_deBruijn64tab),("internal/strconv.uint64pow10",Rows.laid_internal_strconv_uint64pow10),("unicode/utf8.acceptRanges",Rows.laid_unicode_utf8_acceptRanges),("strconv.ErrRange",Rows.laid_strconv_ErrRange),("strconv.ErrSyntax",Rows.laid_strconv_ErrSyntax),("vaultkeel/run.errBad",Rows.laid_vaultkeel_run_errBad),("unicode/utf8.first",Rows.laid_unicode_utf8_first)] W/\handlesMet Tryz.prog [("errors.errorType",Rows.laid_errors_errorType)] W:=h
theorem zf9{W:World}(h:laidMetH Tryz.prog X6 W):Q5 W:=by
 obtain⟨name,u,ty,e1,e2,e3,e4,e5⟩:=(Nz h).2 _ (List.mem_singleton.2 rfl);have en:name=[101,114,114,111,114]:=(zOi e1).symm;subst en;obtain rfl:=zOi (zjw.symm.trans e2);have hm:ty∈(List.range 480).filter fun t=>Tryz.prog.rowNamed t [101,114,114,111,114]:=qCS.2 ⟨qAw.2 (by rw [<- zjx];exact e3),e4⟩
 rw [zmX] at hm;obtain rfl:=zMs hm;have hh:typeHandle Tryz.prog 35=.pointer (some ⟨10,35,none⟩):=SQ
 rw [hh] at e5;unfold Q5;simpa using World.var?_cell zmW e5 0
theorem zbS : "*" ++ "errors.errorString" = "*errors.errorString" := by decide
theorem SF(u:TypeId)(h:Tryz.prog.typeName? 3 u=some "*errors.errorString"):u=424 :=typeName_ptr_named (nm := "errors.errorString") (by rw [zbS];kernel_rfl) SQ Si u (by rw [zbS];exact h)
theorem zjv{W:World}(h:laidMetH Tryz.prog X6 W)(hsh:W.ShapedOpen Tryz.prog):∃ b,sL W b:=by
 have hL:=(Nz h).1;obtain⟨a4,s4,v4,_⟩:=laid_sentinel (g:=6) (ti:=35) (tp:=424) (te:=426) (ts:=9) hL.tail.tail.tail.tail SQ SQ Tryz.underlying35 SF Tryz.underlying424 Tryz.underlying426 rfl rfl Tryz.underlying9 SQ SQ;obtain⟨a5,s5,v5,_⟩:=laid_sentinel (g:=5) (ti:=35) (tp:=424) (te:=426) (ts:=9) hL.tail.tail.tail.tail.tail SQ SQ Tryz.underlying35 SF Tryz.underlying424 Tryz.underlying426 rfl rfl Tryz.underlying9 SQ SQ;obtain⟨a6,s6,v6,_⟩:=laid_sentinel (g:=0) (ti:=35) (tp:=424) (te:=426) (ts:=9) hL.tail.tail.tail.tail.tail.tail SQ SQ Tryz.underlying35 SF Tryz.underlying424 Tryz.underlying426 rfl rfl Tryz.underlying9 SQ SQ;have c4:=World.var?_cell (g:=6) SQ v4 0;have c5:=World.var?_cell (g:=5) SQ v5 0;have c6:=World.var?_cell (g:=0) SQ v6 0;exact⟨a6,zf9 h,by unfold Q7;simpa using c6,
  cell_of_shapedOpen_int (P:=Tryz.prog) (g:=2) (t:=3) (zero:=#[zi 0]) hsh (qCr SQ) SQ rfl SQ SQ Tryz.underlying3,
  Go.Lib.tabIs_of_head (g:=7) (t:=414) (e:=353) SQ SQ Tryz.underlying414 Tryz.underlying353 SQ SQ hL.tail.tail,
  ⟨_,_,by simpa using c5⟩,⟨_,_,by simpa using c4⟩⟩
def vu:List (String×DataW Unit):=X6.filter fun x=>x.2.handleName?.isNone
theorem zju{w0:World}(args:Array Value)(hf:w0.layFits Tryz.prog vu []=true)(hi:w0.layIfaces Tryz.prog vu (w0.layVars Tryz.prog vu)=true)(hh:(X6.filter fun x=>x.2.handleName?.isSome).all (handleAtB Tryz.prog ((w0.layVars Tryz.prog vu).forCall (fun _ _=>0) ⟨#[],args,[]⟩).memory)=true) :
  laidMetH Tryz.prog X6 ((w0.layVars Tryz.prog vu).forCall (fun _ _=>0) ⟨#[],args,[]⟩).memory:=by
 refine laidMetH_of_parts ?_ hh
 show laidMet Tryz.prog vu _
 have e1:(vu.filter fun x=>(vu.map (·.1)).contains x.1)=vu:=List.filter_eq_self.2 fun x hx=>qDD.2 (qAT.2 ⟨x,hx,rfl⟩)
 have e2:(vu.filter fun x=>!(vu.map (·.1)).contains x.1)=[]:=List.filter_eq_nil_iff.2 fun x hx=>by rw [qDD.2 (qAT.2 ⟨x,hx,rfl⟩)];simp
 have h:laidMet Tryz.prog vu (w0.layVars Tryz.prog vu):=laidMet_layVars (w0:=w0) (vu.map (·.1)) [] (by rw [e1]) (by rw [e1];exact hf) (by rw [e1];exact hi) (by rw [e2];exact LaidIn.none);exact h.of_heap (by simp [World.memory,World.forCall,Input.heap])
end Go.Proofs.YtoiebmeajhpgcaaGreatDoor
namespace Go.Proofs.YtoiebmeajhpgcaaGreatDoor.runAnswers
open Go.ChangeShapes Go.WideShapes Go.ChangeAt Go.RowKit
open Go.ChangeMaps (open_string shut_string)
set_option linter.unusedVariables false
theorem own:ownKnob Tryz.prog.godebug=none:=SQ
theorem laid_met(os:Os):laidMetH Tryz.prog Rows.runAnswersRow.laid ((World.layVars Tryz.prog ({ World.holding Tryz.prog os ⟨#[],#[],[]⟩ with heap:=(World.holding Tryz.prog os ⟨#[],#[],[]⟩).heap.modify 1 fun | .cells _ t frozen=>.cells #[.iface 218 (.agg #[.pointer (some ⟨10,35,none⟩)])] t frozen | o=>o }:World) vu).forCall (fun _ _=>0) ⟨#[],#[.string ByteArray.empty],[]⟩).memory :=zju #[.string ByteArray.empty] SQ SQ SQ
theorem reads(os:Os){H:Type}(enc:TypeId×Value->H):∃ places,DataW.whole enc Tryz.prog ((World.layVars Tryz.prog ({ World.holding Tryz.prog os ⟨#[],#[],[]⟩ with heap:=(World.holding Tryz.prog os ⟨#[],#[],[]⟩).heap.modify 1 fun | .cells _ t frozen=>.cells #[.iface 218 (.agg #[.pointer (some ⟨10,35,none⟩)])] t frozen | o=>o }:World) vu).forCall (fun _ _=>0) ⟨#[],#[.string ByteArray.empty],[]⟩).memory Tryz.f3.params.toList Rows.runAnswersSpec.vars false #[.string ByteArray.empty].toList 8=some ([.lit (.string [])],[],places) :=⟨[],SQ⟩
set_option maxRecDepth 100000 in
theorem lifted(os:Os)(started:os.Started)(H:Type)(enc:TypeId×Value->H)(F:Stop.Interp) :
  ReturnsInHanded {} Tryz.checked os 3 .any ((OpenSpec.ofChange Rows.runAnswersSpec).preRow enc Tryz.prog Tryz.f3 Rows.runAnswersRow.domain false Rows.runAnswersRow.laid) (((OpenSpec.ofChange Rows.runAnswersSpec).at F).post enc Tryz.prog Tryz.f3 false true false false):=by
 obtain⟨places,hx⟩:=reads os enc;refine returnsInHanded_of_row (C:=Tryz.checked) (s:=OpenSpec.ofChange Rows.runAnswersSpec) own started SQ Tryz.func3
  (witness_row_atRef (enc:=enc) (C:=Tryz.checked) false (World.layVars Tryz.prog ({ World.holding Tryz.prog os ⟨#[],#[],[]⟩ with heap:=(World.holding Tryz.prog os ⟨#[],#[],[]⟩).heap.modify 1 fun | .cells _ t frozen=>.cells #[.iface 218 (.agg #[.pointer (some ⟨10,35,none⟩)])] t frozen | o=>o }:World) vu) #[.string ByteArray.empty] (World.layVars_os _ _ _) SQ SQ SQ
   (OpenSpec.preRow_of_cond 8 hx SQ (fun k hk=>by cases hk) SQ (laid_met os))) ?_
 intro W base args ds gs before hval0 hW0 _ _ TT hL hsh _;obtain⟨bq,hg⟩:=zjv hL hsh;have hW:DataW.Whole enc Tryz.prog Tryz.f3.params.toList Rows.runAnswersSpec.vars false W args.toList ds gs before:=hW0;have bW:(DataW.weightsEach Tryz.prog (Tryz.f3.params.toList++Rows.runAnswersSpec.plain.varTypes Tryz.prog) (ds++gs)).all (·<=reachBytes)=true:=TT
 show Calls Tryz.prog 3 args W fun e W'=>∃ v,e=.returned v/\Rows.runAnswersSpec.post enc Tryz.prog Tryz.f3 false true false false W args v W'
 have oZ:∀ (j:Nat) t v,Tryz.f3.params[j]?=some t->args[j]?=some v->Value.okWide Tryz.prog W .any base t v:=hval0;have hW':=hW;obtain⟨p,q,hA0,hV,rfl,oI,Zy⟩:=hW;have hA:DataW.TrodAll enc Tryz.prog W 0 (fun _=>true) true Tryz.f3.params.toList args.toList ds p:=hA0;rw [Tryz.params3] at hA oZ bW;obtain⟨v0,vs0,d0,uq,p0,q0,hargs,rfl,rfl,h0,r0⟩:=trodAll_cons hA;obtain⟨rfl,rfl,rfl⟩:=trodAll_nil r0;obtain rfl:args=#[v0]:=by cases args;simp_all
 obtain⟨rfl,rfl⟩:=trodVars_none hV;obtain⟨a0,rfl,rfl,rfl,w0⟩:=open_string Tryz.underlying9 (oZ 0 9 v0 rfl rfl) h0;have b0:a0.size<=140737488351232:=by have hs:=sized_string bW (j:=0) (t:=9) rfl rfl;simpa [reachBytes] using hs
 clear hA0 hval0 TT bW;refine(DN bq a0 W hg b0).mono fun e W' ⟨he,F7⟩=>?_
 subst he;exact⟨_,rfl,_,_,_,[],_,[],hW',trodAll_mk1 (shut_bool Tryz.underlying4 _),(trodAll_cons_mk (shut_string Tryz.underlying9 w0) trodAll_mk0),rfl,F7.frame _,fun h=>Um⟩
