/-
  What the laid variables hold, as package run reads them; a world in which they are laid. (Part of the proofs over package run.)
-/
import Derived.Test.YtchmlnmhbfaclaaGreatDoorRows
import Derived.Test.YtchmlnmhbfaclaaGreatDoorJRa
import Derived.Lay
import Derived.Stop.LaidErr
import Derived.Shelf.Vars
import Derived.Lib.LaidTab
import Derived.Deep.DeepHandedRow
import Derived.LaidHandle
import Derived.LaidLaws
namespace Go.Proofs.YtchmlnmhbfaclaaGreatDoor
open Go.ChangeShapes Go.WideShapes Go.ChangeAt Go.RowKit Go.Shelf
set_option linter.unusedVariables false
def zzC:List (String×DataW Unit):=Rows.runBeginsRow.laid
theorem zCR:Tryz.prog.globalNamed "errors.errorType" = some 1:=by kernel_rfl
theorem zAm:(Tryz.prog.cutTypes.find? (·.1 == "internal/reflectlite.rtype")).map (·.2)=some 220:=by kernel_rfl
theorem zCS:((List.range 482).filter fun t=>Tryz.prog.rowNamed t [101,114,114,111,114])=[39]:=by kernel_rfl
theorem zAn:Tryz.prog.types.size=482:=by kernel_rfl
theorem zmQ{W:World}(h:laidMetH Tryz.prog zzC W):laidMet Tryz.prog [("math/bits.deBruijn32tab",Rows.laid_math_bits_deBruijn32tab),("math/bits.deBruijn64tab",Rows.laid_math_bits_deBruijn64tab),("internal/strconv.uint64pow10",Rows.laid_internal_strconv_uint64pow10),("unicode/utf8.acceptRanges",Rows.laid_unicode_utf8_acceptRanges),("strconv.ErrRange",Rows.laid_strconv_ErrRange),("strconv.ErrSyntax",Rows.laid_strconv_ErrSyntax),("vaultkeel/run.errBad",Rows.laid_vaultkeel_run_errBad),("unicode/utf8.first",Rows.laid_unicode_utf8_first)] W/\handlesMet Tryz.prog [("errors.errorType",Rows.laid_errors_errorType)] W:=h
theorem zxW{W:World}(h:laidMetH Tryz.prog zzC W):ErrT W:=by
 obtain⟨name,u,ty,e1,e2,e3,e4,e5⟩:=(zmQ h).2 _ (List.mem_singleton.2 rfl)
 have en:name=[101,114,114,111,114]:=(Option.some.inj e1).symm
 subst en
 obtain rfl:=Option.some.inj (zAm.symm.trans e2)
 have hm:ty∈(List.range 482).filter fun t=>Tryz.prog.rowNamed t [101,114,114,111,114]:=List.mem_filter.2 ⟨List.mem_range.2 (by rw [<- zAn];exact e3),e4⟩
 rw [zCS] at hm
 obtain rfl:=List.mem_singleton.1 hm
 have hh:typeHandle Tryz.prog 39=.pointer (some ⟨10,39,none⟩):=by kernel_rfl
 rw [hh] at e5
 unfold ErrT
 simpa using World.var?_cell zCR e5 0
theorem zwB : "*" ++ "errors.errorString" = "*errors.errorString" := by decide
theorem zqU(u:TypeId)(h:Tryz.prog.typeName? 3 u=some "*errors.errorString"):u=426 :=
 typeName_ptr_named (nm := "errors.errorString") (by rw [zwB];kernel_rfl) (by kernel_rfl) (by decide) u (by rw [zwB];exact h)
theorem zwA{W:World}(h:laidMetH Tryz.prog zzC W)(hsh:W.ShapedOpen Tryz.prog):∃ b,RnW W b:=by
 have hL:=(zmQ h).1
 obtain⟨a4,s4,v4,_⟩:=laid_sentinel (g:=6) (ti:=39) (tp:=426) (te:=428) (ts:=9) hL.tail.tail.tail.tail (by kernel_rfl) (by kernel_rfl) Tryz.underlying39 zqU Tryz.underlying426 Tryz.underlying428 rfl rfl Tryz.underlying9 (by kernel_rfl) (by kernel_rfl)
 obtain⟨a5,s5,v5,_⟩:=laid_sentinel (g:=5) (ti:=39) (tp:=426) (te:=428) (ts:=9) hL.tail.tail.tail.tail.tail (by kernel_rfl) (by kernel_rfl) Tryz.underlying39 zqU Tryz.underlying426 Tryz.underlying428 rfl rfl Tryz.underlying9 (by kernel_rfl) (by kernel_rfl)
 obtain⟨a6,s6,v6,_⟩:=laid_sentinel (g:=0) (ti:=39) (tp:=426) (te:=428) (ts:=9) hL.tail.tail.tail.tail.tail.tail (by kernel_rfl) (by kernel_rfl) Tryz.underlying39 zqU Tryz.underlying426 Tryz.underlying428 rfl rfl Tryz.underlying9 (by kernel_rfl) (by kernel_rfl)
 have c4:=World.var?_cell (g:=6) (by kernel_rfl) v4 0
 have c5:=World.var?_cell (g:=5) (by kernel_rfl) v5 0
 have c6:=World.var?_cell (g:=0) (by kernel_rfl) v6 0
 exact⟨a6,zxW h,by unfold BdT;simpa using c6,
  cell_of_shapedOpen_int (P:=Tryz.prog) (g:=2) (t:=3) (zero:=#[.int .i64 0]) hsh (of_decide_eq_true (by kernel_rfl)) (by kernel_rfl) rfl (by kernel_rfl) (by kernel_rfl) Tryz.underlying3,
  Go.Lib.tabIs_of_head (g:=7) (t:=416) (e:=355) (by kernel_rfl) (by kernel_rfl) Tryz.underlying416 Tryz.underlying355 (by kernel_rfl) (by kernel_rfl) hL.tail.tail,
  ⟨_,_,by simpa using c5⟩,⟨_,_,by simpa using c4⟩⟩
def zgW:List (String×DataW Unit):=zzC.filter fun x=>x.2.handleName?.isNone
theorem zwz{w0:World}(args:Array Value)(hf:w0.layFits Tryz.prog zgW []=true)(hi:w0.layIfaces Tryz.prog zgW (w0.layVars Tryz.prog zgW)=true)(hh:(zzC.filter fun x=>x.2.handleName?.isSome).all (handleAtB Tryz.prog ((w0.layVars Tryz.prog zgW).forCall (fun _ _=>0) ⟨#[],args,[]⟩).memory)=true) :
  laidMetH Tryz.prog zzC ((w0.layVars Tryz.prog zgW).forCall (fun _ _=>0) ⟨#[],args,[]⟩).memory:=by
 refine laidMetH_of_parts ?_ hh
 show laidMet Tryz.prog zgW _
 have e1:(zgW.filter fun x=>(zgW.map (·.1)).contains x.1)=zgW:=List.filter_eq_self.2 fun x hx=>List.contains_iff_mem.2 (List.mem_map.2 ⟨x,hx,rfl⟩)
 have e2:(zgW.filter fun x=>!(zgW.map (·.1)).contains x.1)=[]:=List.filter_eq_nil_iff.2 fun x hx=>by rw [List.contains_iff_mem.2 (List.mem_map.2 ⟨x,hx,rfl⟩)];simp
 have h:laidMet Tryz.prog zgW (w0.layVars Tryz.prog zgW):=laidMet_layVars (w0:=w0) (zgW.map (·.1)) [] (by rw [e1]) (by rw [e1];exact hf) (by rw [e1];exact hi) (by rw [e2];exact LaidIn.none)
 exact h.of_heap (by simp [World.memory,World.forCall,Input.heap])
end Go.Proofs.YtchmlnmhbfaclaaGreatDoor
