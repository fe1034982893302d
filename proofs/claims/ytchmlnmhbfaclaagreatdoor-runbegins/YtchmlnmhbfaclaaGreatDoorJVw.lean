/-
  Parts of the proofs, joined by program.
-/
import Derived.Test.YtchmlnmhbfaclaaGreatDoorJPh
import Derived.Test.YtchmlnmhbfaclaaGreatDoorJNum
import Derived.Test.YtchmlnmhbfaclaaGreatDoorJDev
import Derived.Deep.MidRow
import Derived.Deep.RegionLaw
import Derived.Deep.RegionHeld3
import Derived.Test.YtchmlnmhbfaclaaGreatDoorJPg
namespace Go.Proofs.YtchmlnmhbfaclaaGreatDoor
open Go.RowKit Go.MapKept Go.ChangeMaps
open Go.Maps (Keyed)
set_option linter.unusedVariables false
def VMem(w:World)(bm:Nat)(M:List (Nat×List Int)):Prop :=
 ∃ D,w.ownsMap Tryz.prog 3 zwt bm M.length D/\Maps.size D=M.length/\(M.map (·.1)).Nodup/\(∀ z:Int,Maps.has D (.int .i64 z)=true->0<=z) /\
  ∀ i:Nat,Maps.has D (.int .i64 i)=(M.lookup i).isSome/\∀ b,M.lookup i=some b->D.atKey (.int .i64 i) (sd (zerosB 32))=sd b
section
variable {w w':World} {bm:Nat} {M:List (Nat×List Int)}
theorem VMem.memAt(h:VMem w bm M):MemAt Tryz.prog 3 w bm M:=by
 obtain⟨D,h1,_,_,_,h2⟩:=h
 exact⟨D,h1,h2⟩
theorem VMem.lt(h:VMem w bm M):bm<w.heap.size:=h.memAt.lt
theorem VMem.same(h:VMem w bm M)(hs:w'.heap[bm]?=w.heap[bm]?):VMem w' bm M:=by
 obtain⟨D,⟨es,clock,hb,r⟩,h2⟩:=h
 exact⟨D,⟨es,clock,hs.trans hb,r⟩,h2⟩
theorem VMem.made(w:World):VMem (w.alloc (.map #[] 0)) w.heap.size [] :=
 ⟨.map [],World.ownsMap_made w _ _ _,rfl,List.nodup_nil,fun z hz=>(by cases hz),fun i=>⟨rfl,fun b hb=>by cases hb⟩⟩
theorem zsb:(Tryz.prog.info? 314).map (fun i=>(i.zero,i.size))=some (some (sv (zerosB 32)),32):=by kernel_rfl
theorem ZE:(Tryz.prog.info? 314).map (·.size)=some 32:=by kernel_rfl
theorem zpN(w:World):(zeroValue 314).run Tryz.prog w=.ok (sv (zerosB 32)) w:=(zero_of_info zsb).1 w
theorem VMem.look(h:VMem w bm M){i:Nat}(hi:i<300) :
  (Instr.lookup 315 (.map (some bm)) (.int .i64 i) true).run Tryz.prog w=.ok (.tuple #[sv (zh7 M i),.bool (M.lookup i).isSome]) w:=by
 have:=h.memAt.look (E:=314) Tryz.underlying3 Tryz.underlying315 (zpN w) true (i:=i) hi
 simpa using this
end
end Go.Proofs.YtchmlnmhbfaclaaGreatDoor
namespace Go.Proofs.YtchmlnmhbfaclaaGreatDoor
open Go.RowKit
set_option linter.unusedVariables false
structure Vw (w:World) (v q gk gm:Nat) (K:List (List Int)) (M:List (Nat×List Int)):Prop where
 blk:w.heap[v]?=some (.cells #[.pointer (some ⟨q,0,none⟩),.slice (some ⟨gk,0,none⟩) K.length K.length,.map (some gm)] 317 (0,0))
 kept:RowT w gk 314 K.flatten
 sec:∀ s∈K,Sec s
 len:K.length<=200
 mem:VMem w gm M
 memOk:∀ x∈M,x.1<K.length/\Sec x.2
 nvk:v≠gk
 nvm:v≠gm
 nkm:gk≠gm
def vRd(K:List (List Int))(M:List (Nat×List Int))(i:Nat):List Int:=(M.lookup i).getD (K.getD i [])
section
variable {w w':World} {v q gk gm:Nat} {K:List (List Int)} {M:List (Nat×List Int)}
theorem Vw.c1(h:Vw w v q gk gm K M):w.cell? ⟨v,1,none⟩=some (.slice (some ⟨gk,0,none⟩) K.length K.length):=by rw [cell_of_row w v 1 _ _ (0,0) h.blk];rfl
theorem Vw.c2(h:Vw w v q gk gm K M):w.cell? ⟨v,2,none⟩=some (.map (some gm)):=by rw [cell_of_row w v 2 _ _ (0,0) h.blk];rfl
theorem Vw.vlt(h:Vw w v q gk gm K M):v<w.heap.size:=(Array.getElem?_eq_some_iff.1 h.blk).1
theorem Vw.same(h:Vw w v q gk gm K M)(e1:w'.heap[v]?=w.heap[v]?)(e2:w'.heap[gk]?=w.heap[gk]?)(e3:w'.heap[gm]?=w.heap[gm]?):Vw w' v q gk gm K M :=
 ⟨e1.trans h.blk,h.kept.same e2,h.sec,h.len,h.mem.same e3,h.memOk,h.nvk,h.nvm,h.nkm⟩
theorem Vw.below(h:Vw w v q gk gm K M)(hb:Below w.heap.size w w'):Vw w' v q gk gm K M :=
 h.same (hb.block v h.vlt) (hb.block gk h.kept.lt) (hb.block gm h.mem.lt)
theorem Vw.secs32(h:Vw w v q gk gm K M):∀ s∈K,s.length=32:=fun s hs=>(h.sec s hs).1
theorem Vw.rdSec(h:Vw w v q gk gm K M){i:Nat}(hi:i<K.length):Sec (vRd K M i):=by
 unfold vRd
 cases e:M.lookup i with
 | none=>exact zU h.sec hi
 | some b=>exact(h.memOk _ (Qw e)).2
theorem zmv(h:Vw w v q gk gm K M) :
  Calls Tryz.prog 173 #[.pointer (some ⟨v,0,none⟩)] w fun e w'=>e=.returned (.int .i64 ((32 * K.length:Nat):Int))/\w=w':=by
 have c1:=h.c1
 have hl:=h.len
 clear h
 generalize K.length=L at *
 go_enter Tryz.func173,Tryz.ntmps173
 go_wp2
 go_ret
 exact⟨by rw [show((32 * L:Nat):Int)=(L:Int) * 32 by omega];first | rfl | go_num,rfl⟩
theorem zn0(x:Nat)(w:World)(hx:x<=1000000) :
  Calls Tryz.prog 216 #[.int .i64 (x:Int)] w fun e w'=>e=.returned (.tuple #[.int .i64 ((x / 32:Nat):Int),.int .i64 ((x % 32:Nat):Int)])/\w=w':=by
 have h1:(x:Int).tdiv 32=((x / 32:Nat):Int):=by
  rw [Int.tdiv_eq_ediv_of_nonneg (by omega)];omega
 have h2:(x:Int).tmod 32=((x % 32:Nat):Int):=by
  rw [Int.tmod_eq_emod_of_nonneg (by omega)];omega
 go_enter Tryz.func216,Tryz.ntmps216
 go_wp2
 go_ret2
 exact⟨by first | rfl | (congr 4 <;> omega) | (simp;omega),rfl⟩
theorem zmw(h:Vw w v q gk gm K M)(x n:Int)(hx:x<=9223372036854775807)(hn:n<=9223372036854775807) :
  Calls Tryz.prog 215 #[.pointer (some ⟨v,0,none⟩),.int .i64 x,.int .i64 n] w fun e w'=>e=.returned (.bool (decide (0<=x/\0<=n/\n<=(32 * K.length:Nat)-x)))/\w=w':=by
 have HL:=zb (zmv h)
 have hl:=h.len
 clear h
 generalize hLL:32 * K.length=L at *
 have hL2:(L:Int)<=6400:=by omega
 have hL3:(0:Int)<=(L:Int):=by omega
 clear hLL hl
 by_cases h0:0<=x
 ·by_cases h1:0<=n
  ·by_cases h2:n<=(L:Int)-x
   ·rw [decide_eq_true ⟨h0,h1,h2⟩]
    go_enter Tryz.func215,Tryz.ntmps215
    go_wp2_with fail
    refine(za HL).mono ?_
    rintro e w1 ⟨rfl,rfl⟩
    go_wp2
    go_ret
    exact⟨rfl,rfl⟩
   ·rw [decide_eq_false (fun hh=>h2 hh.2.2)]
    go_enter Tryz.func215,Tryz.ntmps215
    go_wp2_with fail
    refine(za HL).mono ?_
    rintro e w1 ⟨rfl,rfl⟩
    go_wp2
    go_ret
    exact⟨by show Ending.returned (Value.bool (decide (n<=(L:Int)-x)))=_;rw [decide_eq_false (by omega)],rfl⟩
  ·rw [decide_eq_false (fun hh=>h1 hh.2.1)]
   go_enter Tryz.func215,Tryz.ntmps215
   go_wp2
   go_ret
   exact⟨rfl,rfl⟩
 ·rw [decide_eq_false (fun hh=>h0 hh.1)]
  go_enter Tryz.func215,Tryz.ntmps215
  go_wp2
  go_ret
  exact⟨rfl,rfl⟩
end
section
variable {w w':World} {v q gk gm:Nat} {K:List (List Int)} {M:List (Nat×List Int)}
theorem zi8{w:World}{g:Nat}{z l:List Int}(hg:RowT w g 314 z)(hz:z.length=32)(hl:l.length=32) :
  (storeCells ⟨g,0,none⟩ (zl l).toList 0).run Tryz.prog w=.ok () (rowW w g l):=by
 have hi:(Tryz.prog.info? 314).map (·.size)=some (zl l).size:=by rw [zC,hl];exact ZE
 have:=run_storeVar_row (P:=Tryz.prog) w g 314 314 (zl z) (zl l) hg hi (by rw [zC,zC,hz,hl]) (Zv l)
 cases hq:Tryz.prog.info? 314 with
 | none=>simp [hq] at hi
 | some i =>
  have hs:(zl l).size=i.size:=by simp [hq] at hi;omega
  show _=Result.ok () (w.setRow g (zl l))
  simpa [storeVar,sizeOf,typeInfo,hq,Value.cells,hs] using this
def two(w:World)(x y:List Int):World:=(w.alloc (.cells (zl x) 314)).alloc (.cells (zl y) 314)
theorem zfi(w:World)(x y:List Int):Below w.heap.size w (two w x y):=((Below.refl _ _).alloc (Nat.le_refl _) _).alloc (by simp) _
theorem zhB(w:World)(x y:List Int):RowT (two w x y) w.heap.size 314 x:=by
 have h1:RowT (w.alloc (.cells (zl x) 314)) w.heap.size 314 x:=heap_alloc_new _ _
 exact h1.same (heap_alloc_old _ _ (by simp))
theorem zxt(w:World)(x y:List Int):RowT (two w x y) (w.heap.size+1) 314 y:=by
 have:=heap_alloc_new (w.alloc (.cells (zl x) 314)) (.cells (zl y) 314)
 rw [size_alloc] at this
 exact this
set_option maxRecDepth 100000 in
theorem zkQ(h:Vw w v q gk gm K M)(i:Nat)(hi:i<K.length)(b:List Int)(hb:M.lookup i=some b) :
  Calls Tryz.prog 217 #[.pointer (some ⟨v,0,none⟩),.int .i64 i] w fun e w'=>e=.returned (sv b)/\Below w.heap.size w w':=by
 have hL:=h.len
 have hbl:b.length=32:=(h.memOk _ (Qw hb)).2.1
 have hA:=h.below (w':=w.alloc (.cells #[.int .u8 0,.int .u8 0,.int .u8 0,.int .u8 0,.int .u8 0,.int .u8 0,.int .u8 0,.int .u8 0,.int .u8 0,.int .u8 0,.int .u8 0,.int .u8 0,.int .u8 0,.int .u8 0,.int .u8 0,.int .u8 0,.int .u8 0,.int .u8 0,.int .u8 0,.int .u8 0,.int .u8 0,.int .u8 0,.int .u8 0,.int .u8 0,.int .u8 0,.int .u8 0,.int .u8 0,.int .u8 0,.int .u8 0,.int .u8 0,.int .u8 0,.int .u8 0] 314)) ((Below.refl _ _).alloc (Nat.le_refl _) _)
 have hlook:=hA.mem.look (i:=i) (by omega)
 have hmv:zh7 M i=b:=by unfold zh7;rw [hb];rfl
 rw [hmv,hb] at hlook
 simp only [Option.isSome_some] at hlook
 unfold sv at hlook
 have c2:=hA.c2
 have hsz:(zl b).size=32:=by rw [zC];exact hbl
 have hst:(storeCells ⟨w.heap.size+1,0,none⟩ (zl b).toList 0).run Tryz.prog ((w.alloc (.cells #[.int .u8 0,.int .u8 0,.int .u8 0,.int .u8 0,.int .u8 0,.int .u8 0,.int .u8 0,.int .u8 0,.int .u8 0,.int .u8 0,.int .u8 0,.int .u8 0,.int .u8 0,.int .u8 0,.int .u8 0,.int .u8 0,.int .u8 0,.int .u8 0,.int .u8 0,.int .u8 0,.int .u8 0,.int .u8 0,.int .u8 0,.int .u8 0,.int .u8 0,.int .u8 0,.int .u8 0,.int .u8 0,.int .u8 0,.int .u8 0,.int .u8 0,.int .u8 0] 314)).alloc (.cells #[.int .u8 0,.int .u8 0,.int .u8 0,.int .u8 0,.int .u8 0,.int .u8 0,.int .u8 0,.int .u8 0,.int .u8 0,.int .u8 0,.int .u8 0,.int .u8 0,.int .u8 0,.int .u8 0,.int .u8 0,.int .u8 0,.int .u8 0,.int .u8 0,.int .u8 0,.int .u8 0,.int .u8 0,.int .u8 0,.int .u8 0,.int .u8 0,.int .u8 0,.int .u8 0,.int .u8 0,.int .u8 0,.int .u8 0,.int .u8 0,.int .u8 0,.int .u8 0] 314))=.ok () (two w (zerosB 32) b):=by
  have:=run_storeCells_new (P:=Tryz.prog) (w.alloc (.cells #[.int .u8 0,.int .u8 0,.int .u8 0,.int .u8 0,.int .u8 0,.int .u8 0,.int .u8 0,.int .u8 0,.int .u8 0,.int .u8 0,.int .u8 0,.int .u8 0,.int .u8 0,.int .u8 0,.int .u8 0,.int .u8 0,.int .u8 0,.int .u8 0,.int .u8 0,.int .u8 0,.int .u8 0,.int .u8 0,.int .u8 0,.int .u8 0,.int .u8 0,.int .u8 0,.int .u8 0,.int .u8 0,.int .u8 0,.int .u8 0,.int .u8 0,.int .u8 0] 314)) 314 #[.int .u8 0,.int .u8 0,.int .u8 0,.int .u8 0,.int .u8 0,.int .u8 0,.int .u8 0,.int .u8 0,.int .u8 0,.int .u8 0,.int .u8 0,.int .u8 0,.int .u8 0,.int .u8 0,.int .u8 0,.int .u8 0,.int .u8 0,.int .u8 0,.int .u8 0,.int .u8 0,.int .u8 0,.int .u8 0,.int .u8 0,.int .u8 0,.int .u8 0,.int .u8 0,.int .u8 0,.int .u8 0,.int .u8 0,.int .u8 0,.int .u8 0,.int .u8 0] (zl b) (by rw [hsz];exact ZE) (by rw [hsz];rfl) (Zv b)
  rw [size_alloc] at this
  exact this
 have HS:=zb (zxt w (zerosB 32) b)
 have hst2:=zi8 (zhB w (zerosB 32) b) (length_zerosB 32) hbl
 have HR:=zb ((zhB w (zerosB 32) b).set b)
 have HBEL:=zb (rowW_below b (zfi w (zerosB 32) b) (Nat.le_refl _))
 clear h hb hA hmv
 generalize two w (zerosB 32) b=W2 at *
 go_enter Tryz.func217,Tryz.ntmps217
 go_wp2_with (refine wpList_load_row rfl 314 (.tmp 5) rfl (w.heap.size+1) rfl 314 (zl b) (0,0) _ (za HS) Tryz.underlying314 rfl (by rw [hsz];exact ZE) ?_)
 refine bodyPost_ret (v:=sv b) (results_cell_row rfl _ _ w.heap.size 314 (zl b) (0,0) _ rfl (za HR) Tryz.underlying314 rfl (by rw [hsz];exact ZE)) rfl ⟨rfl,za HBEL⟩
set_option maxRecDepth 100000 in
theorem zn2(h:Vw w v q gk gm K M)(i:Nat)(hi:i<K.length)(hb:M.lookup i=none) :
  Calls Tryz.prog 217 #[.pointer (some ⟨v,0,none⟩),.int .i64 i] w fun e w'=>e=.returned (sv (K.getD i []))/\Below w.heap.size w w':=by
 have hL:=h.len
 obtain⟨b,hcd⟩:∃ b,K.getD i []=b:=⟨_,rfl⟩
 have hbs:Sec b:=by rw [<- hcd];exact zU h.sec hi
 have hbl:=hbs.1
 have hA:=h.below (w':=w.alloc (.cells #[.int .u8 0,.int .u8 0,.int .u8 0,.int .u8 0,.int .u8 0,.int .u8 0,.int .u8 0,.int .u8 0,.int .u8 0,.int .u8 0,.int .u8 0,.int .u8 0,.int .u8 0,.int .u8 0,.int .u8 0,.int .u8 0,.int .u8 0,.int .u8 0,.int .u8 0,.int .u8 0,.int .u8 0,.int .u8 0,.int .u8 0,.int .u8 0,.int .u8 0,.int .u8 0,.int .u8 0,.int .u8 0,.int .u8 0,.int .u8 0,.int .u8 0,.int .u8 0] 314)) ((Below.refl _ _).alloc (Nat.le_refl _) _)
 have hlook:=hA.mem.look (i:=i) (by omega)
 have hmv:zh7 M i=zerosB 32:=by unfold zh7;rw [hb];rfl
 rw [hmv,hb] at hlook
 simp only [Option.isSome_none] at hlook
 unfold sv at hlook
 have c2:=hA.c2
 have hsz:(zl b).size=32:=by rw [zC];exact hbl
 have hsz0:(zl (zerosB 32)).size=32:=by rw [zC];exact length_zerosB 32
 have hst:(storeCells ⟨w.heap.size+1,0,none⟩ (zl (zerosB 32)).toList 0).run Tryz.prog ((w.alloc (.cells #[.int .u8 0,.int .u8 0,.int .u8 0,.int .u8 0,.int .u8 0,.int .u8 0,.int .u8 0,.int .u8 0,.int .u8 0,.int .u8 0,.int .u8 0,.int .u8 0,.int .u8 0,.int .u8 0,.int .u8 0,.int .u8 0,.int .u8 0,.int .u8 0,.int .u8 0,.int .u8 0,.int .u8 0,.int .u8 0,.int .u8 0,.int .u8 0,.int .u8 0,.int .u8 0,.int .u8 0,.int .u8 0,.int .u8 0,.int .u8 0,.int .u8 0,.int .u8 0] 314)).alloc (.cells #[.int .u8 0,.int .u8 0,.int .u8 0,.int .u8 0,.int .u8 0,.int .u8 0,.int .u8 0,.int .u8 0,.int .u8 0,.int .u8 0,.int .u8 0,.int .u8 0,.int .u8 0,.int .u8 0,.int .u8 0,.int .u8 0,.int .u8 0,.int .u8 0,.int .u8 0,.int .u8 0,.int .u8 0,.int .u8 0,.int .u8 0,.int .u8 0,.int .u8 0,.int .u8 0,.int .u8 0,.int .u8 0,.int .u8 0,.int .u8 0,.int .u8 0,.int .u8 0] 314))=.ok () (two w (zerosB 32) (zerosB 32)):=by
  have:=run_storeCells_new (P:=Tryz.prog) (w.alloc (.cells #[.int .u8 0,.int .u8 0,.int .u8 0,.int .u8 0,.int .u8 0,.int .u8 0,.int .u8 0,.int .u8 0,.int .u8 0,.int .u8 0,.int .u8 0,.int .u8 0,.int .u8 0,.int .u8 0,.int .u8 0,.int .u8 0,.int .u8 0,.int .u8 0,.int .u8 0,.int .u8 0,.int .u8 0,.int .u8 0,.int .u8 0,.int .u8 0,.int .u8 0,.int .u8 0,.int .u8 0,.int .u8 0,.int .u8 0,.int .u8 0,.int .u8 0,.int .u8 0] 314)) 314 #[.int .u8 0,.int .u8 0,.int .u8 0,.int .u8 0,.int .u8 0,.int .u8 0,.int .u8 0,.int .u8 0,.int .u8 0,.int .u8 0,.int .u8 0,.int .u8 0,.int .u8 0,.int .u8 0,.int .u8 0,.int .u8 0,.int .u8 0,.int .u8 0,.int .u8 0,.int .u8 0,.int .u8 0,.int .u8 0,.int .u8 0,.int .u8 0,.int .u8 0,.int .u8 0,.int .u8 0,.int .u8 0,.int .u8 0,.int .u8 0,.int .u8 0,.int .u8 0] (zl (zerosB 32)) (by rw [hsz0];exact ZE) (by rw [hsz0];rfl) (Zv (zerosB 32))
  rw [size_alloc] at this
  exact this
 have h2:=h.below (zfi w (zerosB 32) (zerosB 32))
 have c1:=h2.c1
 have hrg:(two w (zerosB 32) (zerosB 32)).rangeAt gk (i * 32) (b.map (Value.int .u8)):=zjD (i * 32) b hbl h2.kept (by rw [zf5 _ _ h.secs32 hi,hcd])
 have hu:=Tryz.underlying314
 have hin:(Tryz.prog.info? 314).map (·.size)=some (b.map (Value.int .u8)).length:=by rw [List.length_map,hbl];exact ZE
 have hst2:(storeCells ⟨w.heap.size,0,none⟩ (b.map (Value.int .u8)) 0).run Tryz.prog (two w (zerosB 32) (zerosB 32))=_:=zi8 (zhB w (zerosB 32) (zerosB 32)) (length_zerosB 32) hbl
 have HR:=zb ((zhB w (zerosB 32) (zerosB 32)).set b)
 have HBEL:=zb (rowW_below b (zfi w (zerosB 32) (zerosB 32)) (Nat.le_refl _))
 rw [hcd]
 have e0:(i:Int)<(K.length:Int):=by omega
 have e1:(0:Int)<=(i:Int):=by omega
 clear h hb hA hmv h2 hcd hbs
 generalize zl (zerosB 32)=Z at *
 generalize two w (zerosB 32) (zerosB 32)=W2 at *
 go_enter Tryz.func217,Tryz.ntmps217
 go_wp2_with (refine wpList_load_mid rfl 314 (.tmp 23) rfl gk (i * 32) rfl (b.map (Value.int .u8)) _ hrg hu rfl hin ?_)
 refine bodyPost_ret (v:=sv b) (results_cell_row rfl _ _ w.heap.size 314 (zl b) (0,0) _ rfl (za HR) Tryz.underlying314 rfl (by rw [hsz];exact ZE)) rfl ⟨rfl,za HBEL⟩
theorem zpW(h:Vw w v q gk gm K M)(i:Nat)(hi:i<K.length) :
  Calls Tryz.prog 217 #[.pointer (some ⟨v,0,none⟩),.int .i64 i] w fun e w'=>e=.returned (sv (vRd K M i))/\Below w.heap.size w w':=by
 unfold vRd
 cases hc:M.lookup i with
 | none=>exact zn2 h i hi hc
 | some b=>exact zkQ h i hi b hc
end
theorem zjm{P:Program}(w:World)(dT sT ty:TypeId)(hu:P.underlying dT=some (.slice 5))(hsz:(P.info? 5).map (·.size)=some 1)
  {g t off dLen dCap:Nat} {sp:Option Addr} {sCap:Nat} {z l:List Int} (hne:l≠[]) (hz:off+dLen<=z.length) (hg:RowT w g t z) (hb:Bs w sp sCap l) :
  (Builtin.copy_ #[dT,sT] ty #[.slice (some ⟨g,off,none⟩) dLen dCap,.slice sp l.length sCap]).run P w=.ok (.int .i64 ((min dLen l.length:Nat):Int)) (rowW w g (splice z off (l.take dLen))):=by
 obtain⟨b,o2,rfl,hc⟩:=hb.2.2.2.2 hne
 have hrun:=run_copy_row (P:=P) w dT sT ty 5 g off dLen dCap ⟨b,o2,none⟩ l.length sCap _ t ((l.take dLen).map (Value.int .u8)) hu hsz hg (by simp;exact Nat.min_comm _ _) ?_ (by simp [zl];omega) (oneCell_u8 _)
 ·rw [hrun]
  simp [goInt,rowW,splice,zl]
 ·intro j v hj
  have hjl:j<(l.take dLen).length:=by
   rcases Nat.lt_or_ge j (l.take dLen).length with h1 | h1
   ·exact h1
   ·rw [List.getElem?_eq_none (by simpa using h1)] at hj;cases hj
  have hj2:j<l.length/\j<dLen:=by simp at hjl;omega
  have:=hc j hj2.1
  rw [List.getElem?_map,List.getElem?_take,if_pos hj2.2,List.getElem?_eq_getElem hj2.1] at hj
  simp only [Option.map_some,Option.some.injEq] at hj
  subst hj
  rw [addr_add,this,List.getD_eq_getElem?_getD,List.getElem?_eq_getElem hj2.1]
  rfl
theorem zv3{P:Program}{t:TypeId}(hu:P.underlying t=some (.slice 5))(hsz:(P.info? 5).map (·.size)=some 1)(g c n:Nat)(h:c<n)(hn:n<=140737488351232)(w':World) :
  (Instr.slice t (.slice (some ⟨g,0,none⟩) n n) (some (.int .i64 c)) none none).run P w'=.ok (.slice (some ⟨g,c,none⟩) (n-c) (n-c)) w':=by
 have he:=elem_u8 hu
 rw [run_slice_l (P:=P) (w:=w') t (some ⟨g,0,none⟩) n n (by rw [he];exact hu) .i64 c (by omega) (by omega),he,run_size_u8 w' hsz]
 simp only [Result.andThen,sliced,Addr.add]
 simp
 split <;> simp <;> omega
theorem zk1(a l:List Int)(k:Nat)(h:l.length<=k):splice (a++zerosB k) a.length l=(a++l)++zerosB (k-l.length):=by
 unfold splice
 rw [List.take_left,List.append_assoc]
 congr 2
 rw [List.drop_append,List.drop_of_length_le (by omega),List.nil_append]
 unfold zerosB
 rw [List.drop_replicate]
 congr 1
 omega
def zcl(K:List (List Int))(M:List (Nat×List Int))(x:Nat):Int:=(vRd K M (x / 32)).getD (x % 32) 0
def Qk(K:List (List Int))(M:List (Nat×List Int))(x n:Nat):List Int:=(List.range n).map (fun j=>zcl K M (x+j))
theorem ZV(K:List (List Int))(M:List (Nat×List Int))(x n:Nat):(Qk K M x n).length=n:=by unfold Qk;simp
theorem zn1(K:List (List Int))(M:List (Nat×List Int))(x n m:Nat):Qk K M x (n+m)=Qk K M x n++Qk K M (x+n) m:=by
 unfold Qk
 rw [List.range_add,List.map_append,List.map_map]
 congr 1
 apply List.map_congr_left
 intro j _
 show zcl K M (x+(n+j))=zcl K M (x+n+j)
 rw [Nat.add_assoc]
theorem zkP{K:List (List Int)}{M:List (Nat×List Int)}{y c:Nat}(hl:(vRd K M (y / 32)).length=32)(hc:c<=32-y % 32):((vRd K M (y / 32)).drop (y % 32)).take c=Qk K M y c:=by
 apply List.ext_getElem?
 intro j
 unfold Qk
 rw [List.getElem?_map,List.getElem?_take]
 by_cases hj:j<c
 ·rw [if_pos hj,List.getElem?_range hj,List.getElem?_drop]
  simp only [Option.map_some]
  unfold zcl
  have e1:(y+j) / 32=y / 32:=by omega
  have e2:(y+j) % 32=y % 32+j:=by omega
  rw [e1,e2,List.getD_eq_getElem?_getD,List.getElem?_eq_getElem (by omega)]
  rfl
 ·rw [if_neg hj,List.getElem?_eq_none (by simp;omega)]
  rfl
section
variable {w w':World} {v q gk gm:Nat} {K:List (List Int)} {M:List (Nat×List Int)}
set_option maxRecDepth 100000 in
set_option maxHeartbeats 4000000 in
theorem zpV(h:Vw w v q gk gm K M)(x n:Nat)(hx:x+n<=32 * K.length) :
  Calls Tryz.prog 172 #[.pointer (some ⟨v,0,none⟩),.int .i64 (x:Int),.int .i64 (n:Int)] w fun e w'=>∃ g,e=.returned (.tuple #[.slice (some ⟨g,0,none⟩) n n,.nilIface])/\w.heap.size<=g/\Blk w' g (Qk K M x n)/\Below w.heap.size w w':=by
 have hL:=h.len
 have hh:=zmw h x n (by omega) (by omega)
 rw [decide_eq_true (by omega)] at hh
 have HH:=zb hh
 have H:=zb h
 obtain⟨i0,hi0,hz0,hz1,hz2⟩:=info_parts qG
 clear h hh
 have hn6:n<=6400:=by omega
 go_enter Tryz.func172,Tryz.ntmps172
 go_wp2_with fail
 refine(za HH).mono ?_
 rintro e w1 ⟨rfl,rfl⟩
 go_wp2_with (at_make;refine wpList_make_u8 rfl _ _ 29 rfl i0 Tryz.underlying29 hi0 hz0 hz1 hz2 _ _ _ _ n rfl rfl rfl rfl (by omega) ?_)
 intro w1 hk1 hs1 hb1
 have HK1:=zb hk1
 have HB1:=zb hb1
 clear hk1 hb1 HH
 go_wp2_with fail
 go_loopw [9] (fun u wr=>∃ d:Nat,d<=n/\u=.int .i64 d/\Blk wr w.heap.size (Qk K M x d++zerosB (n-d))/\Below w.heap.size w wr) (fun u _=>n-(intOf u).toNat)
 case atStart=>exact⟨0,Nat.zero_le _,rfl,za HK1,za HB1⟩
 case round =>
  obtain⟨d,hd,rfl,hblk,hbel⟩:=hrel
  clear HK1 HB1
  by_cases hlt:d<n
  ·have hv:=(za H).below hbel
   have hpl:=zn0 (x+d) wr (by omega)
   rw [show((x+d:Nat):Int)=(x:Int)+(d:Int) by omega] at hpl
   have hbo:=zpW hv ((x+d) / 32) (by omega)
   have hsec:=hv.rdSec (i:=(x+d) / 32) (by omega)
   have hfr:(x+d) % 32<32:=Nat.mod_lt _ (by omega)
   obtain⟨c,hc⟩:∃ c,min (n-d) (32-(x+d) % 32)=c:=⟨_,rfl⟩
   have hc1:0<c/\c<=n-d/\c<=32-(x+d) % 32:=by omega
   have hpage:=zkP (K:=K) (M:=M) (y:=x+d) (c:=c) hsec.1 (by omega)
   have hadd:=zn1 K M x d c
   have htk:((vRd K M ((x+d) / 32)).drop ((x+d) % 32)).take (n-d)=((vRd K M ((x+d) / 32)).drop ((x+d) % 32)).take c:=by
    rcases Nat.le_total (n-d) (32-(x+d) % 32) with h1 | h1
    ·rw [show c=n-d by omega]
    ·rw [show c=32-(x+d) % 32 by omega,List.take_of_length_le (by simp [hsec.1];omega),List.take_of_length_le (by simp [hsec.1])]
   rw [hpage] at htk
   generalize hpg:(x+d) / 32=pg at *
   generalize hfm:(x+d) % 32=fr at *
   generalize hpb:vRd K M pg=pb at *
   unfold sv at hbo
   have HPL:=zb hpl
   have HBO:=zb hbo
   have HBLK:=zb hblk
   have HBEL:=zb hbel
   clear hv hpl hbo hblk hbel hpage
   go_wp2_with fail
   refine(za HPL).mono ?_
   rintro e w2 ⟨rfl,rfl⟩
   go_wp2_with fail
   refine(za HBO).mono ?_
   rintro e w2 ⟨rfl,hb2⟩
   have hst:(storeCells ⟨w2.heap.size,0,none⟩ (zl pb).toList 0).run Tryz.prog (w2.alloc (.cells #[.int .u8 0,.int .u8 0,.int .u8 0,.int .u8 0,.int .u8 0,.int .u8 0,.int .u8 0,.int .u8 0,.int .u8 0,.int .u8 0,.int .u8 0,.int .u8 0,.int .u8 0,.int .u8 0,.int .u8 0,.int .u8 0,.int .u8 0,.int .u8 0,.int .u8 0,.int .u8 0,.int .u8 0,.int .u8 0,.int .u8 0,.int .u8 0,.int .u8 0,.int .u8 0,.int .u8 0,.int .u8 0,.int .u8 0,.int .u8 0,.int .u8 0,.int .u8 0] 314))=.ok () (w2.alloc (.cells (zl pb) 314)) :=
    run_storeCells_new w2 314 #[.int .u8 0,.int .u8 0,.int .u8 0,.int .u8 0,.int .u8 0,.int .u8 0,.int .u8 0,.int .u8 0,.int .u8 0,.int .u8 0,.int .u8 0,.int .u8 0,.int .u8 0,.int .u8 0,.int .u8 0,.int .u8 0,.int .u8 0,.int .u8 0,.int .u8 0,.int .u8 0,.int .u8 0,.int .u8 0,.int .u8 0,.int .u8 0,.int .u8 0,.int .u8 0,.int .u8 0,.int .u8 0,.int .u8 0,.int .u8 0,.int .u8 0,.int .u8 0] (zl pb) (by rw [zC,hsec.1];exact ZE) (by rw [zC,hsec.1];rfl) (Zv pb)
   have hsz:(zl pb).size=32:=by rw [zC];exact hsec.1
   have hnew:RowT (w2.alloc (.cells (zl pb) 314)).drew w2.heap.size 314 pb:=heap_alloc_new _ _
   have hsrc:Bs (w2.alloc (.cells (zl pb) 314)).drew (some ⟨w2.heap.size,fr,none⟩) (32-fr) (pb.drop fr):=by
    have:=hnew.bs hsec.2 (by rw [hsec.1];decide) fr (32-fr) (32-fr) (by rw [hsec.1];omega) (Nat.le_refl _)
    rwa [List.take_of_length_le (by simp [hsec.1])] at this
   have hbA:Below wr.heap.size wr (w2.alloc (.cells (zl pb) 314)).drew:=(hb2.alloc hb2.size _).trans ⟨rfl,rfl,rfl,Nat.le_refl _,fun _ _=>rfl⟩
   have hbW:Below w.heap.size w (w2.alloc (.cells (zl pb) 314)).drew:=(za HBEL).trans (hbA.mono (za HBEL).size)
   have hdst:RowT (w2.alloc (.cells (zl pb) 314)).drew w.heap.size 5 (Qk K M x d++zerosB (n-d)):=(za HBLK).below hbA
   have hll:(pb.drop fr).length=32-fr:=by simp [hsec.1]
   have hcp:=zjm (P:=Tryz.prog) (w2.alloc (.cells (zl pb) 314)).drew 29 29 3 Tryz.underlying29 zx (off:=d) (dLen:=n-d) (dCap:=n-d) (by intro e;rw [e] at hll;simp at hll;omega) (by rw [List.length_append,ZV,length_zerosB];omega) hdst hsrc
   have hspl:splice (Qk K M x d++zerosB (n-d)) d ((pb.drop fr).take (n-d))=Qk K M x (d+c)++zerosB (n-(d+c)):=by
    have:=zk1 (Qk K M x d) (Qk K M (x+d) c) (n-d) (by rw [ZV];omega)
    rw [ZV,ZV] at this
    rw [htk,this,<- hadd,show n-d-c=n-(d+c) by omega]
   rw [hspl,hll,hc] at hcp
   have hif:(if 32=fr then (⟨w2.heap.size,0,none⟩:Addr) else ⟨w2.heap.size,fr,none⟩)=⟨w2.heap.size,fr,none⟩:=if_neg (by omega)
   rw [<- hif] at hcp
   have HWP:Hid (IntKind.i64.wrap ((d:Int)+(c:Int))=((d+c:Nat):Int)):=zb (by simp only [IntKind.wrap_i64];omega)
   have hcut:=fun w'=>zv3 (P:=Tryz.prog) (t:=29) Tryz.underlying29 zx w.heap.size d n hlt (by omega) w'
   have HCP:=zb hcp
   have HD2:=zb (rowW_blk hdst (Qk K M x (d+c)++zerosB (n-(d+c))))
   have HB2:=zb (rowW_below (Qk K M x (d+c)++zerosB (n-(d+c))) hbW (Nat.le_refl _))
   have e0:(0:Int)<=(fr:Int):=by omega
   have e1:(fr:Int)<=32:=by omega
   clear hnew hsrc hbA hbW hdst hcp hspl hb2 htk hadd hpb HPL HBO HBLK HBEL
   generalize hZZ:Qk K M x (d+c)++zerosB (n-(d+c))=ZZ at *
   have HZZ:=zb hZZ
   clear hZZ hif
   go_wp2_with fail
   go_region_law (refine zhE (by rfl) (.tmp 37) (.tmp 39) 29 29 (by rfl) (.slice (some ⟨w.heap.size,d,none⟩) (n-d) (n-d)) (.slice (some (if 32=fr then ⟨w2.heap.size,0,none⟩ else ⟨w2.heap.size,fr,none⟩)) (32-fr) (32-fr)) (by rfl) (by rfl) (.int .i64 c) (rowW (w2.alloc (.cells (zl pb) 314)).drew w.heap.size ZZ) (za HCP) ?_)
   go_wp2
   go_roundw
   case rel=>exact⟨d+c,by omega,by rw [za HWP],by rw [za HZZ];exact za HD2,za HB2⟩
   case measure=>rw [za HWP];simp [intOf];omega
  ·obtain rfl:d=n:=by omega
   rw [Nat.sub_self,show zerosB 0=[] from rfl,List.append_nil] at hblk
   have HBLK:=zb hblk
   have HBEL:=zb hbel
   clear hblk hbel
   go_wp2
   go_ret2
   exact⟨_,rfl,Nat.le_refl _,za HBLK,za HBEL⟩
end
section
variable {w w':World} {v q gk gm:Nat} {K:List (List Int)} {M:List (Nat×List Int)}
end
section
variable {w w':World} {v q gk gm:Nat} {K:List (List Int)} {M:List (Nat×List Int)}
end
def zal(D:DS)(L:Nat):List (List Int):=(List.range L).map (fun i=>D.rd (48+i))
theorem Zf(D:DS)(L:Nat):(zal D L).length=L:=by unfold zal;simp
theorem zlN(D:DS)(k:Nat):zal D (k+1)=zal D k++[D.rd (48+k)]:=by unfold zal;rw [List.range_succ,List.map_append];rfl
theorem zlO(D:DS){L i:Nat}(hi:i<L):(zal D L).getD i []=D.rd (48+i):=by
 unfold zal
 rw [List.getD_eq_getElem?_getD,List.getElem?_map,List.getElem?_range hi]
 rfl
def zc2(D:DS)(L k:Nat):List (List Int):=zal D k++List.replicate (L-k) (zerosB 32)
theorem zr5(D:DS){L k:Nat}(hk:k<L):(zc2 D L k).set k (D.rd (48+k))=zc2 D L (k+1):=by
 unfold zc2
 have e:L-k=(L-(k+1))+1:=by omega
 rw [e,List.replicate_succ,zlN,List.append_assoc,List.set_append]
 rw [Zf,if_neg (by omega),Nat.sub_self]
 rfl
theorem zj1{D:DS}(hok:D.Ok){L k:Nat}(hL:48+L<=D.secs.length)(hk:k<=L):∀ s∈zc2 D L k,Sec s:=by
 intro s hs
 unfold zc2 zal at hs
 rcases List.mem_append.1 hs with h | h
 ·obtain⟨i,hi,rfl⟩:=List.mem_map.1 h
  have:=List.mem_range.1 hi
  exact hok.rd (by omega)
 ·rw [(List.mem_replicate.1 h).2]
  exact za2
theorem zo6(D:DS)(L:Nat):(zc2 D L 0).flatten=zerosB (L * 32):=by
 unfold zc2 zal
 exact zhf L
theorem zb8(D:DS){L k:Nat}(hk:k<=L):(zc2 D L k).length=L:=by unfold zc2;rw [List.length_append,Zf,List.length_replicate];omega
theorem zo8:(Tryz.prog.info? 314).map (fun i=>(i.zero,i.size,i.bytes))=some (some (sv (zerosB 32)),32,32):=by kernel_rfl
section
variable {w:World} {p q:Nat} {S:Nat->Prop} {D:DS} {s:Int}
set_option maxRecDepth 100000 in
set_option maxHeartbeats 4000000 in
theorem ztN(h:Dev w p S D)(hq:PgAt w q p s){L:Nat}(hL:Zk D.secs.length=L)(hL1:L<=200)(hL2:48+L<=D.secs.length)(hd:D.down=false) :
  Calls Tryz.prog 171 #[.pointer (some ⟨q,0,none⟩)] w fun e w'=>∃ v gk gm,e=.returned (.tuple #[.pointer (some ⟨v,0,none⟩),.nilIface])/\Vw w' v q gk gm (zal D L) []/\w.heap.size<=gk/\w.heap.size<=gm/\w.heap.size<=v/\Below w.heap.size w w':=by
 have hln:=zhT h hq
 rw [hL] at hln
 have HLN:=zb hln
 have HOK:=zb h.ok
 have HRD:Hid (∀ (w1:World) (k:Nat),Below w.heap.size w w1->k<L->Calls Tryz.prog 214 #[.pointer (some ⟨q,0,none⟩),.int .i64 k] w1 fun e w'=>∃ g,e=.returned (.tuple #[.slice (some ⟨g,0,none⟩) 32 32,.nilIface])/\w1.heap.size<=g/\Blk w' g (D.rd (48+k))/\Below w1.heap.size w1 w') :=
  zb (fun w1 k hb hk=>zrh (h.below hb) (hq.below hb) k (decide_eq_true ⟨by omega,by rw [hL];omega⟩) hd)
 have hmm:=@run_makeMap Tryz.prog
 obtain⟨i0,hi0,hz0,hz1,hz2⟩:=info_parts zo8
 clear h hq hln
 go_enter Tryz.func171,Tryz.ntmps171
 go_wp2_with fail
 refine(za HLN).mono ?_
 rintro e w1 ⟨rfl,rfl⟩
 go_wp2_with (at_make;refine zbL rfl _ _ 312 314 rfl i0 Tryz.underlying312 hi0 hz0 hz1 hz2 _ _ _ _ L rfl rfl rfl rfl (by omega) ?_)
 go_loopw [13] (fun u wr=>∃ k:Nat,k<=L/\u=.int .i64 k/\RowT wr w.heap.size 314 (zc2 D L k).flatten/\Below w.heap.size w wr) (fun u _=>L-(intOf u).toNat)
 case atStart=>exact⟨0,Nat.zero_le _,rfl,by rw [zo6];exact zfw w _ _,(Below.refl _ _).alloc (Nat.le_refl _) _⟩
 case round =>
  obtain⟨k,hk,rfl,hrow,hbel⟩:=hrel
  by_cases hlt:k<L
  ·have HR:=zb (za HRD wr k hbel hlt)
   have HROW:=zb hrow
   have HBEL:=zb hbel
   have hsz:=hbel.size
   clear hrow hbel
   go_wp2_with fail
   refine(za HR).mono ?_
   rintro e w2 ⟨gr,rfl,hgr,hb2,hbel2⟩
   have hrow2:=(za HROW).same (hbel2.block w.heap.size (za HROW).lt)
   have hks:=zj1 (za HOK) hL2 hk
   have h32:∀ s∈zc2 D L k,s.length=32:=fun s hs=>(hks s hs).1
   have hsec:Sec (D.rd (48+k)):=(za HOK).rd (by omega)
   have hcp:=ZR (P:=Tryz.prog) w2 29 29 3 Tryz.underlying29 zx (dCap:=32) (off:=k * 32) (by rw [zek _ h32,zb8 D hk,hsec.1];omega) hrow2 (zdW hb2 hsec)
   rw [zc6 _ _ _ h32 (by rw [zb8 D hk];exact hlt) (by rw [hsec.1];exact Nat.le_refl _),hsec.1,List.drop_of_length_le (by rw [(zU hks (by rw [zb8 D hk];exact hlt)).1];exact Nat.le_refl _),List.append_nil,zr5 D hlt] at hcp
   have HR3:=zb (hrow2.set (zc2 D L (k+1)).flatten)
   have HB3:=zb (rowW_below (zc2 D L (k+1)).flatten ((za HBEL).trans (hbel2.mono hsz)) (Nat.le_refl _))
   have e0:(k:Int)<(L:Int):=by omega
   have e1:(0:Int)<=(k:Int):=by omega
   clear hb2 hbel2 hrow2 hks h32 hsec HROW HBEL HR
   go_wp2
   go_roundw
   case rel=>exact⟨k+1,by omega,by go_num,za HR3,za HB3⟩
   case measure=>simp [intOf];omega
  ·obtain rfl:k=L:=by omega
   have HROW:=zb hrow
   have HBEL:=zb hbel
   have hsz:=hbel.size
   have hlt2:=hrow.lt
   clear hrow hbel
   go_wp2
   go_ret2
   have hfin:=za HROW
   unfold zc2 at hfin
   rw [Nat.sub_self,List.replicate_zero,List.append_nil] at hfin
   refine⟨wr.heap.size+1,w.heap.size,wr.heap.size,rfl,?_,Nat.le_refl _,hsz,by omega,((za HBEL).alloc hsz _).alloc (by simp;omega) _⟩
   refine⟨?_,(hfin.same (heap_alloc_old _ _ hlt2)).same (heap_alloc_old _ _ (by simp;omega)),?_,by rw [Zf];exact hL1,(VMem.made wr).same (heap_alloc_old _ _ (by simp)),fun x hx=>(by cases hx),by omega,by omega,by omega⟩
   ·have:=heap_alloc_new (wr.alloc (.map #[] 0)) (.cells #[.pointer (some ⟨q,0,none⟩),.slice (some ⟨w.heap.size,0,none⟩) k k,.map (some wr.heap.size)] 317)
    rw [size_alloc] at this
    rw [Zf]
    exact this
   ·have:=zj1 (za HOK) hL2 (Nat.le_refl k)
    unfold zc2 at this
    rw [Nat.sub_self,List.replicate_zero,List.append_nil] at this
    exact this
end
end Go.Proofs.YtchmlnmhbfaclaaGreatDoor
