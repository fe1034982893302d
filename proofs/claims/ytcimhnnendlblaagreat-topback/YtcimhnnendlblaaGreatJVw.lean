/-
  Parts of the proofs.
-/
import Derived.Test.YtcimhnnendlblaaGreatJPh
import Derived.Deep.MidRow
set_option maxRecDepth 100000
set_option maxHeartbeats 16000000
set_option linter.all false
namespace Go.Proofs.YtcimhnnendlblaaGreat
open Go.RowKit
section
open Go.MapKept
open Go.ChangeMaps
open Go.Maps (Keyed)
def lg(w:World)(bm:Nat)(M:List (Nat×List Int)):Prop :=
 ∃ D,w.ownsMap Tryz.prog 3 Ij bm M.length D/\Maps.size D=M.length/\(M.map (·.1)).Nodup/\(∀ z:Int,Maps.has D (.int .i64 z)=true->0<=z) /\
  ∀ i:Nat,Maps.has D (.int .i64 i)=(M.lookup i).isSome/\∀ b,M.lookup i=some b->D.atKey (.int .i64 i) (sd (ag 32))=sd b
section
variable {w w':World} {bm:Nat} {M:List (Nat×List Int)}
theorem lg.Pp(h:lg w bm M):im Tryz.prog 3 w bm M:=by obtain⟨D,h1,_,_,_,h2⟩:=h;exact⟨D,h1,h2⟩
theorem lg.lt(h:lg w bm M):bm<w.heap.size:=h.Pp.lt
theorem lg.same(h:lg w bm M)(hs:w'.heap[bm]?=w.heap[bm]?):lg w' bm M:=by obtain⟨D,⟨es,clock,hb,r⟩,h2⟩:=h;exact⟨D,⟨es,clock,hs.trans hb,r⟩,h2⟩
theorem lg.made(w:World):lg (w.alloc (.map #[] 0)) w.heap.size [] :=⟨.map [],World.ownsMap_made w _ _ _,rfl,List.nodup_nil,fun z hz=>(by cases hz),fun i=>⟨rfl,fun b hb=>by cases hb⟩⟩
theorem Sn:(Tryz.prog.info? 300).map (fun i=>(i.zero,i.size))=some (some (sv (ag 32)),32):=by kernel_rfl
theorem iW:(Tryz.prog.info? 300).map (·.size)=some 32:=by kernel_rfl
theorem QC(w:World):(zeroValue 300).run Tryz.prog w=.ok (sv (ag 32)) w:=(zero_of_info Sn).1 w
theorem lg.look(h:lg w bm M){i:Nat}(hi:i<300) :
  (Instr.lookup 301 (.map (some bm)) (.int .i64 i) true).run Tryz.prog w=.ok (.tuple #[sv (o7 M i),.bool (M.lookup i).isSome]) w:=by
 have:=h.Pp.look (E:=300) zu3 Tryz.underlying301 (QC w) true (i:=i) hi;simpa using this
end
end
structure Vw (w:World) (v q gk gm:Nat) (K:List (List Int)) (M:List (Nat×List Int)):Prop where
 lT:w.heap[v]?=some (.cells #[.pointer (some ⟨q,0,none⟩),.slice (some ⟨gk,0,none⟩) K.length K.length,.map (some gm)] 303 (0,0))
 kept:iR w gk 300 K.flatten
 sec:∀ s∈K,kS s
 len:K.length<=200
 mem:lg w gm M
 Wr:∀ x∈M,x.1<K.length/\kS x.2
 nvk:v≠gk
 nvm:v≠gm
 nkm:gk≠gm
def GI(K:List (List Int))(M:List (Nat×List Int))(i:Nat):List Int:=(M.lookup i).getD (K.getD i [])
section
variable {w w':World} {v q gk gm:Nat} {K:List (List Int)} {M:List (Nat×List Int)}
theorem Vw.c1(h:Vw w v q gk gm K M):w.cell? ⟨v,1,none⟩=some (.slice (some ⟨gk,0,none⟩) K.length K.length):=by rw [cell_of_row w v 1 _ _ (0,0) h.lT];rfl
theorem Vw.c2(h:Vw w v q gk gm K M):w.cell? ⟨v,2,none⟩=some (.map (some gm)):=by rw [cell_of_row w v 2 _ _ (0,0) h.lT];rfl
theorem Vw.vlt(h:Vw w v q gk gm K M):v<w.heap.size:=(zAg h.lT).1
theorem Vw.same(h:Vw w v q gk gm K M)(e1:w'.heap[v]?=w.heap[v]?)(e2:w'.heap[gk]?=w.heap[gk]?)(e3:w'.heap[gm]?=w.heap[gm]?):Vw w' v q gk gm K M :=⟨e1.trans h.lT,h.kept.same e2,h.sec,h.len,h.mem.same e3,h.Wr,h.nvk,h.nvm,h.nkm⟩
theorem Vw.below(h:Vw w v q gk gm K M)(hb:Below w.heap.size w w'):Vw w' v q gk gm K M :=h.same (hb.block v h.vlt) (hb.block gk h.kept.lt) (hb.block gm h.mem.lt)
theorem Vw.zdD(h:Vw w v q gk gm K M):∀ s∈K,s.length=32:=fun s hs=>(h.sec s hs).1
theorem Vw.zcD(h:Vw w v q gk gm K M){i:Nat}(hi:i<K.length):kS (GI K M i):=by
 unfold GI;cases e:M.lookup i with
 | none=>exact eE h.sec hi
 | some b=>exact(h.Wr _ (gw e)).2
theorem Hg(h:Vw w v q gk gm K M) :
  Calls Tryz.prog 196 #[.pointer (some ⟨v,0,none⟩)] w fun e w'=>e=.returned (.int .i64 ((32 * K.length:Nat):Int))/\w=w':=by
 have c1:=h.c1;have hl:=h.len;clear h;generalize K.length=L at *;go_enter Tryz.func196,Tryz.ntmps196
 go_wp2;go_ret;exact⟨by rw [show((32 * L:Nat):Int)=(L:Int) * 32 by omega];first | rfl | go_num,rfl⟩
theorem Ll(x:Nat)(w:World)(hx:x<=1000000) :
  Calls Tryz.prog 236 #[.int .i64 (x:Int)] w fun e w'=>e=.returned (.tuple #[.int .i64 ((x / 32:Nat):Int),.int .i64 ((x % 32:Nat):Int)])/\w=w':=by
 have h1:(x:Int).tdiv 32=((x / 32:Nat):Int):=by rw [Int.tdiv_eq_ediv_of_nonneg (by omega)];omega
 have h2:(x:Int).tmod 32=((x % 32:Nat):Int):=by rw [Int.tmod_eq_emod_of_nonneg (by omega)];omega
 go_enter Tryz.func236,Tryz.ntmps236
 go_wp2;go_ret2;exact⟨by first | rfl | (congr 4 <;> omega) | (simp;omega),rfl⟩
theorem Hh(h:Vw w v q gk gm K M)(x n:Int)(hx:x<=9223372036854775807)(hn:n<=9223372036854775807) :
  Calls Tryz.prog 235 #[.pointer (some ⟨v,0,none⟩),.int .i64 x,.int .i64 n] w fun e w'=>e=.returned (.bool (decide (0<=x/\0<=n/\n<=(32 * K.length:Nat)-x)))/\w=w':=by
 have HL:=af (Hg h);have hl:=h.len;clear h;generalize hLL:32 * K.length=L at *;have JX:(L:Int)<=6400:=by omega
 have hL3:(0:Int)<=(L:Int):=by omega
 clear hLL hl;by_cases h0:0<=x
 ·by_cases h1:0<=n
  ·by_cases h2:n<=(L:Int)-x
   ·rw [decide_eq_true ⟨h0,h1,h2⟩];go_enter Tryz.func235,Tryz.ntmps235
    go_wp2_with fail
    refine(ae HL).mono ?_;rintro e w1 ⟨rfl,rfl⟩;go_wp2;go_ret;exact⟨rfl,rfl⟩
   ·rw [decide_eq_false (fun hh=>h2 hh.2.2)];go_enter Tryz.func235,Tryz.ntmps235
    go_wp2_with fail
    refine(ae HL).mono ?_;rintro e w1 ⟨rfl,rfl⟩;go_wp2;go_ret;exact⟨by show Ending.returned (Value.bool (decide (n<=(L:Int)-x)))=_;rw [decide_eq_false (by omega)],rfl⟩
  ·rw [decide_eq_false (fun hh=>h1 hh.2.1)];go_enter Tryz.func235,Tryz.ntmps235
   go_wp2;go_ret;exact⟨rfl,rfl⟩
 ·rw [decide_eq_false (fun hh=>h0 hh.1)];go_enter Tryz.func235,Tryz.ntmps235
  go_wp2;go_ret;exact⟨rfl,rfl⟩
end
section
variable {w w':World} {v q gk gm:Nat} {K:List (List Int)} {M:List (Nat×List Int)}
theorem CP{w:World}{g:Nat}{z l:List Int}(hg:iR w g 300 z)(hz:z.length=32)(hl:l.length=32) :
  (storeCells ⟨g,0,none⟩ (aI l).toList 0).run Tryz.prog w=.ok () (ei w g l):=by
 have hi:(Tryz.prog.info? 300).map (·.size)=some (aI l).size:=by rw [bJ,hl];exact iW
 have:=run_storeVar_row (P:=Tryz.prog) w g 300 300 (aI z) (aI l) hg hi (by rw [bJ,bJ,hz,hl]) (jd l);cases hq:Tryz.prog.info? 300 with
 | none=>simp [hq] at hi
 | some i =>
  have hs:(aI l).size=i.size:=by simp [hq] at hi;omega
  show _=Result.ok () (w.setRow g (aI l))
  simpa [storeVar,sizeOf,typeInfo,hq,Value.cells,hs] using this
def two(w:World)(x y:List Int):World:=(w.alloc (.cells (aI x) 300)).alloc (.cells (aI y) 300)
theorem vK(w:World)(x y:List Int):Below w.heap.size w (two w x y):=(zBr.alloc zNr _).alloc (by simp) _
theorem yX(w:World)(x y:List Int):iR (two w x y) w.heap.size 300 x:=by have h1:iR (w.alloc (.cells (aI x) 300)) w.heap.size 300 x:=heap_alloc_new _ _;exact h1.same (heap_alloc_old _ _ (by simp))
theorem zao(w:World)(x y:List Int):iR (two w x y) (w.heap.size+1) 300 y:=by have:=heap_alloc_new (w.alloc (.cells (aI x) 300)) (.cells (aI y) 300);rw [size_alloc] at this;exact this
theorem Hj(h:Vw w v q gk gm K M)(i:Nat)(hi:i<K.length)(b:List Int)(hb:M.lookup i=some b) :
  Calls Tryz.prog 237 #[.pointer (some ⟨v,0,none⟩),.int .i64 i] w fun e w'=>e=.returned (sv b)/\Below w.heap.size w w':=by
 have hL:=h.len;have iq:b.length=32:=(h.Wr _ (gw hb)).2.1;have hA:=h.below (w':=w.alloc (.cells #[.int .u8 0,.int .u8 0,.int .u8 0,.int .u8 0,.int .u8 0,.int .u8 0,.int .u8 0,.int .u8 0,.int .u8 0,.int .u8 0,.int .u8 0,.int .u8 0,.int .u8 0,.int .u8 0,.int .u8 0,.int .u8 0,.int .u8 0,.int .u8 0,.int .u8 0,.int .u8 0,.int .u8 0,.int .u8 0,.int .u8 0,.int .u8 0,.int .u8 0,.int .u8 0,.int .u8 0,.int .u8 0,.int .u8 0,.int .u8 0,.int .u8 0,.int .u8 0] 300)) (zBr.alloc zNr _);have bX:=hA.mem.look (i:=i) (by omega);have AG:o7 M i=b:=by unfold o7;rw [hb];rfl
 rw [AG,hb] at bX;simp only [Option.isSome_some] at bX;unfold sv at bX;have c2:=hA.c2;have cL:(aI b).size=32:=by rw [bJ];exact iq
 have jw:(storeCells ⟨w.heap.size+1,0,none⟩ (aI b).toList 0).run Tryz.prog ((w.alloc (.cells #[.int .u8 0,.int .u8 0,.int .u8 0,.int .u8 0,.int .u8 0,.int .u8 0,.int .u8 0,.int .u8 0,.int .u8 0,.int .u8 0,.int .u8 0,.int .u8 0,.int .u8 0,.int .u8 0,.int .u8 0,.int .u8 0,.int .u8 0,.int .u8 0,.int .u8 0,.int .u8 0,.int .u8 0,.int .u8 0,.int .u8 0,.int .u8 0,.int .u8 0,.int .u8 0,.int .u8 0,.int .u8 0,.int .u8 0,.int .u8 0,.int .u8 0,.int .u8 0] 300)).alloc (.cells #[.int .u8 0,.int .u8 0,.int .u8 0,.int .u8 0,.int .u8 0,.int .u8 0,.int .u8 0,.int .u8 0,.int .u8 0,.int .u8 0,.int .u8 0,.int .u8 0,.int .u8 0,.int .u8 0,.int .u8 0,.int .u8 0,.int .u8 0,.int .u8 0,.int .u8 0,.int .u8 0,.int .u8 0,.int .u8 0,.int .u8 0,.int .u8 0,.int .u8 0,.int .u8 0,.int .u8 0,.int .u8 0,.int .u8 0,.int .u8 0,.int .u8 0,.int .u8 0] 300))=.ok () (two w (ag 32) b):=by have:=run_storeCells_new (P:=Tryz.prog) (w.alloc (.cells #[.int .u8 0,.int .u8 0,.int .u8 0,.int .u8 0,.int .u8 0,.int .u8 0,.int .u8 0,.int .u8 0,.int .u8 0,.int .u8 0,.int .u8 0,.int .u8 0,.int .u8 0,.int .u8 0,.int .u8 0,.int .u8 0,.int .u8 0,.int .u8 0,.int .u8 0,.int .u8 0,.int .u8 0,.int .u8 0,.int .u8 0,.int .u8 0,.int .u8 0,.int .u8 0,.int .u8 0,.int .u8 0,.int .u8 0,.int .u8 0,.int .u8 0,.int .u8 0] 300)) 300 #[.int .u8 0,.int .u8 0,.int .u8 0,.int .u8 0,.int .u8 0,.int .u8 0,.int .u8 0,.int .u8 0,.int .u8 0,.int .u8 0,.int .u8 0,.int .u8 0,.int .u8 0,.int .u8 0,.int .u8 0,.int .u8 0,.int .u8 0,.int .u8 0,.int .u8 0,.int .u8 0,.int .u8 0,.int .u8 0,.int .u8 0,.int .u8 0,.int .u8 0,.int .u8 0,.int .u8 0,.int .u8 0,.int .u8 0,.int .u8 0,.int .u8 0,.int .u8 0] (aI b) (by rw [cL];exact iW) (by rw [cL];rfl) (jd b);rw [size_alloc] at this;exact this
 have HS:=af (zao w (ag 32) b);have F3:=CP (yX w (ag 32) b) (aj 32) iq;have HR:=af ((yX w (ag 32) b).set b);have aQ:=af (dW b (vK w (ag 32) b) zNr);clear h hb hA AG;generalize two w (ag 32) b=W2 at *;go_enter Tryz.func237,Tryz.ntmps237
 go_wp2_with (refine wpList_load_row rfl 300 (.tmp 5) rfl (w.heap.size+1) rfl 300 (aI b) (0,0) _ (ae HS) Tryz.underlying300 rfl (by rw [cL];exact iW) ?_)
 refine bodyPost_ret (v:=sv b) (results_cell_row rfl _ _ w.heap.size 300 (aI b) (0,0) _ rfl (ae HR) Tryz.underlying300 rfl (by rw [cL];exact iW)) rfl ⟨rfl,ae aQ⟩
theorem Lo(h:Vw w v q gk gm K M)(i:Nat)(hi:i<K.length)(hb:M.lookup i=none) :
  Calls Tryz.prog 237 #[.pointer (some ⟨v,0,none⟩),.int .i64 i] w fun e w'=>e=.returned (sv (K.getD i []))/\Below w.heap.size w w':=by
 have hL:=h.len;obtain⟨b,K6⟩:∃ b,K.getD i []=b:=⟨_,rfl⟩;have aX:kS b:=by rw [<- K6];exact eE h.sec hi
 have iq:=aX.1;have hA:=h.below (w':=w.alloc (.cells #[.int .u8 0,.int .u8 0,.int .u8 0,.int .u8 0,.int .u8 0,.int .u8 0,.int .u8 0,.int .u8 0,.int .u8 0,.int .u8 0,.int .u8 0,.int .u8 0,.int .u8 0,.int .u8 0,.int .u8 0,.int .u8 0,.int .u8 0,.int .u8 0,.int .u8 0,.int .u8 0,.int .u8 0,.int .u8 0,.int .u8 0,.int .u8 0,.int .u8 0,.int .u8 0,.int .u8 0,.int .u8 0,.int .u8 0,.int .u8 0,.int .u8 0,.int .u8 0] 300)) (zBr.alloc zNr _);have bX:=hA.mem.look (i:=i) (by omega);have AG:o7 M i=ag 32:=by unfold o7;rw [hb];rfl
 rw [AG,hb] at bX;simp only [Option.isSome_none] at bX;unfold sv at bX;have c2:=hA.c2;have cL:(aI b).size=32:=by rw [bJ];exact iq
 have Sx:(aI (ag 32)).size=32:=by rw [bJ];exact aj 32
 have jw:(storeCells ⟨w.heap.size+1,0,none⟩ (aI (ag 32)).toList 0).run Tryz.prog ((w.alloc (.cells #[.int .u8 0,.int .u8 0,.int .u8 0,.int .u8 0,.int .u8 0,.int .u8 0,.int .u8 0,.int .u8 0,.int .u8 0,.int .u8 0,.int .u8 0,.int .u8 0,.int .u8 0,.int .u8 0,.int .u8 0,.int .u8 0,.int .u8 0,.int .u8 0,.int .u8 0,.int .u8 0,.int .u8 0,.int .u8 0,.int .u8 0,.int .u8 0,.int .u8 0,.int .u8 0,.int .u8 0,.int .u8 0,.int .u8 0,.int .u8 0,.int .u8 0,.int .u8 0] 300)).alloc (.cells #[.int .u8 0,.int .u8 0,.int .u8 0,.int .u8 0,.int .u8 0,.int .u8 0,.int .u8 0,.int .u8 0,.int .u8 0,.int .u8 0,.int .u8 0,.int .u8 0,.int .u8 0,.int .u8 0,.int .u8 0,.int .u8 0,.int .u8 0,.int .u8 0,.int .u8 0,.int .u8 0,.int .u8 0,.int .u8 0,.int .u8 0,.int .u8 0,.int .u8 0,.int .u8 0,.int .u8 0,.int .u8 0,.int .u8 0,.int .u8 0,.int .u8 0,.int .u8 0] 300))=.ok () (two w (ag 32) (ag 32)):=by have:=run_storeCells_new (P:=Tryz.prog) (w.alloc (.cells #[.int .u8 0,.int .u8 0,.int .u8 0,.int .u8 0,.int .u8 0,.int .u8 0,.int .u8 0,.int .u8 0,.int .u8 0,.int .u8 0,.int .u8 0,.int .u8 0,.int .u8 0,.int .u8 0,.int .u8 0,.int .u8 0,.int .u8 0,.int .u8 0,.int .u8 0,.int .u8 0,.int .u8 0,.int .u8 0,.int .u8 0,.int .u8 0,.int .u8 0,.int .u8 0,.int .u8 0,.int .u8 0,.int .u8 0,.int .u8 0,.int .u8 0,.int .u8 0] 300)) 300 #[.int .u8 0,.int .u8 0,.int .u8 0,.int .u8 0,.int .u8 0,.int .u8 0,.int .u8 0,.int .u8 0,.int .u8 0,.int .u8 0,.int .u8 0,.int .u8 0,.int .u8 0,.int .u8 0,.int .u8 0,.int .u8 0,.int .u8 0,.int .u8 0,.int .u8 0,.int .u8 0,.int .u8 0,.int .u8 0,.int .u8 0,.int .u8 0,.int .u8 0,.int .u8 0,.int .u8 0,.int .u8 0,.int .u8 0,.int .u8 0,.int .u8 0,.int .u8 0] (aI (ag 32)) (by rw [Sx];exact iW) (by rw [Sx];rfl) (jd (ag 32));rw [size_alloc] at this;exact this
 have h2:=h.below (vK w (ag 32) (ag 32));have c1:=h2.c1;have PE:(two w (ag 32) (ag 32)).rangeAt gk (i * 32) (b.map (Value.int .u8)):=C8 (i * 32) b iq h2.kept (by rw [wS _ _ h.zdD hi,K6]);have hu:=Tryz.underlying300;have eQ:(Tryz.prog.info? 300).map (·.size)=some (b.map (Value.int .u8)).length:=by rw [zLm,iq];exact iW
 have F3:(storeCells ⟨w.heap.size,0,none⟩ (b.map (Value.int .u8)) 0).run Tryz.prog (two w (ag 32) (ag 32))=_:=CP (yX w (ag 32) (ag 32)) (aj 32) iq;have HR:=af ((yX w (ag 32) (ag 32)).set b);have aQ:=af (dW b (vK w (ag 32) (ag 32)) zNr);rw [K6];have e0:(i:Int)<(K.length:Int):=by omega
 have e1:(0:Int)<=(i:Int):=by omega
 clear h hb hA AG h2 K6 aX;generalize aI (ag 32)=Z at *;generalize two w (ag 32) (ag 32)=W2 at *;go_enter Tryz.func237,Tryz.ntmps237
 go_wp2_with (refine wpList_load_mid rfl 300 (.tmp 23) rfl gk (i * 32) rfl (b.map (Value.int .u8)) _ PE hu rfl eQ ?_)
 refine bodyPost_ret (v:=sv b) (results_cell_row rfl _ _ w.heap.size 300 (aI b) (0,0) _ rfl (ae HR) Tryz.underlying300 rfl (by rw [cL];exact iW)) rfl ⟨rfl,ae aQ⟩
theorem QM(h:Vw w v q gk gm K M)(i:Nat)(hi:i<K.length) :
  Calls Tryz.prog 237 #[.pointer (some ⟨v,0,none⟩),.int .i64 i] w fun e w'=>e=.returned (sv (GI K M i))/\Below w.heap.size w w':=by
 unfold GI;cases hc:M.lookup i with
 | none=>exact Lo h i hi hc
 | some b=>exact Hj h i hi b hc
end
theorem Fs{P:Program}(w:World)(dT sT ty:TypeId)(hu:P.underlying dT=some (.slice 5))(cL:(P.info? 5).map (·.size)=some 1)
  {g t off dLen dCap:Nat} {sp:Option Addr} {sCap:Nat} {z l:List Int} (aO:l≠[]) (hz:off+dLen<=z.length) (hg:iR w g t z) (hb:Bs w sp sCap l) :
  (Builtin.copy_ #[dT,sT] ty #[.slice (some ⟨g,off,none⟩) dLen dCap,.slice sp l.length sCap]).run P w=.ok (.int .i64 ((min dLen l.length:Nat):Int)) (ei w g (splice z off (l.take dLen))):=by
 obtain⟨b,o2,rfl,hc⟩:=hb.2.2.2.2 aO;have bw:=run_copy_row (P:=P) w dT sT ty 5 g off dLen dCap ⟨b,o2,none⟩ l.length sCap _ t ((l.take dLen).map (Value.int .u8)) hu cL hg (by simp;exact Nat.min_comm _ _) ?_ (by simp [aI];omega) (dE _)
 ·rw [bw];simp [goInt,ei,splice,aI]
 ·intro j v hj;have mG:j<(l.take dLen).length:=by
   rcases Nat.lt_or_ge j (l.take dLen).length with h1 | h1
   ·exact h1
   ·rw [List.getElem?_eq_none (by simpa using h1)] at hj;cases hj
  have Ch:j<l.length/\j<dLen:=by simp at mG;omega
  have:=hc j Ch.1;rw [List.getElem?_map,List.getElem?_take,if_pos Ch.2,zLg Ch.1] at hj;simp only [Option.map_some,Option.some.injEq] at hj;subst hj;rw [addr_add,this,List.getD_eq_getElem?_getD,zLg Ch.1];rfl
theorem YN{P:Program}{t:TypeId}(hu:P.underlying t=some (.slice 5))(cL:(P.info? 5).map (·.size)=some 1)(g c n:Nat)(h:c<n)(hn:n<=140737488351232)(w':World) :
  (Instr.slice t (.slice (some ⟨g,0,none⟩) n n) (some (.int .i64 c)) none none).run P w'=.ok (.slice (some ⟨g,c,none⟩) (n-c) (n-c)) w':=by
 have he:=kx hu;rw [run_slice_l (P:=P) (w:=w') t (some ⟨g,0,none⟩) n n (by rw [he];exact hu) .i64 c (by omega) (by omega),he,eK w' cL];simp only [Result.andThen,sliced,Addr.add];simp;split <;> simp <;> omega
theorem H7(a l:List Int)(k:Nat)(h:l.length<=k):splice (a++ag k) a.length l=(a++l)++ag (k-l.length):=by
 unfold splice;rw [List.take_left,List.append_assoc]
 congr 2
 rw [List.drop_append,List.drop_of_length_le (by omega),List.nil_append];unfold ag;rw [List.drop_replicate]
 congr 1
 omega
def mz(K:List (List Int))(M:List (Nat×List Int))(x:Nat):Int:=(GI K M (x / 32)).getD (x % 32) 0
def eR(K:List (List Int))(M:List (Nat×List Int))(x n:Nat):List Int:=(List.range n).map (fun j=>mz K M (x+j))
theorem kr(K:List (List Int))(M:List (Nat×List Int))(x n:Nat):(eR K M x n).length=n:=by unfold eR;simp
theorem Ln(K:List (List Int))(M:List (Nat×List Int))(x n m:Nat):eR K M x (n+m)=eR K M x n++eR K M (x+n) m:=by
 unfold eR;rw [List.range_add,List.map_append,List.map_map]
 congr 1
 apply List.map_congr_left;intro j _
 show mz K M (x+(n+j))=mz K M (x+n+j)
 rw [Nat.add_assoc]
theorem Hi{K:List (List Int)}{M:List (Nat×List Int)}{y c:Nat}(hl:(GI K M (y / 32)).length=32)(hc:c<=32-y % 32):((GI K M (y / 32)).drop (y % 32)).take c=eR K M y c:=by
 apply List.ext_getElem?;intro j;unfold eR;rw [List.getElem?_map,List.getElem?_take];by_cases hj:j<c
 ·rw [if_pos hj,List.getElem?_range hj,List.getElem?_drop];simp only [Option.map_some];unfold mz;have e1:(y+j) / 32=y / 32:=by omega
  have e2:(y+j) % 32=y % 32+j:=by omega
  rw [e1,e2,List.getD_eq_getElem?_getD,zLg (by omega)];rfl
 ·rw [if_neg hj,List.getElem?_eq_none (by simp;omega)];rfl
section
variable {w w':World} {v q gk gm:Nat} {K:List (List Int)} {M:List (Nat×List Int)}
theorem QL(h:Vw w v q gk gm K M)(x n:Nat)(hx:x+n<=32 * K.length) :
  Calls Tryz.prog 195 #[.pointer (some ⟨v,0,none⟩),.int .i64 (x:Int),.int .i64 (n:Int)] w fun e w'=>∃ g,e=.returned (.tuple #[.slice (some ⟨g,0,none⟩) n n,.nilIface])/\w.heap.size<=g/\fH w' g (eR K M x n)/\Below w.heap.size w w':=by
 have hL:=h.len;have hh:=Hh h x n (by omega) (by omega);rw [decide_eq_true (by omega)] at hh;have HH:=af hh;have H:=af h;obtain⟨i0,eP,cY,dw,dz⟩:=info_parts dQ;clear h hh;have hn6:n<=6400:=by omega
 go_enter Tryz.func195,Tryz.ntmps195
 go_wp2_with fail
 refine(ae HH).mono ?_;rintro e w1 ⟨rfl,rfl⟩;go_wp2_with (at_make;refine bE rfl _ _ 30 rfl i0 zu30 eP cY dw dz _ _ _ _ n rfl rfl rfl rfl (by omega) ?_)
 intro w1 wJ gP ay;have GC:=af wJ;have aL:=af ay;clear wJ ay HH;go_wp2_with fail
 go_loopw [9] (fun u wr=>∃ d:Nat,d<=n/\u=.int .i64 d/\fH wr w.heap.size (eR K M x d++ag (n-d))/\Below w.heap.size w wr) (fun u _=>n-(intOf u).toNat)
 case atStart=>exact⟨0,Nat.zero_le _,rfl,ae GC,ae aL⟩
 case round =>
  obtain⟨d,hd,rfl,hblk,ao⟩:=hrel;clear GC aL;by_cases aM:d<n
  ·have hv:=(ae H).below ao;have pM:=Ll (x+d) wr (by omega);rw [show((x+d:Nat):Int)=(x:Int)+(d:Int) by omega] at pM;have uS:=QM hv ((x+d) / 32) (by omega);have gN:=hv.zcD (i:=(x+d) / 32) (by omega);have Ci:(x+d) % 32<32:=Nat.mod_lt _ (by omega);obtain⟨c,hc⟩:∃ c,min (n-d) (32-(x+d) % 32)=c:=⟨_,rfl⟩;have dR:0<c/\c<=n-d/\c<=32-(x+d) % 32:=by omega
   have zcQ:=Hi (K:=K) (M:=M) (y:=x+d) (c:=c) gN.1 (by omega);have zbR:=Ln K M x d c;have pY:((GI K M ((x+d) / 32)).drop ((x+d) % 32)).take (n-d)=((GI K M ((x+d) / 32)).drop ((x+d) % 32)).take c:=by
    rcases Nat.le_total (n-d) (32-(x+d) % 32) with h1 | h1
    ·rw [show c=n-d by omega]
    ·rw [show c=32-(x+d) % 32 by omega,List.take_of_length_le (by simp [gN.1];omega),List.take_of_length_le (by simp [gN.1])]
   rw [zcQ] at pY;generalize JG:(x+d) / 32=pg at *;generalize hfm:(x+d) % 32=fr at *;generalize hpb:GI K M pg=pb at *;unfold sv at uS;have yw:=af pM;have OG:=af uS;have OH:=af hblk;have aQ:=af ao;clear hv pM uS hblk ao zcQ;go_wp2_with fail
   refine(ae yw).mono ?_;rintro e w2 ⟨rfl,rfl⟩;go_wp2_with fail
   refine(ae OG).mono ?_;rintro e w2 ⟨rfl,aK⟩;have jw:(storeCells ⟨w2.heap.size,0,none⟩ (aI pb).toList 0).run Tryz.prog (w2.alloc (.cells #[.int .u8 0,.int .u8 0,.int .u8 0,.int .u8 0,.int .u8 0,.int .u8 0,.int .u8 0,.int .u8 0,.int .u8 0,.int .u8 0,.int .u8 0,.int .u8 0,.int .u8 0,.int .u8 0,.int .u8 0,.int .u8 0,.int .u8 0,.int .u8 0,.int .u8 0,.int .u8 0,.int .u8 0,.int .u8 0,.int .u8 0,.int .u8 0,.int .u8 0,.int .u8 0,.int .u8 0,.int .u8 0,.int .u8 0,.int .u8 0,.int .u8 0,.int .u8 0] 300))=.ok () (w2.alloc (.cells (aI pb) 300)) :=run_storeCells_new w2 300 #[.int .u8 0,.int .u8 0,.int .u8 0,.int .u8 0,.int .u8 0,.int .u8 0,.int .u8 0,.int .u8 0,.int .u8 0,.int .u8 0,.int .u8 0,.int .u8 0,.int .u8 0,.int .u8 0,.int .u8 0,.int .u8 0,.int .u8 0,.int .u8 0,.int .u8 0,.int .u8 0,.int .u8 0,.int .u8 0,.int .u8 0,.int .u8 0,.int .u8 0,.int .u8 0,.int .u8 0,.int .u8 0,.int .u8 0,.int .u8 0,.int .u8 0,.int .u8 0] (aI pb) (by rw [bJ,gN.1];exact iW) (by rw [bJ,gN.1];rfl) (jd pb);have cL:(aI pb).size=32:=by rw [bJ];exact gN.1
   have da:iR (w2.alloc (.cells (aI pb) 300)).drew w2.heap.size 300 pb:=heap_alloc_new _ _;have zbB:Bs (w2.alloc (.cells (aI pb) 300)).drew (some ⟨w2.heap.size,fr,none⟩) (32-fr) (pb.drop fr):=by have:=da.bs gN.2 (by rw [gN.1];decide) fr (32-fr) (32-fr) (by rw [gN.1];omega) zNr;rwa [List.take_of_length_le (by simp [gN.1])] at this
   have fp:Below wr.heap.size wr (w2.alloc (.cells (aI pb) 300)).drew:=(aK.alloc aK.size _).trans ⟨rfl,rfl,rfl,zNr,fun _ _=>rfl⟩;have hbW:Below w.heap.size w (w2.alloc (.cells (aI pb) 300)).drew:=zTs aQ fp;have zeO:iR (w2.alloc (.cells (aI pb) 300)).drew w.heap.size 5 (eR K M x d++ag (n-d)):=(ae OH).below fp;have SM:(pb.drop fr).length=32-fr:=by simp [gN.1]
   have D7:=Fs (P:=Tryz.prog) (w2.alloc (.cells (aI pb) 300)).drew 30 30 3 zu30 aN (off:=d) (dLen:=n-d) (dCap:=n-d) (by intro e;rw [e] at SM;simp at SM;omega) (by rw [zLa,kr,aj];omega) zeO zbB;have zhM:splice (eR K M x d++ag (n-d)) d ((pb.drop fr).take (n-d))=eR K M x (d+c)++ag (n-(d+c)):=by have:=H7 (eR K M x d) (eR K M (x+d) c) (n-d) (by rw [kr];omega);rw [kr,kr] at this;rw [pY,this,<- zbR,show n-d-c=n-(d+c) by omega]
   rw [zhM,SM,hc] at D7;have hif:(if 32=fr then (⟨w2.heap.size,0,none⟩:Addr) else ⟨w2.heap.size,fr,none⟩)=⟨w2.heap.size,fr,none⟩:=if_neg (by omega);rw [<- hif] at D7;have HWP:Hid (IntKind.i64.wrap ((d:Int)+(c:Int))=((d+c:Nat):Int)):=af (by simp only [IntKind.wrap_i64];omega);have hcut:=fun w'=>YN (P:=Tryz.prog) (t:=30) zu30 aN w.heap.size d n aM (by omega) w'
   have ZI:=af D7;have HD2:=af (ix zeO (eR K M x (d+c)++ag (n-(d+c))));have br:=af (dW (eR K M x (d+c)++ag (n-(d+c))) hbW zNr);have e0:(0:Int)<=(fr:Int):=by omega
   have e1:(fr:Int)<=32:=by omega
   clear da zbB fp hbW zeO D7 zhM aK pY zbR hpb yw OG OH aQ;generalize hZZ:eR K M x (d+c)++ag (n-(d+c))=ZZ at *;have HZZ:=af hZZ;clear hZZ hif;go_wp2_with fail
   go_region_law (refine nD (by rfl) (.tmp 37) (.tmp 39) 30 30 (by rfl) (.slice (some ⟨w.heap.size,d,none⟩) (n-d) (n-d)) (.slice (some (if 32=fr then ⟨w2.heap.size,0,none⟩ else ⟨w2.heap.size,fr,none⟩)) (32-fr) (32-fr)) (by rfl) (by rfl) (.int .i64 c) (ei (w2.alloc (.cells (aI pb) 300)).drew w.heap.size ZZ) (ae ZI) ?_)
   go_wp2;go_roundw
   case rel=>exact⟨d+c,by omega,by rw [ae HWP],by rw [ae HZZ];exact ae HD2,ae br⟩
   case measure=>rw [ae HWP];simp [intOf];omega
  ·obtain rfl:d=n:=by omega
   rw [Nat.sub_self,show ag 0=[] from rfl,List.append_nil] at hblk;have OH:=af hblk;have aQ:=af ao;clear hblk ao;go_wp2;go_ret2;exact⟨_,rfl,zNr,ae OH,ae aQ⟩
end
section
variable {w w':World} {v q gk gm:Nat} {K:List (List Int)} {M:List (Nat×List Int)}
end
section
variable {w w':World} {v q gk gm:Nat} {K:List (List Int)} {M:List (Nat×List Int)}
end
def iO(D:DS)(L:Nat):List (List Int):=(List.range L).map (fun i=>D.rd (48+i))
theorem iz(D:DS)(L:Nat):(iO D L).length=L:=by unfold iO;simp
theorem Jl(D:DS)(k:Nat):iO D (k+1)=iO D k++[D.rd (48+k)]:=by unfold iO;rw [List.range_succ,List.map_append];rfl
theorem Jm(D:DS){L i:Nat}(hi:i<L):(iO D L).getD i []=D.rd (48+i):=by unfold iO;rw [List.getD_eq_getElem?_getD,List.getElem?_map,List.getElem?_range hi];rfl
def mh(D:DS)(L k:Nat):List (List Int):=iO D k++List.replicate (L-k) (ag 32)
theorem Si(D:DS){L k:Nat}(hk:k<L):(mh D L k).set k (D.rd (48+k))=mh D L (k+1):=by
 unfold mh;have e:L-k=(L-(k+1))+1:=by omega
 rw [e,List.replicate_succ,Jl,List.append_assoc,List.set_append];rw [iz,if_neg (by omega),Nat.sub_self];rfl
theorem DG{D:DS}(dy:D.Ok){L k:Nat}(hL:48+L<=D.secs.length)(hk:k<=L):∀ s∈mh D L k,kS s:=by
 intro s hs;unfold mh iO at hs;rcases zMa hs with h | h
 ·obtain⟨i,hi,rfl⟩:=List.mem_map.1 h;have:=List.mem_range.1 hi;exact dy.rd (by omega)
 ·rw [(List.mem_replicate.1 h).2];exact rz
theorem MT(D:DS)(L:Nat):(mh D L 0).flatten=ag (L * 32):=by unfold mh iO;exact AZ L
theorem pj(D:DS){L k:Nat}(hk:k<=L):(mh D L k).length=L:=by unfold mh;rw [zLa,iz,List.length_replicate];omega
theorem MX:(Tryz.prog.info? 300).map (fun i=>(i.zero,i.size,i.bytes))=some (some (sv (ag 32)),32,32):=by kernel_rfl
section
variable {w:World} {p q:Nat} {S:Nat->Prop} {D:DS} {s:Int}
theorem UO(h:pT w p S D)(hq:dU w q p s){L:Nat}(hL:e9 D.secs.length=L)(Yb:L<=200)(JX:48+L<=D.secs.length)(hd:D.down=false) :
  Calls Tryz.prog 194 #[.pointer (some ⟨q,0,none⟩)] w fun e w'=>∃ v gk gm,e=.returned (.tuple #[.pointer (some ⟨v,0,none⟩),.nilIface])/\Vw w' v q gk gm (iO D L) []/\w.heap.size<=gk/\w.heap.size<=gm/\w.heap.size<=v/\Below w.heap.size w w':=by
 have nJ:=z7 h hq;rw [hL] at nJ;have vG:=af nJ;have yx:=af h.ok;have xx:Hid (∀ (w1:World) (k:Nat),Below w.heap.size w w1->k<L->Calls Tryz.prog 234 #[.pointer (some ⟨q,0,none⟩),.int .i64 k] w1 fun e w'=>∃ g,e=.returned (.tuple #[.slice (some ⟨g,0,none⟩) 32 32,.nilIface])/\w1.heap.size<=g/\fH w' g (D.rd (48+k))/\Below w1.heap.size w1 w') :=af (fun w1 k hb hk=>Rv (h.below hb) (hq.below hb) k (decide_eq_true ⟨by omega,by rw [hL];omega⟩) hd);have D1:=@run_makeMap Tryz.prog;obtain⟨i0,eP,cY,dw,dz⟩:=info_parts MX;clear h hq nJ;go_enter Tryz.func194,Tryz.ntmps194
 go_wp2_with fail
 refine(ae vG).mono ?_;rintro e w1 ⟨rfl,rfl⟩;go_wp2_with (at_make;refine nM rfl _ _ 299 300 rfl i0 Tryz.underlying299 eP cY dw dz _ _ _ _ L rfl rfl rfl rfl (by omega) ?_)
 go_loopw [13] (fun u wr=>∃ k:Nat,k<=L/\u=.int .i64 k/\iR wr w.heap.size 300 (mh D L k).flatten/\Below w.heap.size w wr) (fun u _=>L-(intOf u).toNat)
 case atStart=>exact⟨0,Nat.zero_le _,rfl,by rw [MT];exact tZ w _ _,zBr.alloc zNr _⟩
 case round =>
  obtain⟨k,hk,rfl,bn,ao⟩:=hrel;by_cases aM:k<L
  ·have HR:=af (ae xx wr k ao aM);have GB:=af bn;have aQ:=af ao;have cL:=ao.size;clear bn ao;go_wp2_with fail
   refine(ae HR).mono ?_;rintro e w2 ⟨gr,rfl,xY,aK,lr⟩;have jR:=(ae GB).same (lr.block w.heap.size (ae GB).lt);have hks:=DG (ae yx) JX hk;have h32:∀ s∈mh D L k,s.length=32:=fun s hs=>(hks s hs).1
   have gN:kS (D.rd (48+k)):=(ae yx).rd (by omega);have D7:=kn (P:=Tryz.prog) w2 30 30 3 zu30 aN (dCap:=32) (off:=k * 32) (by rw [tt _ h32,pj D hk,gN.1];omega) jR (pI aK gN);rw [qT _ _ _ h32 (by rw [pj D hk];exact aM) (by rw [gN.1];exact zNr),gN.1,List.drop_of_length_le (by rw [(eE hks (by rw [pj D hk];exact aM)).1];exact zNr),List.append_nil,Si D aM] at D7;have HR3:=af (jR.set (mh D L (k+1)).flatten);have cT:=af (dW (mh D L (k+1)).flatten ((ae aQ).trans (lr.mono cL)) zNr);have e0:(k:Int)<(L:Int):=by omega
   have e1:(0:Int)<=(k:Int):=by omega
   clear aK lr jR hks h32 gN GB aQ HR;go_wp2;go_roundw
   case rel=>exact⟨k+1,by omega,by go_num,ae HR3,ae cT⟩
   case measure=>simp [intOf];omega
  ·obtain rfl:k=L:=by omega
   have GB:=af bn;have aQ:=af ao;have cL:=ao.size;have Xx:=bn.lt;clear bn ao;go_wp2;go_ret2;have uQ:=ae GB;unfold mh at uQ;rw [Nat.sub_self,List.replicate_zero,List.append_nil] at uQ;refine⟨wr.heap.size+1,w.heap.size,wr.heap.size,rfl,?_,zNr,cL,by omega,((ae aQ).alloc cL _).alloc (by simp;omega) _⟩;refine⟨?_,(uQ.same (heap_alloc_old _ _ Xx)).same (heap_alloc_old _ _ (by simp;omega)),?_,by rw [iz];exact Yb,(lg.made wr).same (heap_alloc_old _ _ (by simp)),fun x hx=>(by cases hx),by omega,by omega,by omega⟩
   ·have:=heap_alloc_new (wr.alloc (.map #[] 0)) (.cells #[.pointer (some ⟨q,0,none⟩),.slice (some ⟨w.heap.size,0,none⟩) k k,.map (some wr.heap.size)] 303);rw [size_alloc] at this;rw [iz];exact this
   ·have:=DG (ae yx) JX (Nat.le_refl k);unfold mh at this;rw [Nat.sub_self,List.replicate_zero,List.append_nil] at this;exact this
end
end Go.Proofs.YtcimhnnendlblaaGreat
