/-
  Parts of the proofs, joined by program.
-/
import Derived.Test.YtchmlnmhbfaclaaGreatDoorJPgp
import Derived.Test.YtchmlnmhbfaclaaGreatDoorJNum
import Derived.Maps.OwnSet
import Derived.Deep.RegionLaw
import Derived.Test.YtchmlnmhbfaclaaGreatDoorJTn
import Derived.Test.YtchmlnmhbfaclaaGreatDoorProg
import Derived.BigQuiet
import Derived.WalkLawsBesides
import Derived.Deep.WholeRow
import Derived.Maps.AppendAt
import Derived.Deep.RegionHeld3
import Derived.Deep.DrawnRows
import Derived.Carry
namespace Go.Proofs.YtchmlnmhbfaclaaGreatDoor
open Go.RowKit Go.MapKept Go.ChangeMaps
open Go.Maps (Keyed)
set_option linter.unusedVariables false
def zl(l:List Int):Array Value:=(l.map (Value.int .u8)).toArray
def sv(l:List Int):Value:=.agg (zl l)
def sd(l:List Int):DataW Unit:=.agg (l.map fun z=>.lit (.int .u8 z))
theorem zC(l:List Int):(zl l).size=l.length:=by simp [zl]
theorem zbE(l:List Int)(i:Nat)(h:i<l.length):(zl l)[i]?=some (.int .u8 (l.getD i 0)):=by
 simp [zl,h,List.getD]
def zBe:Value->Bool
 | .int .u8 _=>true
 | _=>false
def zB9:Value->Int
 | .int .u8 z=>z
 | _=>0
def zwt:Value->Option (DataW Unit×List MemPlace)
 | .agg cs=>if cs.toList.all zBe=true/\cs.size=32 then some (.agg (cs.toList.map fun v=>.lit (.int .u8 (zB9 v))),[]) else none
 | _=>none
theorem zwj(l:List Int):(l.map (Value.int .u8)).all zBe=true:=by
 induction l with
 | nil=>rfl
 | cons a r ih=>simp [zBe]
theorem zk6{l:List Int}(h:l.length=32):zwt (sv l)=some (sd l,[]):=by
 have h1:=zwj l
 unfold zwt sv
 simp only [zl,List.size_toArray,List.length_map,h,h1,and_self,if_true,sd,List.map_map]
 congr 1
theorem zr7{cs:List Value}(h:cs.all zBe=true):cs=(cs.map zB9).map (Value.int .u8):=by
 induction cs with
 | nil=>rfl
 | cons a r ih =>
  simp only [List.all_cons,Bool.and_eq_true] at h
  have ha:a=.int .u8 (zB9 a):=by
   cases a <;> simp [zBe] at h
   rename_i q z
   cases q <;> simp at h
   rfl
  simp only [List.map_cons,<- ha]
  congr 1
  exact ih h.2
theorem zud{v:Value}{d:DataW Unit}{ps:List MemPlace}(h:zwt v=some (d,ps)):∃ l,l.length=32/\v=sv l/\d=sd l:=by
 unfold zwt at h
 cases v <;> simp only [reduceCtorEq] at h
 rename_i cs
 split at h
 ·rename_i hc
  simp only [Option.some.injEq,Prod.mk.injEq] at h
  refine⟨cs.toList.map zB9,by simpa using hc.2,?_,?_⟩
  ·unfold sv zl
   rw [<- zr7 hc.1]
  ·rw [<- h.1];simp [sd]
 ·cases h
theorem zwx{a b:List Int}(h:sd a=sd b):a=b:=by
 unfold sd at h
 simp only [DataW.agg.injEq] at h
 induction a generalizing b with
 | nil=>cases b with
  | nil=>rfl
  | cons _ _=>simp at h
 | cons x r ih=>cases b with
  | nil=>simp at h
  | cons y s =>
   simp only [List.map_cons,List.cons.injEq,DataW.lit.injEq,Lit.int.injEq,true_and] at h
   rw [h.1,ih h.2]
def MemAt(P:Program)(K:TypeId)(w:World)(bm:Nat)(mem:List (Nat×List Int)):Prop :=
 ∃ D,w.ownsMap P K zwt bm mem.length D/\∀ i:Nat,Maps.has D (.int .i64 i)=(mem.lookup i).isSome/\∀ b,mem.lookup i=some b->D.atKey (.int .i64 i) (sd (zerosB 32))=sd b
section
variable {P:Program} {K:TypeId} {w:World} {bm:Nat} {mem:List (Nat×List Int)}
theorem MemAt.lt(h:MemAt P K w bm mem):bm<w.heap.size:=by
 obtain⟨D,h1,_⟩:=h
 exact h1.lt
theorem MemAt.isMap(h:MemAt P K w bm mem):∃ es clock,w.heap[bm]?=some (.map es clock):=by
 obtain⟨D,⟨es,clock,hb,_⟩,_⟩:=h
 exact⟨es,clock,hb⟩
theorem MemAt.same{w':World}(h:MemAt P K w bm mem)(hs:w'.heap[bm]?=w.heap[bm]?):MemAt P K w' bm mem:=by
 obtain⟨D,⟨es,clock,hb,r⟩,h2⟩:=h
 exact⟨D,⟨es,clock,hs.trans hb,r⟩,h2⟩
theorem zdk(i:Nat)(h:i<300):(Lit.int .i64 (i:Int)).wf=true:=WalkArith.wf_i64 (by omega)
theorem zoW(w:World):MemAt P K (w.alloc (.map #[] 0)) w.heap.size [] :=
 ⟨.map [],World.ownsMap_made w P K zwt,fun i=>⟨rfl,fun b hb=>by simp at hb⟩⟩
theorem zeu{H:Type}{R:Value->Option (DataW H×List MemPlace)}{n m:Nat}{D:DataW H}(h:w.ownsMap P K R bm n D)(hm:Maps.size D<=m):w.ownsMap P K R bm m D:=by
 obtain⟨es,clock,hb,F,hs,rfl⟩:=h
 exact⟨es,clock,hb,F,by simpa [Maps.size,length_sorted] using hm,rfl⟩
def zh7(mem:List (Nat×List Int))(i:Nat):List Int:=(mem.lookup i).getD (zerosB 32)
theorem MemAt.look{T E:TypeId}(h:MemAt P K w bm mem)(hK:P.underlying K=some (.int .i64))(hT:P.underlying T=some (.map K E))(hz:(zeroValue E).run P w=.ok (sv (zerosB 32)) w)(c:Bool){i:Nat}(hi:i<300) :
  (Instr.lookup T (.map (some bm)) (.int .i64 i) c).run P w=.ok (if c then .tuple #[sv (zh7 mem i),.bool (mem.lookup i).isSome] else sv (zh7 mem i)) w:=by
 obtain⟨D,hown,hD⟩:=h
 have hkey:=Maps.keyOf_int_mk (P:=P) hK (zdk i hi)
 have hzd:=zk6 (l:=zerosB 32) (by simp [zerosB])
 have hval:∀ v ps,zwt v=some (D.atKey (.int .i64 i) (sd (zerosB 32)),ps)->v=sv (zh7 mem i):=by
  intro v ps hv
  obtain⟨l,hl,rfl,hd⟩:=zud hv
  unfold zh7
  cases hm:mem.lookup i with
  | none =>
   have hno:Maps.has D (.int .i64 i)=false:=by rw [(hD i).1,hm];rfl
   rw [Maps.atKey_of_not_has hno] at hd
   rw [zwx hd];rfl
  | some b =>
   rw [(hD i).2 b hm] at hd
   rw [zwx hd];rfl
 cases c with
 | true =>
  obtain⟨v,ps,hrun,hv⟩:=hown.look_ok (Maps.int_keyed hK) hT hz hzd hkey
  rw [hrun,hval v ps hv,(hD i).1];rfl
 | false =>
  obtain⟨v,ps,hrun,hv⟩:=hown.lookup (Maps.int_keyed hK) hT hz hzd hkey
  rw [hrun,hval v ps hv];rfl
theorem MemAt.store{T E:TypeId}(h:MemAt P K w bm mem)(hK:P.underlying K=some (.int .i64))(hT:P.underlying T=some (.map K E))(hn:mem.length<=300){i:Nat}(hi:i<300){b:List Int}(hb:b.length=32) :
  ∃ w',(Instr.mapUpdate T (.map (some bm)) (.int .i64 i) (sv b)).run P w=.ok () w'/\MemAt P K w' bm (qa mem i b)/\w.mapTurned w' bm:=by
 obtain⟨D,hown,hD⟩:=h
 have hkey:=Maps.keyOf_int_mk (P:=P) hK (zdk i hi)
 obtain⟨w',hrun,hown',ht⟩:=hown.store (Maps.int_keyed hK) hT (by unfold maxLen;omega) hkey (zk6 hb)
 have hlit:WideAt.IsKeyLit (.int .i64 (i:Int)):=(Maps.int_keyed hK).key hkey
 refine⟨w',hrun,⟨_,zeu hown' ?_,fun j=>?_⟩,ht⟩
 ·rw [Maps.size_put (hown.tidy (Maps.int_keyed hK)),(hD i).1]
  have h1:=hown.size_le
  have h2:(qa mem i b).length=((qa mem i b).map (·.1)).length:=by simp
  rw [h2,zcB]
  cases hm:mem.lookup i with
  | none =>
   have:=QI.1 hm
   simp only [this,if_false,Option.isSome_none,Bool.false_eq_true]
   simp;omega
  | some c =>
   have:i∈mem.map (·.1):=by
    refine Classical.byContradiction fun hc=>?_
    rw [QI.2 hc] at hm;cases hm
   simp only [this,if_true,Option.isSome_some]
   simp;omega
 ·rw [Zr]
  by_cases hj:j=i
  ·subst hj
   refine⟨by simp [Maps.has_put_same hown.isMap hlit],fun c hc=>?_⟩
   simp at hc;subst hc
   exact Maps.atKey_put_same hown.isMap hlit _ _
  ·have hne:Lit.int .i64 (j:Int)≠Lit.int .i64 (i:Int):=by
    intro e;simp only [Lit.int.injEq,true_and] at e;omega
   simp only [hj,if_false]
   rw [Maps.has_put_other hne,Maps.atKey_put_other hne]
   exact hD j
theorem MemAt.clear{T E:TypeId}(h:MemAt P K w bm mem)(hT:P.underlying T=some (.map K E)) :
  ∃ w',(∀ ty,(Builtin.clear_ #[T] ty #[.map (some bm)]).run P w=.ok (.tuple #[]) w')/\MemAt P K w' bm []/\w.mapTurned w' bm:=by
 obtain⟨es,clock,hb⟩:=h.isMap
 refine⟨setBlock w bm (.map #[] clock),fun ty=>?_,⟨.map [],?_,fun i=>⟨rfl,fun b hb=>by simp at hb⟩⟩,⟨es,clock,#[],clock,hb,rfl⟩⟩
 ·simp [Builtin.clear_,run_underlying hT,MapKept.run_getObj_map hb,MapKept.run_setObj_map _ hb,Result.andThen,setBlock]
 ·exact⟨#[],clock,heap_setBlock_same hb _,⟨by simp,stamped_empty clock,by simp⟩,Nat.le_refl _,rfl⟩
end
end Go.Proofs.YtchmlnmhbfaclaaGreatDoor
namespace Go.Proofs.YtchmlnmhbfaclaaGreatDoor
open Go.RowKit Go.MapKept
set_option linter.unusedVariables false
theorem Turn.map{S:Nat->Prop}{w w':World}{b:Nat}(ht:w.mapTurned w' b)(h:S b):Turn S S w w' :=
 let g:=ht.grown
 ⟨g.os,g.tape,g.output,g.size,fun k hk hn=>g.block k hk (fun e=>hn (Option.some.inj e ▸ h)),fun _ _ hs=>hs⟩
def RowT(w:World)(g:Nat)(t:TypeId)(l:List Int):Prop:=w.heap[g]?=some (.cells (zl l) t (0,0))
theorem RowT.cell{w:World}{g:Nat}{t:TypeId}{l:List Int}(h:RowT w g t l)(i:Nat)(hi:i<l.length):w.cell? ⟨g,i,none⟩=some (.int .u8 (l.getD i 0)):=by
 rw [cell_of_row w g i _ t (0,0) h];exact zbE l i hi
theorem RowT.lt{w:World}{g:Nat}{t:TypeId}{l:List Int}(h:RowT w g t l):g<w.heap.size:=(Array.getElem?_eq_some_iff.1 h).1
theorem RowT.set{w:World}{g:Nat}{t:TypeId}{z:List Int}(h:RowT w g t z)(l:List Int):RowT (rowW w g l) g t l:=setRow_heap w g _ _ t _ h
theorem RowT.same{w w':World}{g:Nat}{t:TypeId}{l:List Int}(h:RowT w g t l)(e:w'.heap[g]?=w.heap[g]?):RowT w' g t l:=e.trans h
theorem RowT.bs{w:World}{g:Nat}{t:TypeId}{l:List Int}(h:RowT w g t l)(hb:Byt l)(hl:l.length<=140737488351232)(off n cap:Nat)(hn:off+n<=l.length)(hc:n<=cap):Bs w (some ⟨g,off,none⟩) cap ((l.drop off).take n):=by
 have hlen:((l.drop off).take n).length=n:=by simp;omega
 refine⟨hb.sub off n,by omega,by omega,fun e=>(by cases e),fun _=>⟨g,off,rfl,fun i hi=>?_⟩⟩
 rw [hlen] at hi
 rw [h.cell (off+i) (by omega)]
 simp [List.getD,hi]
theorem ZR{P:Program}(w:World)(dT sT ty:TypeId)(hu:P.underlying dT=some (.slice 5))(hsz:(P.info? 5).map (·.size)=some 1)
  {g t off dCap:Nat} {sp:Option Addr} {sCap:Nat} {z l:List Int} (hz:off+l.length<=z.length) (hg:RowT w g t z) (hb:Bs w sp sCap l) :
  (Builtin.copy_ #[dT,sT] ty #[.slice (some ⟨g,off,none⟩) l.length dCap,.slice sp l.length sCap]).run P w=.ok (.int .i64 l.length) (rowW w g (splice z off l)):=by
 by_cases h0:l=[]
 ·subst h0
  have hrun:=run_copy_none (P:=P) w dT sT ty 5 (some ⟨g,off,none⟩) sp 0 dCap 0 sCap hu hsz (by simp)
  have hself:rowW w g (splice z off [])=w:=by
   have:splice z off []=z:=by simp [splice]
   rw [this]
   exact setRow_self w g _ t (0,0) hg
  rw [hself]
  simpa [goInt] using hrun
 ·obtain⟨b,o2,rfl,hc⟩:=hb.2.2.2.2 h0
  have hrun:=run_copy_row (P:=P) w dT sT ty 5 g off l.length dCap ⟨b,o2,none⟩ l.length sCap _ t (l.map (Value.int .u8)) hu hsz hg (by simp) ?_ (by simpa [zl] using hz) (oneCell_u8 l)
  ·rw [hrun]
   simp [goInt,rowW,splice,zl]
  ·intro j v hj
   have hjl:j<l.length:=by
    rcases Nat.lt_or_ge j l.length with h1 | h1
    ·exact h1
    ·rw [List.getElem?_eq_none (by simpa using h1)] at hj;cases hj
   have:=hc j hjl
   simp [hjl] at hj
   subst hj
   rw [addr_add]
   simpa [List.getD,hjl] using this
theorem zek:∀ (secs:List (List Int)),(∀ s∈secs,s.length=32)->secs.flatten.length=secs.length * 32
 | [],_=>rfl
 | s :: r,h=>by
  have:=zek r (fun x hx=>h x (by simp [hx]))
  have:=h s (by simp)
  simp only [List.flatten_cons,List.length_append,List.length_cons]
  omega
theorem zf5:∀ (secs:List (List Int)) (i:Nat),(∀ s∈secs,s.length=32)->i<secs.length->(secs.flatten.drop (i * 32)).take 32=secs.getD i []
 | [],i,_,h=>by simp at h
 | s :: r,0,h,_=>by
  have:=h s (by simp)
  simp [List.getD,this]
 | s :: r,i+1,h,hi=>by
  have h1:=h s (by simp)
  have h2:=zf5 r i (fun x hx=>h x (by simp [hx])) (by simpa using hi)
  have e:(i+1) * 32=s.length+i * 32:=by omega
  rw [e,List.flatten_cons,List.drop_append]
  rw [List.drop_eq_nil_of_le (by omega),List.nil_append]
  rw [show s.length+i * 32-s.length=i * 32 from by omega,h2]
  simp [List.getD]
theorem zc6:∀ (secs:List (List Int)) (i:Nat) (cs:List Int),(∀ s∈secs,s.length=32)->i<secs.length->cs.length<=32 ->
  splice secs.flatten (i * 32) cs=(secs.set i (cs++(secs.getD i []).drop cs.length)).flatten
 | [],i,_,_,h,_=>by simp at h
 | s :: r,0,cs,h,_,hc=>by
  have:=h s (by simp)
  simp [splice,List.getD]
  rw [List.drop_append_of_le_length (by omega)]
 | s :: r,i+1,cs,h,hi,hc=>by
  have h1:=h s (by simp)
  have h2:=zc6 r i cs (fun x hx=>h x (by simp [hx])) (by simpa using hi) hc
  have e:(i+1) * 32=s.length+i * 32:=by omega
  have e3:(s :: r).getD (i+1) []=r.getD i []:=by simp [List.getD]
  rw [e,e3,List.set_cons_succ,List.flatten_cons,List.flatten_cons,<- h2]
  unfold splice
  rw [List.take_append,List.take_of_length_le (by omega),List.drop_append,List.drop_eq_nil_of_le (by omega)]
  rw [show s.length+i * 32-s.length=i * 32 from by omega,show s.length+i * 32+cs.length-s.length=i * 32+cs.length from by omega]
  simp
def qw(sb n bm:Nat)(pv:Value)(left:Int)(down:Bool):Array Value:=#[.slice (some ⟨sb,0,none⟩) n n,.map (some bm),pv,.int .i64 left,.bool down]
def qH(mem:List (Nat×List Int)):List Value:=mem.map fun q=>.int .i64 (q.1:Int)
structure DevAt (w:World) (p sb bm:Nat) (pv:Value) (S:Nat->Prop) (D:DS):Prop where
 ok:D.Ok
 str:w.heap[p]?=some (.cells (qw sb D.secs.length bm pv D.left D.down) 153 (0,0))
 sec:RowT w sb 310 D.secs.flatten
 mem:MemAt Tryz.prog 3 w bm D.mem
 pen:w.ownsRow 0 3 1 pv D.mem.length (qH D.mem)
 inp:S p
 ins:S sb
 inm:S bm
 inv:∀ g,pv.ownBlock=some g->S g
 lt:∀ k,S k->k<w.heap.size
 nps:p≠sb
 nvp:pv.ownBlock≠some p
 nvs:pv.ownBlock≠some sb
def Dev(w:World)(p:Nat)(S:Nat->Prop)(D:DS):Prop:=∃ sb bm pv,DevAt w p sb bm pv S D
section
variable {w w':World} {p sb bm:Nat} {pv:Value} {S:Nat->Prop} {D:DS}
theorem DevAt.npm(h:DevAt w p sb bm pv S D):bm≠p:=by
 intro e;subst e
 obtain⟨es,c,hb⟩:=h.mem.isMap
 rw [h.str] at hb;cases hb
theorem DevAt.nsm(h:DevAt w p sb bm pv S D):bm≠sb:=by
 intro e;subst e
 obtain⟨es,c,hb⟩:=h.mem.isMap
 have:=h.sec;unfold RowT at this
 rw [this] at hb;cases hb
theorem qI{base:Nat}{e size:Nat}{v:Value}{n:Nat}{xs:List Value}(h:w.ownsRow base e size v n xs){g:Nat}(hg:v.ownBlock=some g):∃ cur,w.heap[g]?=some (.cells cur e (0,0)):=by
 rcases h.2 with ⟨rfl,_⟩ | ⟨g',cap,cur,rfl,_,hb,_⟩
 ·simp [Value.ownBlock] at hg
 ·simp [Value.ownBlock] at hg;subst hg;exact⟨cur,hb⟩
theorem DevAt.nvm(h:DevAt w p sb bm pv S D):pv.ownBlock≠some bm:=by
 intro e
 obtain⟨cur,hc⟩:=qI h.pen e
 obtain⟨es,c,hb⟩:=h.mem.isMap
 rw [hc] at hb;cases hb
theorem qC{base:Nat}{e size:Nat}{v:Value}{n:Nat}{xs:List Value}(h:w.ownsRow base e size v n xs)(hs:∀ g,v.ownBlock=some g->w'.heap[g]?=w.heap[g]?):w'.ownsRow base e size v n xs:=by
 refine⟨h.1,?_⟩
 rcases h.2 with h2 | ⟨g,cap,cur,rfl,h3,hb,r⟩
 ·exact .inl h2
 ·exact .inr ⟨g,cap,cur,rfl,h3,(hs g rfl).trans hb,r⟩
theorem DevAt.same(h:DevAt w p sb bm pv S D)(hz:w.heap.size<=w'.heap.size)(hs:∀ k,S k->w'.heap[k]?=w.heap[k]?):DevAt w' p sb bm pv S D :=
 ⟨h.ok,(hs _ h.inp).trans h.str,h.sec.same (hs _ h.ins),h.mem.same (hs _ h.inm),qC h.pen (fun g hg=>hs g (h.inv g hg)),h.inp,h.ins,h.inm,h.inv,fun k hk=>Nat.lt_of_lt_of_le (h.lt k hk) hz,h.nps,h.nvp,h.nvs⟩
theorem DevAt.alloc(h:DevAt w p sb bm pv S D)(o:Obj):DevAt (w.alloc o) p sb bm pv S D:=h.same (by simp) (fun k hk=>heap_alloc_old w o (h.lt k hk))
theorem Dev.same(h:Dev w p S D)(hz:w.heap.size<=w'.heap.size)(hs:∀ k,S k->w'.heap[k]?=w.heap[k]?):Dev w' p S D:=by
 obtain⟨sb,bm,pv,h⟩:=h
 exact⟨sb,bm,pv,h.same hz hs⟩
theorem Dev.lt(h:Dev w p S D):∀ k,S k->k<w.heap.size:=by
 obtain⟨sb,bm,pv,h⟩:=h
 exact h.lt
theorem Dev.ok(h:Dev w p S D):D.Ok:=by
 obtain⟨sb,bm,pv,h⟩:=h
 exact h.ok
theorem Dev.below(h:Dev w p S D)(hb:Below w.heap.size w w'):Dev w' p S D:=h.same hb.size (fun k hk=>hb.block k (h.lt k hk))
theorem Dev.turn{T T':Nat->Prop}(h:Dev w p S D)(ht:Turn T T' w w')(hd:∀ k,S k->¬ T k):Dev w' p S D:=h.same ht.size (fun k hk=>ht.block k (h.lt k hk) (hd k hk))
theorem DevAt.setLeft(h:DevAt w p sb bm pv S D)(n:Int)(hn:-9223372036854775808<=n/\n<=9223372036854775807):DevAt (w.setCell ⟨p,3,none⟩ (.int .i64 n)) p sb bm pv S { D with left:=n } :=
 ⟨h.ok.fail hn,by rw [heap_setCell_same _ _ _ _ _ _ h.str];simp [qw],h.sec.same (heap_setCell_other _ _ _ _ h.nps.symm),h.mem.same (heap_setCell_other _ _ _ _ h.npm),
  qC h.pen (fun g hg=>heap_setCell_other _ _ _ _ (fun e=>h.nvp (by rw [hg,e]))),h.inp,h.ins,h.inm,h.inv,fun k hk=>by simpa using h.lt k hk,h.nps,h.nvp,h.nvs⟩
theorem DevAt.setDown(h:DevAt w p sb bm pv S D)(x:Bool):DevAt (w.setCell ⟨p,4,none⟩ (.bool x)) p sb bm pv S { D with down:=x } :=
 ⟨⟨h.ok.len,h.ok.sec,h.ok.mem,h.ok.apart,h.ok.left⟩,by rw [heap_setCell_same _ _ _ _ _ _ h.str];simp [qw],h.sec.same (heap_setCell_other _ _ _ _ h.nps.symm),h.mem.same (heap_setCell_other _ _ _ _ h.npm),
  qC h.pen (fun g hg=>heap_setCell_other _ _ _ _ (fun e=>h.nvp (by rw [hg,e]))),h.inp,h.ins,h.inm,h.inv,fun k hk=>by simpa using h.lt k hk,h.nps,h.nvp,h.nvs⟩
theorem DevAt.drew(h:DevAt w p sb bm pv S D):DevAt w.drew p sb bm pv S D:=h.same (Nat.le_refl _) (fun _ _=>rfl)
theorem DevAt.setSecs(h:DevAt w p sb bm pv S D)(secs:List (List Int))(hl:secs.length=D.secs.length)(hs:∀ s∈secs,Sec s):DevAt (rowW w sb secs.flatten) p sb bm pv S { D with secs:=secs } :=
 ⟨⟨by show secs.length<=300;rw [hl];exact h.ok.len,hs,fun q hq=>by show q.1<secs.length/\_;rw [hl];exact h.ok.mem q hq,h.ok.apart,h.ok.left⟩,
  by show(rowW w sb secs.flatten).heap[p]?=some (.cells (qw sb secs.length bm pv D.left D.down) _ _);rw [hl];exact(setRow_other w sb p _ h.nps).trans h.str,h.sec.set _,h.mem.same (setRow_other w sb bm _ h.nsm),
  qC h.pen (fun g hg=>setRow_other w sb g _ (fun e=>h.nvs (by rw [hg,e]))),h.inp,h.ins,h.inm,h.inv,fun k hk=>by simpa [rowW] using h.lt k hk,h.nps,h.nvp,h.nvs⟩
theorem DevAt.forget{w1:World}(h:DevAt w p sb bm pv S D)(hm:MemAt Tryz.prog 3 w1 bm [])(ht:w.mapTurned w1 bm):DevAt (w1.setCell ⟨p,2,none⟩ (.slice none 0 0)) p sb bm (.slice none 0 0) S { D with mem:=[]}:=by
 have hg:=ht.grown
 have e:∀ k,S k->k≠bm->w1.heap[k]?=w.heap[k]?:=fun k hk hne=>hg.block k (h.lt k hk) (fun e=>hne (Option.some.inj e))
 have hp:w1.heap[p]?=_:=(e p h.inp h.npm.symm).trans h.str
 refine⟨⟨h.ok.len,h.ok.sec,fun q hq=>(by cases hq),List.nodup_nil,h.ok.left⟩,by rw [heap_setCell_same _ _ _ _ _ _ hp];simp [qw],(h.sec.same (e sb h.ins h.nsm.symm)).same (heap_setCell_other _ _ _ _ h.nps.symm),hm.same (heap_setCell_other _ _ _ _ h.npm),
  World.ownsRow_nil _ _ _ _,h.inp,h.ins,h.inm,fun g hg=>(by cases hg),fun k hk=>(by have:=h.lt k hk;have:=hg.size;simp;omega),h.nps,fun e=>(by cases e),fun e=>(by cases e)⟩
theorem Zy(m:List (Nat×List Int)):qH m=(m.map (fun q=>q.1)).map (fun i:Nat=>Value.int .i64 (i:Int)):=by simp [qH]
theorem zh6{m:List (Nat×List Int)}{i:Nat}(h:(m.lookup i).isSome=true):i∈m.map (·.1):=by
 refine Classical.byContradiction fun hc=>?_
 rw [QI.2 hc] at h;cases h
theorem zc0(m:List (Nat×List Int)):(m.map (·.1)).length=m.length:=by simp
theorem DevAt.put_old{w1:World}{i:Nat}{l:List Int}(h:DevAt w p sb bm pv S D)(hi:(D.mem.lookup i).isSome=true)(hl:i<D.secs.length)(hs:Sec l)(hm:MemAt Tryz.prog 3 w1 bm (qa D.mem i l))(ht:w.mapTurned w1 bm):DevAt w1 p sb bm pv S (D.put i l):=by
 have hg:=ht.grown
 have e:∀ k,S k->k≠bm->w1.heap[k]?=w.heap[k]?:=fun k hk hne=>hg.block k (h.lt k hk) (fun e=>hne (Option.some.inj e))
 have hk:(qa D.mem i l).map (·.1)=D.mem.map (·.1):=by rw [zcB,if_pos (zh6 hi)]
 refine⟨h.ok.put hl hs,(e p h.inp h.npm.symm).trans h.str,h.sec.same (e sb h.ins h.nsm.symm),hm,?_,h.inp,h.ins,h.inm,h.inv,fun k hk=>Nat.lt_of_lt_of_le (h.lt k hk) hg.size,h.nps,h.nvp,h.nvs⟩
 show w1.ownsRow 0 3 1 pv (qa D.mem i l).length (qH (qa D.mem i l))
 have e1:qH (qa D.mem i l)=qH D.mem:=by rw [Zy,Zy D.mem,hk]
 have e2:(qa D.mem i l).length=D.mem.length:=by rw [<- zc0,hk,zc0]
 rw [e1,e2]
 exact qC h.pen (fun g hg=>e g (h.inv g hg) (fun e=>h.nvm (by rw [hg,e])))
theorem DevAt.put_new{w5:World}{i:Nat}{l:List Int}{v:Value}(h:DevAt w p sb bm pv S D)(hi:D.mem.lookup i=none)(hl:i<D.secs.length)(hs:Sec l)
  (hstr:w5.heap[p]?=some (.cells (qw sb D.secs.length bm v D.left D.down) 153 (0,0))) (hsec:w5.heap[sb]?=w.heap[sb]?) (hm:MemAt Tryz.prog 3 w5 bm (qa D.mem i l))
  (hown:w5.ownsRow 0 3 1 v (D.mem.length+1) (qH D.mem++[.int .i64 (i:Int)])) (hz:w.heap.size<=w5.heap.size) (hloc:v.ownBlock=pv.ownBlock\/∃ g,v.ownBlock=some g/\w.heap.size<=g) :
  DevAt w5 p sb bm v (fun k=>S k\/v.ownBlock=some k) (D.put i l)/\(∀ k,k<w.heap.size->(S k\/v.ownBlock=some k)->S k):=by
 have hk:(qa D.mem i l).map (·.1)=D.mem.map (·.1)++[i]:=by rw [zcB,if_neg (QI.1 hi)]
 have e1:qH (qa D.mem i l)=qH D.mem++[.int .i64 (i:Int)]:=by rw [Zy,Zy D.mem,hk];simp
 have e2:(qa D.mem i l).length=D.mem.length+1:=by rw [<- zc0,hk];simp
 have hold:∀ k,v.ownBlock=some k->S k\/w.heap.size<=k:=by
  intro k hv
  rcases hloc with hl | ⟨g,hg,hle⟩
  ·exact .inl (h.inv k (by rw [<- hl];exact hv))
  ·rw [hg] at hv;cases hv;exact .inr hle
 refine⟨⟨h.ok.put hl hs,hstr,h.sec.same hsec,hm,?_,.inl h.inp,.inl h.ins,.inl h.inm,fun g hg=>.inr hg,?_,h.nps,?_,?_⟩,?_⟩
 ·show w5.ownsRow 0 3 1 v (qa D.mem i l).length (qH (qa D.mem i l))
  rw [e1,e2];exact hown
 ·intro k hk
  rcases hk with hk | hk
  ·exact Nat.lt_of_lt_of_le (h.lt k hk) hz
  ·exact(hown.lt k hk).2
 ·intro e
  rcases hloc with hl | ⟨g,hg,hle⟩
  ·exact h.nvp (by rw [<- hl];exact e)
  ·rw [hg] at e;cases e;have:=h.lt p h.inp;omega
 ·intro e
  rcases hloc with hl | ⟨g,hg,hle⟩
  ·exact h.nvs (by rw [<- hl];exact e)
  ·rw [hg] at e;cases e;have:=h.lt sb h.ins;omega
 ·intro k hk hS
  rcases hS with hS | hS
  ·exact hS
  ·rcases hold k hS with h1 | h1
   ·exact h1
   ·omega
theorem DevAt.c0(h:DevAt w p sb bm pv S D):w.cell? ⟨p,0,none⟩=some (.slice (some ⟨sb,0,none⟩) D.secs.length D.secs.length):=by rw [cell_of_row _ _ _ _ _ _ h.str];simp [qw]
theorem DevAt.c1(h:DevAt w p sb bm pv S D):w.cell? ⟨p,1,none⟩=some (.map (some bm)):=by rw [cell_of_row _ _ _ _ _ _ h.str];simp [qw]
theorem DevAt.c2(h:DevAt w p sb bm pv S D):w.cell? ⟨p,2,none⟩=some pv:=by rw [cell_of_row _ _ _ _ _ _ h.str];simp [qw]
theorem DevAt.c3(h:DevAt w p sb bm pv S D):w.cell? ⟨p,3,none⟩=some (.int .i64 D.left):=by rw [cell_of_row _ _ _ _ _ _ h.str];simp [qw]
theorem DevAt.c4(h:DevAt w p sb bm pv S D):w.cell? ⟨p,4,none⟩=some (.bool D.down):=by rw [cell_of_row _ _ _ _ _ _ h.str];simp [qw]
theorem DevAt.fr(h:DevAt w p sb bm pv S D)(i:Nat):w.frozen? ⟨p,i,none⟩=false:=frozen_of_row _ _ _ _ _ h.str
theorem DevAt.pv_cases(h:DevAt w p sb bm pv S D):(pv=.slice none 0 0/\D.mem=[])\/∃ g cap,pv=.slice (some ⟨g,0,none⟩) D.mem.length cap/\D.mem.length<=cap/\cap<=maxLen/\(∀ i,i<D.mem.length->w.cell? ⟨g,i,none⟩=some (.int .i64 ((D.mem.getD i (0,[])).1:Int))):=by
 rcases h.pen.2 with ⟨h1,h2⟩ | ⟨g,cap,cur,h1,_,hb,h3,h4,h5,h6⟩
 ·exact .inl ⟨h1,List.eq_nil_of_length_eq_zero h2⟩
 ·refine .inr ⟨g,cap,h1,h3,h4,fun i hi=>?_⟩
  rw [cell_of_row _ _ _ _ _ _ hb]
  have e:(cur.toList.take (D.mem.length * 1))[i]?=(qH D.mem)[i]?:=by rw [h6]
  rw [List.getElem?_take,if_pos (by omega)] at e
  simp only [Array.getElem?_toList] at e
  rw [e]
  simp [qH,hi,List.getD]
theorem DevAt.pend_cell{g n cap:Nat}(h:DevAt w p sb bm (.slice (some ⟨g,0,none⟩) n cap) S D)(i:Nat)(hi:i<D.mem.length):w.cell? ⟨g,i,none⟩=some (.int .i64 ((D.mem.getD i (0,[])).1:Int)):=by
 rcases h.pv_cases with ⟨e,_⟩ | ⟨g',cap',e,_,_,hc⟩
 ·cases e
 ·simp only [Value.slice.injEq,Option.some.injEq,Addr.mk.injEq,and_true] at e
  rw [e.1];exact hc i hi
end
end Go.Proofs.YtchmlnmhbfaclaaGreatDoor
namespace Go.Proofs.YtchmlnmhbfaclaaGreatDoor
open Go.RowKit
set_option linter.unusedVariables false
theorem zvi:(Tryz.prog.info? 310).map (fun i=>(i.zero,i.size))=some (some (sv (zerosB 32)),32):=by kernel_rfl
theorem zdq:(Tryz.prog.info? 310).map (·.size)=some 32:=by kernel_rfl
theorem zdd(w:World):(zeroValue 310).run Tryz.prog w=.ok (sv (zerosB 32)) w:=(zero_of_info zvi).1 w
theorem Zv(l:List Int):(zl l).all (·.oneCell')=true:=by
 rw [Array.all_eq_true]
 intro i hi
 simp [zl] at hi ⊢
 rfl
theorem zbW(w:World)(l:List Int)(hl:l.length=32) :
  (storeCells ⟨w.heap.size,0,none⟩ (zl l).toList 0).run Tryz.prog (w.alloc (.cells #[.int .u8 0,.int .u8 0,.int .u8 0,.int .u8 0,.int .u8 0,.int .u8 0,.int .u8 0,.int .u8 0,.int .u8 0,.int .u8 0,.int .u8 0,.int .u8 0,.int .u8 0,.int .u8 0,.int .u8 0,.int .u8 0,.int .u8 0,.int .u8 0,.int .u8 0,.int .u8 0,.int .u8 0,.int .u8 0,.int .u8 0,.int .u8 0,.int .u8 0,.int .u8 0,.int .u8 0,.int .u8 0,.int .u8 0,.int .u8 0,.int .u8 0,.int .u8 0] 310))=.ok () (w.alloc (.cells (zl l) 310)) :=
 run_storeCells_new w 310 #[.int .u8 0,.int .u8 0,.int .u8 0,.int .u8 0,.int .u8 0,.int .u8 0,.int .u8 0,.int .u8 0,.int .u8 0,.int .u8 0,.int .u8 0,.int .u8 0,.int .u8 0,.int .u8 0,.int .u8 0,.int .u8 0,.int .u8 0,.int .u8 0,.int .u8 0,.int .u8 0,.int .u8 0,.int .u8 0,.int .u8 0,.int .u8 0,.int .u8 0,.int .u8 0,.int .u8 0,.int .u8 0,.int .u8 0,.int .u8 0,.int .u8 0,.int .u8 0] (zl l) (by rw [zC,hl];exact zdq) (by rw [zC,hl];rfl) (Zv l)
theorem zja{P:Program}{ops:Array Oper}{o:Oper}{a:Act}{w:World}{K:Act->World->Prop}{Q:Exit->Act->World->Prop}{E:Prop}(hgd:o.guard=none)(d s:Operand)(dT sT:TypeId)
  (ho:o.op=.call { callee:=.builtin .copy,args:=#[d,s],argTypes:=#[dT,sT]}) (hu:P.underlying dT=some (.slice 5)) (hsz:(P.info? 5).map (·.size)=some 1)
  (g t off dCap:Nat) (sp:Option Addr) (sCap n:Nat) (z l:List Int) (hn:l.length=n) (hd:a.eval d=.slice (some ⟨g,off,none⟩) n dCap) (hs:a.eval s=.slice sp n sCap)
  (hz:off+l.length<=z.length) (hg:RowT w g t z) (hb:Bs w sp sCap l) (h:K (a.put o.dst (.int .i64 n)) (rowW w g (splice z off l))) :
  if Region.wanted o (yielded ops a.tmps)=true then Oper.wp P o a w K Q else E:=by
 have hw:Region.wanted o (yielded ops a.tmps)=true:=by simp [Region.wanted,hgd]
 rw [if_pos hw]
 subst hn
 have hrun:=ZR (P:=P) w dT sT o.type hu hsz (dCap:=dCap) hz hg hb
 unfold Oper.wp
 simp [execOp,ho,resolve,invoke,builtin,hd,hs,hrun,Result.andThen]
 exact h
section
variable {w:World} {p sb bm:Nat} {pv:Value} {S:Nat->Prop} {D:DS}
set_option maxRecDepth 100000 in
theorem zdV(i n:Nat)(b:List Int)(h:DevAt w p sb bm pv S D)(hi:i<D.secs.length)(hn:n<=32)(hb:D.mem.lookup i=some b) :
  Calls Tryz.prog 169 #[.pointer (some ⟨p,0,none⟩),.int .i64 i,.int .i64 n] w fun e w'=>e=.returned (.tuple #[])/\DevAt w' p sb bm pv S { D with secs:=D.secs.set i (b.take n++(D.secs.getD i []).drop n)}/\Turn S S w w':=by
 have hlen:=h.ok.len
 have c0:=h.c0
 have c1:=h.c1
 have hbs:Sec b:=(h.ok.mem _ (Qw hb)).2
 have hlook:=h.mem.look (E:=310) Tryz.underlying3 Tryz.underlying151 (zdd w) false (i:=i) (by omega)
 have hmv:zh7 D.mem i=b:=by unfold zh7;rw [hb];rfl
 rw [hmv] at hlook
 simp only [Bool.false_eq_true,if_false] at hlook
 unfold sv at hlook
 have hsz:(zl b).size=32:=by rw [zC];exact hbs.1
 have hst:=zbW w b hbs.1
 have hl32:∀ s∈D.secs,s.length=32:=fun s hs=>(h.ok.sec s hs).1
 have hlb:(b.take n).length=n:=by simp [hbs.1];omega
 have hfit:i * 32+(b.take n).length<=D.secs.flatten.length:=by rw [hlb,zek _ hl32];omega
 have hnew:RowT (w.alloc (.cells (zl b) 310)) w.heap.size 310 b:=heap_alloc_new _ _
 have h1:=h.alloc (.cells (zl b) 310)
 have c0':=h1.c0
 have hrow:=h1.sec
 have hsrc:Bs (w.alloc (.cells (zl b) 310)) (some ⟨w.heap.size,0,none⟩) 32 (b.take n):=hnew.bs hbs.2 (by rw [hbs.1];decide) 0 n 32 (by rw [hbs.1];omega) hn
 have H:=zb h1
 clear h hb hmv h1
 go_enter Tryz.func169,Tryz.ntmps169
 go_wp2_with fail
 have e0:(i:Int)<(D.secs.length:Int):=by omega
 have e1:(0:Int)<=(i:Int):=by omega
 have e2:(n:Int)<=32:=by omega
 have e3:(0:Int)<=(n:Int):=by omega
 go_region_law (refine zja rfl (.tmp 20) (.tmp 22) 29 29 rfl Tryz.underlying29 zx sb 310 (i * 32) 32 (some ⟨w.heap.size,0,none⟩) 32 n D.secs.flatten (b.take n) hlb rfl rfl hfit hrow hsrc ?_)
 go_end0
 have h1:=za H
 have es:=zc6 D.secs i (b.take n) hl32 hi (by omega)
 rw [hlb] at es
 refine⟨rfl,?_,?_⟩
 ·rw [es]
  exact h1.drew.setSecs _ (by simp) (fun s hs=>by
   rcases zee hs with h2 | h2
   ·exact h1.ok.sec s h2
   ·rw [h2];exact zmL (zU h1.ok.sec hi) hbs n)
 ·exact(Turn.alloc S w (.cells (zl b) 310)).trans ((Turn.drew S _).trans (Turn.row _ _ h1.ins))
theorem zaf(h:DevAt w p sb bm pv S D) :
  Calls Tryz.prog 170 #[.pointer (some ⟨p,0,none⟩)] w fun e w'=>e=.returned (.tuple #[])/\DevAt w' p sb bm (.slice none 0 0) S { D with mem:=[]}/\Turn S S w w':=by
 have c1:=h.c1
 obtain⟨w1,hrun,hm,ht⟩:=h.mem.clear (E:=310) Tryz.underlying151
 have e:w1.heap[p]?=w.heap[p]?:=ht.grown.block p (h.lt p h.inp) (fun e=>h.npm.symm (Option.some.inj e))
 have c2:w1.cell? ⟨p,2,none⟩=some pv:=(World.cell?_of_block (a:=⟨p,2,none⟩) e).trans h.c2
 have f2:w1.frozen? ⟨p,2,none⟩=false:=(World.frozen?_of_block (a:=⟨p,2,none⟩) e).trans (h.fr 2)
 have H:=zb h
 have HM:=zb hm
 have HT:=zb ht
 clear h hm ht e
 go_enter Tryz.func170,Tryz.ntmps170
 go_wp2
 go_end0
 exact⟨rfl,(za H).forget (za HM) (za HT),(Turn.map (za HT) (za H).inm).trans (Turn.setCell _ _ (za H).inp)⟩
theorem zhF(h:DevAt w p sb bm pv S D) :
  Calls Tryz.prog 168 #[.pointer (some ⟨p,0,none⟩)] w fun e w'=>e=.returned (zK (if D.left=0 then 9 else 0))/\DevAt w' p sb bm pv S D.step/\Turn S S w w':=by
 have c3:=h.c3
 have c4:=h.c4
 have f3:=h.fr 3
 have f4:=h.fr 4
 have hl:=h.ok.left
 have H:=zb h
 clear h
 unfold DS.step
 by_cases h0:D.left=0
 ·rw [if_pos h0,if_pos h0]
  rw [h0] at c3
  have H0:=zb h0
  clear h0
  go_enter Tryz.func168,Tryz.ntmps168
  go_wp2
  go_ret
  exact⟨rfl,(za H).setDown true,Turn.setCell _ _ (za H).inp⟩
 ·rw [if_neg h0,if_neg h0]
  by_cases h1:0<D.left
  ·rw [if_pos h1]
   go_enter Tryz.func168,Tryz.ntmps168
   go_wp2
   go_ret
   exact⟨rfl,(za H).setLeft _ (by omega),Turn.setCell _ _ (za H).inp⟩
  ·rw [if_neg h1]
   go_enter Tryz.func168,Tryz.ntmps168
   go_wp2
   go_ret
   exact⟨rfl,za H,Turn.refl _ _⟩
theorem zvN(n:Int)(hn:-9223372036854775808<=n/\n<=9223372036854775807)(h:DevAt w p sb bm pv S D) :
  Calls Tryz.prog 103 #[.pointer (some ⟨p,0,none⟩),.int .i64 n] w fun e w'=>e=.returned (.tuple #[])/\DevAt w' p sb bm pv S { D with left:=n }/\Turn S S w w':=by
 have c3:=h.c3
 have f3:=h.fr 3
 have H:=zb h
 clear h
 go_enter Tryz.func103,Tryz.ntmps103
 go_wp2
 go_end0
 exact⟨rfl,(za H).setLeft _ hn,Turn.setCell _ _ (za H).inp⟩
theorem znF(h:DevAt w p sb bm pv S D) :
  Calls Tryz.prog 152 #[.pointer (some ⟨p,0,none⟩)] w fun e w'=>e=.returned (.bool D.down)/\w=w':=by
 have c4:=h.c4
 clear h
 go_enter Tryz.func152,Tryz.ntmps152
 go_wp2
 go_ret
 exact⟨rfl,rfl⟩
def hasB(n:Nat)(i:Int):Bool:=decide (0<=i/\i<n)
theorem ze6(i:Int)(h:DevAt w p sb bm pv S D) :
  Calls Tryz.prog 166 #[.pointer (some ⟨p,0,none⟩),.int .i64 i] w fun e w'=>e=.returned (.bool (hasB D.secs.length i))/\w=w':=by
 have c0:=h.c0
 have hlen:=h.ok.len
 clear h
 unfold hasB
 by_cases h0:0<=i
 ·by_cases h1:i<D.secs.length
  ·rw [decide_eq_true ⟨h0,h1⟩]
   go_enter Tryz.func166,Tryz.ntmps166
   go_wp2
   go_ret
   exact⟨rfl,rfl⟩
  ·rw [decide_eq_false (fun h=>h1 h.2)]
   go_enter Tryz.func166,Tryz.ntmps166
   go_wp2
   go_ret
   exact⟨rfl,rfl⟩
 ·rw [decide_eq_false (fun h=>h0 h.1)]
  go_enter Tryz.func166,Tryz.ntmps166
  go_wp2
  go_ret
  exact⟨rfl,rfl⟩
end
theorem zdG:(Tryz.prog.info? 3).map (fun i=>(i.zero,i.size,i.bytes))=some (some (.int .i64 0),1,8):=by kernel_rfl
theorem zfw(w:World)(l:List Int)(t:TypeId):RowT (w.alloc (.cells (zl l) t)) w.heap.size t l:=heap_alloc_new _ _
theorem z32:(#[.int .u8 0,.int .u8 0,.int .u8 0,.int .u8 0,.int .u8 0,.int .u8 0,.int .u8 0,.int .u8 0,.int .u8 0,.int .u8 0,.int .u8 0,.int .u8 0,.int .u8 0,.int .u8 0,.int .u8 0,.int .u8 0,.int .u8 0,.int .u8 0,.int .u8 0,.int .u8 0,.int .u8 0,.int .u8 0,.int .u8 0,.int .u8 0,.int .u8 0,.int .u8 0,.int .u8 0,.int .u8 0,.int .u8 0,.int .u8 0,.int .u8 0,.int .u8 0]:Array Value)=zl (zerosB 32):=rfl
theorem size_alloc(w:World)(o:Obj):(w.alloc o).heap.size=w.heap.size+1:=by simp
theorem znL(w:World)(a:Option Addr)(cap:Nat)(l:List Int)(hl:l.length=32)(hb:Bs (w.alloc (.cells #[.int .u8 0,.int .u8 0,.int .u8 0,.int .u8 0,.int .u8 0,.int .u8 0,.int .u8 0,.int .u8 0,.int .u8 0,.int .u8 0,.int .u8 0,.int .u8 0,.int .u8 0,.int .u8 0,.int .u8 0,.int .u8 0,.int .u8 0,.int .u8 0,.int .u8 0,.int .u8 0,.int .u8 0,.int .u8 0,.int .u8 0,.int .u8 0,.int .u8 0,.int .u8 0,.int .u8 0,.int .u8 0,.int .u8 0,.int .u8 0,.int .u8 0,.int .u8 0] 310)) a cap l) :
  (Builtin.copy_ #[29,29] 3 #[.slice (some ⟨w.heap.size,0,none⟩) 32 32,.slice a 32 cap]).run Tryz.prog (w.alloc (.cells #[.int .u8 0,.int .u8 0,.int .u8 0,.int .u8 0,.int .u8 0,.int .u8 0,.int .u8 0,.int .u8 0,.int .u8 0,.int .u8 0,.int .u8 0,.int .u8 0,.int .u8 0,.int .u8 0,.int .u8 0,.int .u8 0,.int .u8 0,.int .u8 0,.int .u8 0,.int .u8 0,.int .u8 0,.int .u8 0,.int .u8 0,.int .u8 0,.int .u8 0,.int .u8 0,.int .u8 0,.int .u8 0,.int .u8 0,.int .u8 0,.int .u8 0,.int .u8 0] 310))=.ok (.int .i64 32) (w.alloc (.cells (zl l) 310)):=by
 have h:=ZR (P:=Tryz.prog) (w.alloc (.cells #[.int .u8 0,.int .u8 0,.int .u8 0,.int .u8 0,.int .u8 0,.int .u8 0,.int .u8 0,.int .u8 0,.int .u8 0,.int .u8 0,.int .u8 0,.int .u8 0,.int .u8 0,.int .u8 0,.int .u8 0,.int .u8 0,.int .u8 0,.int .u8 0,.int .u8 0,.int .u8 0,.int .u8 0,.int .u8 0,.int .u8 0,.int .u8 0,.int .u8 0,.int .u8 0,.int .u8 0,.int .u8 0,.int .u8 0,.int .u8 0,.int .u8 0,.int .u8 0] 310)) 29 29 3 Tryz.underlying29 zx (dCap:=32) (g:=w.heap.size) (t:=310) (off:=0) (z:=zerosB 32) (l:=l) (by rw [hl,length_zerosB];decide) (zfw w (zerosB 32) _) hb
 rw [hl] at h
 rw [h,splice_zero _ _ (by rw [hl,length_zerosB])]
 unfold rowW
 rw [World.setRow_alloc_new]
 rfl
theorem zgY(w:World)(l:List Int):(w.alloc (.cells (zl l) 310)).rangeAt w.heap.size 0 (l.map (Value.int .u8)):=by
 intro j v hv
 rw [Nat.zero_add,cell_of_row _ _ j _ _ (0,0) (heap_alloc_new w _)]
 simpa [zl] using hv
theorem zdT(w:World)(o:Obj)(x:Value)(t:TypeId):∀ j u,([x]:List Value)[j]?=some u->((w.alloc o).alloc (.cells #[x] t)).cell? (Addr.add ⟨w.heap.size+1,0,none⟩ j)=some u:=by
 intro j u hj
 cases j with
 | zero =>
  simp at hj;subst hj
  rw [addr_add,cell_of_row _ _ _ _ _ (0,0) (heap_alloc2_new w o _)]
  simp
 | succ j=>simp at hj
theorem zlv(x:Int):∀ u∈([.int .i64 x]:List Value),u.oneCell'=true:=by
 intro u hu;simp at hu;subst hu;rfl
section
variable {w:World} {p sb bm:Nat} {pv:Value} {S:Nat->Prop} {D:DS}
set_option maxRecDepth 100000 in
theorem zjx(i:Nat)(a:Option Addr)(cap:Nat)(l:List Int)(h:DevAt w p sb bm pv S D)(hi:i<D.secs.length)(hb:Bs w a cap l)(hl:l.length=32)(hn:∀ x,a=some x->¬ S x.block)(c:List Int)(hc:D.mem.lookup i=some c) :
  Calls Tryz.prog 167 #[.pointer (some ⟨p,0,none⟩),.int .i64 i,.slice a 32 cap] w fun e w'=>e=.returned (.tuple #[])/\(∃ pv' S',DevAt w' p sb bm pv' S' (D.put i l)/\Turn S S' w w'):=by
 have hlen:=h.ok.len
 have c1:=h.c1
 have hcs:Sec c:=(h.ok.mem _ (Qw hc)).2
 have hlook:=h.mem.look (E:=310) Tryz.underlying3 Tryz.underlying151 (zdd w) true (i:=i) (by omega)
 have hmv:zh7 D.mem i=c:=by unfold zh7;rw [hc];rfl
 rw [hmv,hc] at hlook
 simp only [if_true,Option.isSome_some] at hlook
 unfold sv at hlook
 have hsz:(zl c).size=32:=by rw [zC];exact hcs.1
 have hst:=zbW w c hcs.1
 have hcopy:=znL (w.alloc (.cells (zl c) 310)) a cap l hl (hb.turn ((Turn.alloc S _ _).trans (Turn.alloc S _ _)) hn)
 rw [size_alloc] at hcopy
 have ht2:Turn S S w ((w.alloc (.cells (zl c) 310)).alloc (.cells (zl l) 310)):=(Turn.alloc S _ _).trans (Turn.alloc S _ _)
 have h2:=(h.alloc (.cells (zl c) 310)).alloc (.cells (zl l) 310)
 obtain⟨w3,hup,hm3,ht3⟩:=h2.drew.mem.store (E:=310) Tryz.underlying3 Tryz.underlying151 h.ok.mem_len (i:=i) (by omega) hl
 have hup':Sem.run Tryz.prog (Instr.mapUpdate 151 (.map (some bm)) (.int .i64 i) (.agg (l.map (Value.int .u8)).toArray)) (World.drew ((w.alloc (.cells (zl c) 310)).alloc (.cells (zl l) 310)))=.ok () w3:=hup
 clear hup
 have c1':=h2.c1
 have hrg:((w.alloc (.cells (zl c) 310)).alloc (.cells (zl l) 310)).rangeAt (w.heap.size+1) 0 (l.map (Value.int .u8)):=by
  have:=zgY (w.alloc (.cells (zl c) 310)) l
  rwa [size_alloc] at this
 have hu:=Tryz.underlying310
 have hin:(Tryz.prog.info? 310).map (·.size)=some (l.map (Value.int .u8)).length:=by rw [List.length_map,hl];exact zdq
 have hll:(l.map (Value.int .u8)).length=32:=by rw [List.length_map,hl]
 have hon:=oneCell_u8 l
 have c13:w3.cell? ⟨p,1,none⟩=some (.map (some bm)):=(World.cell?_of_block (a:=⟨p,1,none⟩) (ht3.grown.block p (h2.drew.lt _ h2.inp) (fun e=>h2.npm.symm (Option.some.inj e)))).trans c1'
 have rg3:w3.rangeAt (w.heap.size+1) 0 (l.map (Value.int .u8)):=fun j v hv=>(World.cell?_of_block (a:=⟨w.heap.size+1,0+j,none⟩) (ht3.grown.block (w.heap.size+1) (by simp) (fun e=>by have:=h.lt bm h.inm;have:=Option.some.inj e;omega))).trans (hrg j v hv)
 have H:=zb h2
 have HT:=zb ht2
 have HC:=zb hc
 have HM:=zb hm3
 have HU:=zb ht3
 clear h hc hmv h2 ht2 hm3 ht3
 go_enter Tryz.func167,Tryz.ntmps167
 go_wp2_with fail
 go_region_held3 (fun w'=>w'.cell? ⟨p,1,none⟩=some (.map (some bm))/\w'.rangeAt (w.heap.size+1) 0 (l.map (Value.int .u8))) (first | go_keep_ranges | exact⟨c13,rg3⟩) (fail)
 go_end0
 have h2:=za H
 refine⟨rfl,pv,S,?_,(za HT).trans ((Turn.drew S _).trans (Turn.map (za HU) h2.inm))⟩
 exact h2.drew.put_old (by rw [za HC];rfl) hi ⟨hl,hb.1⟩ (za HM) (za HU)
set_option maxRecDepth 100000 in
theorem zjy(i:Nat)(a:Option Addr)(cap:Nat)(l:List Int)(h:DevAt w p sb bm pv S D)(hi:i<D.secs.length)(hb:Bs w a cap l)(hl:l.length=32)(hn:∀ x,a=some x->¬ S x.block)(hc:D.mem.lookup i=none) :
  Calls Tryz.prog 167 #[.pointer (some ⟨p,0,none⟩),.int .i64 i,.slice a 32 cap] w fun e w'=>e=.returned (.tuple #[])/\(∃ pv' S',DevAt w' p sb bm pv' S' (D.put i l)/\Turn S S' w w'):=by
 have hlen:=h.ok.len
 have hml:=h.ok.mem_len
 have c1:=h.c1
 have hlook:=h.mem.look (E:=310) Tryz.underlying3 Tryz.underlying151 (zdd w) true (i:=i) (by omega)
 have hmv:zh7 D.mem i=zerosB 32:=by unfold zh7;rw [hc];rfl
 rw [hmv,hc] at hlook
 simp only [if_true,Option.isSome_none] at hlook
 unfold sv at hlook
 generalize hzz:zerosB 32=zz at hlook
 have hzl:zz.length=32:=by rw [<- hzz];exact length_zerosB 32
 have hsz:(zl zz).size=32:=by rw [zC];exact hzl
 have hst:=zbW w zz hzl
 clear hzz hzl
 have h1:=(h.alloc (.cells (zl zz) 310))
 have c2:=h1.c2
 obtain⟨i0,hi0,hz0,hz1,hz2⟩:=info_parts zdG
 have hown1:=(h1.alloc (.cells #[.int .i64 (i:Int)] 3)).pen
 have ht1:Turn S S w ((w.alloc (.cells (zl zz) 310)).alloc (.cells #[.int .i64 (i:Int)] 3)):=(Turn.alloc S _ _).trans (Turn.alloc S _ _)
 have H:=zb h
 have HT:=zb ht1
 have HC:=zb hc
 have HO:=zb hown1
 clear h hc hmv h1 ht1 hown1
 go_enter Tryz.func167,Tryz.ntmps167
 go_wp2_with (at_builtin;refine wpList_append_own_at _ rfl _ _ 90 rfl 0 3 i0 (.int .i64 0) 1 8 Tryz.underlying90 hi0 hz0 hz1 hz2 rfl (by decide) _ _ _ rfl (za HO) ⟨w.heap.size+1,0,none⟩ 1 1 [.int .i64 (i:Int)] rfl rfl (zdT _ _ _ _) (zlv _) (by unfold maxLen;omega) (by omega) (by omega) ?_)
 intro v0 w2 hown2 hgrow2 hnil hloc
 obtain⟨vg,vc,rfl⟩:∃ vg vc,v0=.slice (some ⟨vg,0,none⟩) (D.mem.length+1) vc:=by
  rcases hown2.2 with ⟨_,h0⟩ | ⟨g,vc,cur,h0,_⟩
  ·omega
  ·exact⟨g,vc,h0⟩
 have h:=za H
 have ht2:Turn S S w w2:=(za HT).trans (Turn.grown hgrow2 (fun k hk=>h.inv k hk))
 have hp2:w2.heap[p]?=some (.cells (qw sb D.secs.length bm pv D.left D.down) 153 (0,0)):=by
  rw [hgrow2.block p (by have:=h.lt p h.inp;simp;omega) (fun e=>h.nvp e.symm)]
  exact((h.alloc _).alloc _).str
 have hs2:w2.heap[sb]?=w.heap[sb]?:=by
  rw [hgrow2.block sb (by have:=h.lt sb h.ins;simp;omega) (fun e=>h.nvs e.symm)]
  exact(heap_alloc_old _ _ (by have:=h.lt sb h.ins;simp;omega)).trans (heap_alloc_old _ _ (h.lt sb h.ins))
 have hm2:w2.heap[bm]?=w.heap[bm]?:=by
  rw [hgrow2.block bm (by have:=h.lt bm h.inm;simp;omega) (fun e=>h.nvm e.symm)]
  exact(heap_alloc_old _ _ (by have:=h.lt bm h.inm;simp;omega)).trans (heap_alloc_old _ _ (h.lt bm h.inm))
 have hvp:(Value.slice (some ⟨vg,0,none⟩) (D.mem.length+1) vc).ownBlock≠some p:=by
  intro e
  rcases hloc with h1 | h1
  ·exact h.nvp (by rw [<- h1];exact e)
  ·rw [h1] at e;have:=Option.some.inj e;have:=h.lt p h.inp;omega
 have hvm:(Value.slice (some ⟨vg,0,none⟩) (D.mem.length+1) vc).ownBlock≠some bm:=by
  intro e
  rcases hloc with h1 | h1
  ·exact h.nvm (by rw [<- h1];exact e)
  ·rw [h1] at e;have:=Option.some.inj e;have:=h.lt bm h.inm;omega
 have hlo:(Value.slice (some ⟨vg,0,none⟩) (D.mem.length+1) vc).ownBlock=pv.ownBlock\/∃ g,(Value.slice (some ⟨vg,0,none⟩) (D.mem.length+1) vc).ownBlock=some g/\w.heap.size<=g:=by
  rcases hloc with h1 | h1
  ·exact .inl h1
  ·exact .inr ⟨_,h1,by omega⟩
 have c22:w2.cell? ⟨p,2,none⟩=some pv:=by rw [cell_of_row _ _ _ _ _ _ hp2];simp [qw]
 have f22:w2.frozen? ⟨p,2,none⟩=false:=frozen_of_row _ _ _ _ _ hp2
 have hz3:(w2.setCell ⟨p,2,none⟩ (.slice (some ⟨vg,0,none⟩) (D.mem.length+1) vc)).heap.size=w2.heap.size:=by simp
 have hp3:(w2.setCell ⟨p,2,none⟩ (.slice (some ⟨vg,0,none⟩) (D.mem.length+1) vc)).heap[p]?=some (.cells (qw sb D.secs.length bm (.slice (some ⟨vg,0,none⟩) (D.mem.length+1) vc) D.left D.down) 153 (0,0)):=by
  rw [heap_setCell_same _ _ _ _ _ _ hp2];simp [qw]
 have hs3:(w2.setCell ⟨p,2,none⟩ (.slice (some ⟨vg,0,none⟩) (D.mem.length+1) vc)).heap[sb]?=w.heap[sb]?:=(heap_setCell_other _ _ _ _ h.nps.symm).trans hs2
 have hm3:(w2.setCell ⟨p,2,none⟩ (.slice (some ⟨vg,0,none⟩) (D.mem.length+1) vc)).heap[bm]?=w.heap[bm]?:=(heap_setCell_other _ _ _ _ h.npm).trans hm2
 have ho3:(w2.setCell ⟨p,2,none⟩ (.slice (some ⟨vg,0,none⟩) (D.mem.length+1) vc)).ownsRow 0 3 1 (.slice (some ⟨vg,0,none⟩) (D.mem.length+1) vc) (D.mem.length+1) (qH D.mem++[.int .i64 (i:Int)]) :=
  qC hown2 (fun g hg=>heap_setCell_other _ _ _ _ (fun e=>hvp (by rw [hg,e])))
 have ht3:Turn S S w (w2.setCell ⟨p,2,none⟩ (.slice (some ⟨vg,0,none⟩) (D.mem.length+1) vc)):=ht2.trans (Turn.setCell _ _ h.inp)
 have hzw:w.heap.size<=w2.heap.size:=ht2.size
 have hlp:=h.lt p h.inp
 have hls:=h.lt sb h.ins
 have hlm:=h.lt bm h.inm
 have hcopy:=znL (w2.setCell ⟨p,2,none⟩ (.slice (some ⟨vg,0,none⟩) (D.mem.length+1) vc)) a cap l hl ((hb.turn ht3 hn).below ((Below.refl _ _).alloc (Nat.le_refl _) _))
 have ht4:Turn S S w ((w2.setCell ⟨p,2,none⟩ (.slice (some ⟨vg,0,none⟩) (D.mem.length+1) vc)).alloc (.cells (zl l) 310)):=ht3.trans (Turn.alloc S _ _)
 have hmem4:MemAt Tryz.prog 3 (World.drew ((w2.setCell ⟨p,2,none⟩ (.slice (some ⟨vg,0,none⟩) (D.mem.length+1) vc)).alloc (.cells (zl l) 310))) bm D.mem:=h.mem.same ((heap_alloc_old _ _ (by rw [hz3];omega)).trans hm3)
 obtain⟨w5,hup,hm5,ht5⟩:=hmem4.store (E:=310) Tryz.underlying3 Tryz.underlying151 hml (i:=i) (by omega) hl
 have hup':Sem.run Tryz.prog (Instr.mapUpdate 151 (.map (some bm)) (.int .i64 i) (.agg (l.map (Value.int .u8)).toArray)) (World.drew ((w2.setCell ⟨p,2,none⟩ (.slice (some ⟨vg,0,none⟩) (D.mem.length+1) vc)).alloc (.cells (zl l) 310)))=.ok () w5:=hup
 have hp4:((w2.setCell ⟨p,2,none⟩ (.slice (some ⟨vg,0,none⟩) (D.mem.length+1) vc)).alloc (.cells (zl l) 310)).heap[p]?=some (.cells (qw sb D.secs.length bm (.slice (some ⟨vg,0,none⟩) (D.mem.length+1) vc) D.left D.down) 153 (0,0)):=(heap_alloc_old _ _ (by rw [hz3];omega)).trans hp3
 have c14:((w2.setCell ⟨p,2,none⟩ (.slice (some ⟨vg,0,none⟩) (D.mem.length+1) vc)).alloc (.cells (zl l) 310)).cell? ⟨p,1,none⟩=some (.map (some bm)):=by rw [cell_of_row _ _ _ _ _ _ hp4];simp [qw]
 have hrg:=zgY (w2.setCell ⟨p,2,none⟩ (.slice (some ⟨vg,0,none⟩) (D.mem.length+1) vc)) l
 have hp5:w5.heap[p]?=some (.cells (qw sb D.secs.length bm (.slice (some ⟨vg,0,none⟩) (D.mem.length+1) vc) D.left D.down) 153 (0,0)) :=
  (ht5.grown.block p (by show p<(World.alloc _ _).heap.size;rw [size_alloc,hz3];omega) (fun e=>h.npm.symm (Option.some.inj e))).trans hp4
 have c15:w5.cell? ⟨p,1,none⟩=some (.map (some bm)):=by rw [cell_of_row _ _ _ _ _ _ hp5];simp [qw]
 have hb5:w5.heap[(w2.setCell ⟨p,2,none⟩ (.slice (some ⟨vg,0,none⟩) (D.mem.length+1) vc)).heap.size]?=((w2.setCell ⟨p,2,none⟩ (.slice (some ⟨vg,0,none⟩) (D.mem.length+1) vc)).alloc (.cells (zl l) 310)).heap[(w2.setCell ⟨p,2,none⟩ (.slice (some ⟨vg,0,none⟩) (D.mem.length+1) vc)).heap.size]?:=ht5.grown.block _ (by show _<(World.alloc _ _).heap.size;rw [size_alloc];omega) (fun e=>by have:=Option.some.inj e;rw [hz3] at this;omega)
 have rg5:w5.rangeAt (w2.setCell ⟨p,2,none⟩ (.slice (some ⟨vg,0,none⟩) (D.mem.length+1) vc)).heap.size 0 (l.map (Value.int .u8)):=fun j v hv=>(World.cell?_of_block (a:=⟨(w2.setCell ⟨p,2,none⟩ (.slice (some ⟨vg,0,none⟩) (D.mem.length+1) vc)).heap.size,0+j,none⟩) hb5).trans (hrg j v hv)
 have hs5:w5.heap[sb]?=w.heap[sb]?:=(ht5.grown.block sb (by show sb<(World.alloc _ _).heap.size;rw [size_alloc,hz3];omega) (fun e=>h.nsm.symm (Option.some.inj e))).trans ((heap_alloc_old _ _ (by rw [hz3];omega)).trans hs3)
 have ho5:w5.ownsRow 0 3 1 (.slice (some ⟨vg,0,none⟩) (D.mem.length+1) vc) (D.mem.length+1) (qH D.mem++[.int .i64 (i:Int)]) :=
  qC ho3 (fun g hg=>by
   have hlt:g<(w2.setCell ⟨p,2,none⟩ (.slice (some ⟨vg,0,none⟩) (D.mem.length+1) vc)).heap.size:=(ho3.lt g hg).2
   exact(ht5.grown.block g (by show g<(World.alloc _ _).heap.size;rw [size_alloc];omega) (fun e=>hvm (by rw [hg,e]))).trans (heap_alloc_old _ _ hlt))
 have ht6:Turn S S w w5:=ht4.trans ((Turn.drew S _).trans (Turn.map ht5 h.inm))
 have hfin:=h.put_new (za HC) hi ⟨hl,hb.1⟩ hp5 hs5 hm5 ho5 ht6.size hlo
 have HF:=zb hfin
 have HT6:=zb ht6
 rw [hz3] at hcopy hrg rg5
 have hu:=Tryz.underlying310
 have hin:(Tryz.prog.info? 310).map (·.size)=some (l.map (Value.int .u8)).length:=by rw [List.length_map,hl];exact zdq
 have hll:(l.map (Value.int .u8)).length=32:=by rw [List.length_map,hl]
 have hon:=oneCell_u8 l
 clear h ht2 hp2 hs2 hm2 hvp hvm hlo hp3 hs3 hm3 ho3 ht3 ht4 hmem4 hup hm5 ht5 hp4 hp5 hs5 hb5 ho5 ht6 hfin hown2 hgrow2 hnil hloc hlook hst hsz c1 c2 H HT HO HC hi0 hz0 hz1 hz2
 go_wp2_with fail
 go_region_held3 (fun w'=>w'.cell? ⟨p,1,none⟩=some (.map (some bm))/\w'.rangeAt w2.heap.size 0 (l.map (Value.int .u8))) (first | go_keep_ranges | exact⟨c15,rg5⟩) (fail)
 go_end0
 exact⟨rfl,(Value.slice (some ⟨vg,0,none⟩) (D.mem.length+1) vc),_,(za HF).1,(za HT6).os,(za HT6).tape,(za HT6).output,(za HT6).size,(za HT6).block,(za HF).2⟩
end
section
variable {w:World} {p:Nat} {S:Nat->Prop} {D:DS}
theorem zjz{sb bm:Nat}{pv:Value}(i:Nat)(a:Option Addr)(cap:Nat)(l:List Int)(h:DevAt w p sb bm pv S D)(hi:i<D.secs.length)(hb:Bs w a cap l)(hl:l.length=32)(hn:∀ x,a=some x->¬ S x.block) :
  Calls Tryz.prog 167 #[.pointer (some ⟨p,0,none⟩),.int .i64 i,.slice a 32 cap] w fun e w'=>e=.returned (.tuple #[])/\(∃ pv' S',DevAt w' p sb bm pv' S' (D.put i l)/\Turn S S' w w'):=by
 cases hc:D.mem.lookup i with
 | none=>exact zjy i a cap l h hi hb hl hn hc
 | some c=>exact zjx i a cap l h hi hb hl hn c hc
theorem zpQ(i:Int)(a:Option Addr)(cap:Nat)(l:List Int)(h:Dev w p S D)(hb:Bs w a cap l)(hn:l≠[]->∀ x,a=some x->¬ S x.block) :
  Calls Tryz.prog 119 #[.pointer (some ⟨p,0,none⟩),.int .i64 i,.slice a l.length cap] w fun e w'=>e=.returned (zK (D.writeE i l))/\(∃ S',Dev w' p S' (D.write i l)/\Turn S S' w w'):=by
 obtain⟨sb,bm,pv,h⟩:=h
 have hlen:=hb.2.2.1
 have c4:=h.c4
 have hhas:=ze6 i h
 unfold DS.writeE DS.write
 by_cases h1:i<0\/(D.secs.length:Int)<=i
 ·rw [if_pos h1,if_pos (by rcases h1 with h1 | h1;exact .inl h1;exact .inr (.inl h1))]
  have hf:hasB D.secs.length i=false:=decide_eq_false (by omega)
  rw [hf] at hhas
  have H:=zb h
  have HH:=zb hhas
  clear h hhas h1 hf c4
  go_enter Tryz.func119,Tryz.ntmps119
  go_wp2_with fail
  refine(za HH).mono ?_
  rintro e w1 ⟨rfl,rfl⟩
  go_wp2
  go_ret
  exact⟨rfl,S,⟨sb,bm,pv,za H⟩,Turn.refl _ _⟩
 ·rw [if_neg h1]
  have hf:hasB D.secs.length i=true:=decide_eq_true (by omega)
  rw [hf] at hhas
  obtain⟨k,rfl⟩:∃ k:Nat,i=k:=⟨i.toNat,by omega⟩
  have hk:k<D.secs.length:=by omega
  have HH:=zb hhas
  by_cases h2:l.length≠32
  ·rw [if_pos h2,if_pos (.inr (.inr (.inl h2)))]
   have h2':¬ (l.length:Int)=32:=by omega
   have H:=zb h
   clear h hhas h1 hf c4 h2
   go_enter Tryz.func119,Tryz.ntmps119
   go_wp2_with fail
   refine(za HH).mono ?_
   rintro e w1 ⟨rfl,rfl⟩
   go_wp2
   go_ret
   exact⟨rfl,S,⟨sb,bm,pv,za H⟩,Turn.refl _ _⟩
  ·rw [if_neg h2]
   have h2':l.length=32:=Classical.byContradiction h2
   by_cases h3:D.down=true
   ·rw [if_pos h3,if_pos (.inr (.inr (.inr h3)))]
    rw [h3] at c4
    have H:=zb h
    rw [h2']
    clear h hhas h1 hf h2 hb hlen
    go_enter Tryz.func119,Tryz.ntmps119
    go_wp2_with fail
    refine(za HH).mono ?_
    rintro e w1 ⟨rfl,rfl⟩
    go_wp2
    go_ret
    exact⟨rfl,S,⟨sb,bm,pv,za H⟩,Turn.refl _ _⟩
   ·have h3':D.down=false:=by simpa using h3
    have hcond:¬ ((k:Int)<0\/(D.secs.length:Int)<=(k:Int)\/l.length≠32\/D.down=true):=by
     rintro (h4 | h4 | h4 | h4)
     ·omega
     ·omega
     ·exact h4 h2'
     ·exact h3 h4
    rw [if_neg h3,if_neg hcond]
    rw [h3'] at c4
    have hr:=zjz k a cap l h hk hb h2' (hn (by intro e;rw [e] at h2';cases h2'))
    have HR:=zb hr
    obtain⟨E,hE⟩:∃ E:Int,(if D.left=0 then (9:Int) else 0)=E:=⟨_,rfl⟩
    have hst:∀ w1 pv' S',DevAt w1 p sb bm pv' S' (D.put k l)->Calls Tryz.prog 168 #[.pointer (some ⟨p,0,none⟩)] w1 fun e w'=>e=.returned (zK E)/\DevAt w' p sb bm pv' S' (D.put k l).step/\Turn S' S' w1 w':=by
     intro w1 pv' S' h'
     rw [<- hE];exact zhF h'
    have HST:=zb hst
    clear hst
    rw [hE]
    clear hE
    rw [h2']
    clear h hhas h1 hf h2 h3 hr hb hlen hcond
    go_enter Tryz.func119,Tryz.ntmps119
    go_wp2_with fail
    refine(za HH).mono ?_
    rintro e w1 ⟨rfl,rfl⟩
    go_wp2_with fail
    refine(za HR).mono ?_
    rintro e w1 ⟨rfl,pv',S',h',ht⟩
    go_wp2_with fail
    refine(za HST w1 pv' S' h').mono ?_
    rintro e w2 ⟨rfl,h'',ht'⟩
    go_wp2
    go_ret
    exact⟨rfl,S',⟨sb,bm,pv',h''⟩,ht.trans ht'⟩
theorem zdn{s b:List Int}(hs:Sec s)(hb:Sec b):b.take 32++s.drop 32=b:=by
 rw [List.take_of_length_le (by rw [hb.1];exact Nat.le_refl _),List.drop_eq_nil_of_le (by rw [hs.1];exact Nat.le_refl _),List.append_nil]
theorem zvI{sb bm:Nat}{pv:Value}(h:DevAt w p sb bm pv S D)(h1:D.down=false)(h2:¬ D.left=0) :
  Calls Tryz.prog 120 #[.pointer (some ⟨p,0,none⟩)] w fun e w'=>e=.returned .nilIface/\(∃ S',Dev w' p S' D.step.flush/\Turn S S' w w'):=by
 have c4:=h.c4
 rw [h1] at c4
 have hst:=zhF h
 rw [if_neg h2] at hst
 have HS:=zb hst
 have hok:=h.ok
 clear h hst
 go_enter Tryz.func120,Tryz.ntmps120
 go_wp2_with fail
 refine(za HS).mono ?_
 rintro e w1 ⟨rfl,h',ht⟩
 rw [zf]
 clear HS c4
 have c2:=h'.c2
 have H:=zb h'
 have HT:=zb ht
 have hml:=h'.ok.mem_len
 rcases h'.pv_cases with ⟨rfl,hm0⟩ | ⟨g,cap,rfl,hcap,hcm,hcell⟩
 ·clear h' ht
  have hfl:D.step.flush={ D.step with mem:=[]}:=by unfold DS.flush;rw [hm0];rfl
  go_wp2_with fail
  go_loop [21] (fun v=>v=.int .i64 0) (fun _=>0)
  case atStart=>rfl
  case round =>
   subst hrel
   go_wp2_with fail
   refine(zaf (za H)).mono ?_
   rintro e w2 ⟨rfl,h2',ht2⟩
   go_wp2
   go_ret
   exact⟨rfl,S,⟨sb,bm,_,by rw [hfl];exact h2'⟩,(za HT).trans ht2⟩
 ·clear h' ht hcell
  unfold maxLen at hcm
  go_wp2_with fail
  go_loopw [21] (fun v wr=>∃ k:Nat,k<=D.step.mem.length/\v=.int .i64 k/\DevAt wr p sb bm (.slice (some ⟨g,0,none⟩) D.step.mem.length cap) S { D.step with secs:=Qp D.step.secs D.step.mem k }/\Turn S S w wr) (fun v _=>D.step.mem.length-(intOf v).toNat)
  case atStart=>exact⟨0,Nat.zero_le _,rfl,za H,za HT⟩
  case round =>
   obtain⟨k,hk,rfl,hd,htr⟩:=hrel
   by_cases hlt:k<D.step.mem.length
   ·obtain⟨ky,bd,hkb⟩:∃ ky bd,D.step.mem.getD k (0,[])=(ky,bd):=⟨_,_,rfl⟩
    have hpc:=hd.pend_cell k hlt
    have hpm:D.step.mem.getD k (0,[])∈D.step.mem:=zaD hlt
    have hlk:=zfQ hd.ok.apart hlt
    have hset0:Qp D.step.secs D.step.mem (k+1)=(Qp D.step.secs D.step.mem k).set (D.step.mem.getD k (0,[])).1 (D.step.mem.getD k (0,[])).2:=rfl
    simp only [hkb] at hpc hpm hlk hset0
    have hq:=hd.ok.mem _ hpm
    have hbr:=zdV ky 32 bd hd hq.1 (Nat.le_refl _) hlk
    have hset:Qp D.step.secs D.step.mem (k+1)=(Qp D.step.secs D.step.mem k).set ky (bd.take 32++((Qp D.step.secs D.step.mem k).getD ky []).drop 32):=by
     rw [zdn (zU hd.ok.sec hq.1) hq.2];exact hset0
    have HB:=zb hbr
    have HS:=zb hset
    have HTR:=zb htr
    clear hbr hset hset0 htr hd hpm hlk hq hkb H HT hok
    go_wp2_with fail
    refine(za HB).mono ?_
    rintro e w2 ⟨rfl,hd2,ht2⟩
    go_wp2
    go_roundw
    case rel=>exact⟨k+1,by omega,by go_num,by rw [za HS];exact hd2,(za HTR).trans ht2⟩
    case measure=>simp [intOf];omega
   ·obtain rfl:k=D.step.mem.length:=by omega
    clear H HT hok
    go_wp2_with fail
    refine(zaf hd).mono ?_
    rintro e w2 ⟨rfl,h2',ht2⟩
    go_wp2
    go_ret
    exact⟨rfl,S,⟨sb,bm,_,h2'⟩,htr.trans ht2⟩
theorem zsC(h:Dev w p S D) :
  Calls Tryz.prog 120 #[.pointer (some ⟨p,0,none⟩)] w fun e w'=>e=.returned (zK D.flushE)/\(∃ S',Dev w' p S' D.doFlush/\Turn S S' w w'):=by
 obtain⟨sb,bm,pv,h⟩:=h
 unfold DS.flushE DS.doFlush
 by_cases h1:D.down=true
 ·rw [if_pos h1,if_pos h1]
  have c4:=h.c4
  rw [h1] at c4
  have H:=zb h
  clear h
  go_enter Tryz.func120,Tryz.ntmps120
  go_wp2
  go_ret
  exact⟨rfl,S,⟨sb,bm,pv,za H⟩,Turn.refl _ _⟩
 ·rw [if_neg h1,if_neg h1]
  have h1':D.down=false:=by simpa using h1
  by_cases h2:D.left=0
  ·rw [if_pos h2,if_pos h2]
   have c4:=h.c4
   rw [h1'] at c4
   have hst:=zhF h
   rw [if_pos h2] at hst
   have he:D.step={ D with down:=true }:=by unfold DS.step;rw [if_pos h2]
   rw [he] at hst
   have HS:=zb hst
   clear h hst he h1 h2
   go_enter Tryz.func120,Tryz.ntmps120
   go_wp2_with fail
   refine(za HS).mono ?_
   rintro e w1 ⟨rfl,h',ht⟩
   rw [zh 9 (by decide)]
   go_wp2
   go_ret
   exact⟨rfl,S,⟨sb,bm,pv,h'⟩,ht⟩
  ·rw [if_neg h2,if_neg h2]
   exact zvI h h1' h2
end
def Bls(w:World)(a:Option Addr)(cap:Nat)(l:List Bool):Prop :=
 l.length<=cap/\l.length<=140737488351232/\(l≠[]->∃ b off,a=some ⟨b,off,none⟩/\∀ i,i<l.length->w.cell? ⟨b,off+i,none⟩=some (.bool (l.getD i false)))
def zma(c:Int):Nat:=(min (max c 0) 32).toNat
theorem zs3(c:Int):zma c<=32:=by unfold zma;omega
theorem zs4(c:Int):min (max c 0) 32=(zma c:Int):=by unfold zma;omega
theorem ZQ(l:List (List Int))(i:Nat):l.set i (l.getD i [])=l:=by
 by_cases h:i<l.length
 ·have:l.getD i []=l[i]:=by simp [List.getD,h]
  rw [this];exact List.set_getElem_self h
 ·exact List.set_eq_of_length_le (by omega)
section
variable {w:World} {p:Nat} {S:Nat->Prop} {D:DS}
theorem zge{secs:List (List Int)}{mem:List (Nat×List Int)}(keep:List Bool)(zR:Int)(cut k ky:Nat)(bd:List Int)(h:mem.getD k (0,[])=(ky,bd)) :
  qE secs mem keep zR cut (k+1)=(qE secs mem keep zR cut k).set ky (one keep zR cut k ((qE secs mem keep zR cut k).getD ky []) bd):=by
 show(qE secs mem keep zR cut k).set (mem.getD k (0,[])).1 (one keep zR cut k ((qE secs mem keep zR cut k).getD (mem.getD k (0,[])).1 []) (mem.getD k (0,[])).2)=_
 rw [h]
set_option maxHeartbeats 1000000 in
theorem zpr{sb bm:Nat}{pv:Value}(b off cap:Nat)(keep:List Bool)(zR cut:Int)(h:DevAt w p sb bm pv S D)(hk:keep.length<=140737488351232)(hc:∀ i,i<keep.length->w.cell? ⟨b,off+i,none⟩=some (.bool (keep.getD i false)))(hn:¬ S b) :
  Calls Tryz.prog 158 #[.pointer (some ⟨p,0,none⟩),.slice (some ⟨b,off,none⟩) keep.length cap,.int .i64 zR,.int .i64 cut] w fun e w'=>e=.returned (.int .i64 D.mem.length)/\(∃ S',Dev w' p S' (D.crash keep zR (zma cut))/\Turn S S' w w'):=by
 have c2:=h.c2
 have hml:=h.ok.mem_len
 have H:=zb h
 obtain⟨m,hm⟩:∃ m:Int,(if cut<0 then (0:Int) else cut)=m:=⟨_,rfl⟩
 have hm2:(if 32<m then (32:Int) else m)=(zma cut:Int):=by rw [<- zs4,<- hm];omega
 have hc32:=zs3 cut
 generalize zma cut=c at *
 rcases h.pv_cases with ⟨rfl,hm0⟩ | ⟨g,pc,rfl,hcap,hcm,hcell⟩
 ·clear h
  have hcr:D.crash keep zR c={ D with mem:=[],down:=false,left:=-1 }:=by unfold DS.crash;rw [hm0];rfl
  have hl0:D.mem.length=0:=by rw [hm0];rfl
  have HCR:=zb hcr
  have HL0:=zb hl0
  clear hcr hl0 hm0
  go_enter Tryz.func158,Tryz.ntmps158
  go_wp2_with fail
  go_loop [20] (fun v=>v=.int .i64 0) (fun _=>0)
  case atStart=>rfl
  case round =>
   subst hrel
   go_wp2_with fail
   refine(zaf (za H)).mono ?_
   rintro e w2 ⟨rfl,h2,ht2⟩
   have c4:=h2.c4
   have f4:=h2.fr 4
   have h3:=h2.setDown false
   have c3:=h3.c3
   have f3:=h3.fr 3
   have h4:=h3.setLeft (-1) (by decide)
   have H4:=zb h4
   have HI:=zb h2.inp
   clear h2 h3 h4 H
   go_wp2
   go_ret
   exact⟨by rw [za HL0];rfl,S,⟨sb,bm,_,by rw [za HCR];exact za H4⟩,ht2.trans ((Turn.setCell _ _ (za HI)).trans (Turn.setCell _ _ (za HI)))⟩
 ·clear h hcell
  unfold maxLen at hcm
  have hlb:0<keep.length->b<w.heap.size:=fun h0=>block_lt_of_cell (hc 0 h0)
  go_enter Tryz.func158,Tryz.ntmps158
  go_wp2_with fail
  go_loopw [20] (fun v wr=>∃ k:Nat,k<=D.mem.length/\v=.int .i64 k/\DevAt wr p sb bm (.slice (some ⟨g,0,none⟩) D.mem.length pc) S { D with secs:=qE D.secs D.mem keep zR c k }/\Turn S S w wr) (fun v _=>D.mem.length-(intOf v).toNat)
  case atStart=>exact⟨0,Nat.zero_le _,rfl,za H,Turn.refl _ _⟩
  case round =>
   obtain⟨k,hkl,rfl,hd,htr⟩:=hrel
   clear hm hm2 c2
   by_cases hlt:k<D.mem.length
   ·obtain⟨ky,bd,hkb⟩:∃ ky bd,D.mem.getD k (0,[])=(ky,bd):=⟨_,_,rfl⟩
    have hpc:=hd.pend_cell k hlt
    have hpm:D.mem.getD k (0,[])∈D.mem:=zaD hlt
    have hlk:=zfQ hd.ok.apart hlt
    have hset0:=zge (secs:=D.secs) keep zR c k ky bd hkb
    simp only [hkb] at hpc hpm hlk
    have hq:=hd.ok.mem _ hpm
    by_cases h1:(k:Int)=zR
    ·have hone:∀ s,one keep zR c k s bd=bd.take c++s.drop c:=fun s=>by unfold one;rw [if_pos h1];rfl
     rw [hone] at hset0
     have hbr:=zdV ky c bd hd hq.1 hc32 hlk
     have HB:=zb hbr
     have HS:=zb hset0
     have HTR:=zb htr
     clear hbr hset0 htr hd hpm hlk hq hkb H hone hc
     subst h1
     go_wp2_with fail
     refine(za HB).mono ?_
     rintro e w2 ⟨rfl,hd2,ht2⟩
     go_wp2
     go_roundw
     case rel=>exact⟨k+1,by omega,by go_num,by rw [za HS];exact hd2,(za HTR).trans ht2⟩
     case measure=>simp [intOf];omega
    ·by_cases h2:k<keep.length
     ·have hkc:wr.cell? ⟨b,off+k,none⟩=some (.bool (keep.getD k false)):=(World.cell?_of_block (a:=⟨b,off+k,none⟩) (htr.block b (hlb (by omega)) hn)).trans (hc k h2)
      have h2':(k:Int)<(keep.length:Int):=by omega
      by_cases h3:keep.getD k false=true
      ·have hone:∀ s,one keep zR c k s bd=bd:=fun s=>by unfold one;rw [if_neg h1,if_pos h3]
       rw [hone] at hset0
       rw [h3] at hkc
       have hbr:=zdV ky 32 bd hd hq.1 (Nat.le_refl _) hlk
       rw [zdn (zU hd.ok.sec hq.1) hq.2] at hbr
       have HB:=zb hbr
       have HS:=zb hset0
       have HTR:=zb htr
       clear hbr hset0 htr hd hpm hlk hq hkb H hone hc h3
       go_wp2_with fail
       refine(za HB).mono ?_
       rintro e w2 ⟨rfl,hd2,ht2⟩
       go_wp2
       go_roundw
       case rel=>exact⟨k+1,by omega,by go_num,by rw [za HS];exact hd2,(za HTR).trans ht2⟩
       case measure=>simp [intOf];omega
      ·have h3':keep.getD k false=false:=by simpa using h3
       have hone:∀ s,one keep zR c k s bd=s:=fun s=>by unfold one;rw [if_neg h1,if_neg h3]
       rw [hone,ZQ] at hset0
       rw [h3'] at hkc
       have HS:=zb hset0
       have HTR:=zb htr
       have HD:=zb hd
       clear hset0 htr hd hpm hlk hq hkb H hone hc h3 h3'
       go_wp2
       go_roundw
       case rel=>exact⟨k+1,by omega,by go_num,by rw [za HS];exact za HD,za HTR⟩
       case measure=>simp [intOf];omega
     ·have h3':keep.getD k false=false:=by simp [List.getD,List.getElem?_eq_none (by omega:keep.length<=k)]
      have h2':¬ (k:Int)<(keep.length:Int):=by omega
      have hone:∀ s,one keep zR c k s bd=s:=fun s=>by unfold one;rw [if_neg h1,if_neg (by rw [h3'];exact Bool.false_ne_true)]
      rw [hone,ZQ] at hset0
      have HS:=zb hset0
      have HTR:=zb htr
      have HD:=zb hd
      clear hset0 htr hd hpm hlk hq hkb H hone hc h3'
      go_wp2
      go_roundw
      case rel=>exact⟨k+1,by omega,by go_num,by rw [za HS];exact za HD,za HTR⟩
      case measure=>simp [intOf];omega
   ·obtain rfl:k=D.mem.length:=by omega
    have c2':=hd.c2
    clear H hc
    go_wp2_with fail
    refine(zaf hd).mono ?_
    rintro e w2 ⟨rfl,h2,ht2⟩
    have c4:=h2.c4
    have f4:=h2.fr 4
    have h3:=h2.setDown false
    have c3:=h3.c3
    have f3:=h3.fr 3
    have h4:=h3.setLeft (-1) (by decide)
    have H4:=zb h4
    have HI:=zb h2.inp
    clear h2 h3 h4 hd
    go_wp2
    go_ret
    exact⟨rfl,S,⟨sb,bm,_,za H4⟩,htr.trans (ht2.trans ((Turn.setCell _ _ (za HI)).trans (Turn.setCell _ _ (za HI))))⟩
set_option maxHeartbeats 1000000 in
theorem zs5{sb bm:Nat}{pv:Value}(a:Option Addr)(cap:Nat)(zR cut:Int)(h:DevAt w p sb bm pv S D) :
  Calls Tryz.prog 158 #[.pointer (some ⟨p,0,none⟩),.slice a 0 cap,.int .i64 zR,.int .i64 cut] w fun e w'=>e=.returned (.int .i64 D.mem.length)/\(∃ S',Dev w' p S' (D.crash ([]:List Bool) zR (zma cut))/\Turn S S' w w'):=by
 have c2:=h.c2
 have hml:=h.ok.mem_len
 have H:=zb h
 obtain⟨m,hm⟩:∃ m:Int,(if cut<0 then (0:Int) else cut)=m:=⟨_,rfl⟩
 have hm2:(if 32<m then (32:Int) else m)=(zma cut:Int):=by rw [<- zs4,<- hm];omega
 have hc32:=zs3 cut
 generalize zma cut=c at *
 rcases h.pv_cases with ⟨rfl,hm0⟩ | ⟨g,pc,rfl,hcap,hcm,hcell⟩
 ·clear h
  have hcr:D.crash ([]:List Bool) zR c={ D with mem:=[],down:=false,left:=-1 }:=by unfold DS.crash;rw [hm0];rfl
  have hl0:D.mem.length=0:=by rw [hm0];rfl
  have HCR:=zb hcr
  have HL0:=zb hl0
  clear hcr hl0 hm0
  go_enter Tryz.func158,Tryz.ntmps158
  go_wp2_with fail
  go_loop [20] (fun v=>v=.int .i64 0) (fun _=>0)
  case atStart=>rfl
  case round =>
   subst hrel
   go_wp2_with fail
   refine(zaf (za H)).mono ?_
   rintro e w2 ⟨rfl,h2,ht2⟩
   have c4:=h2.c4
   have f4:=h2.fr 4
   have h3:=h2.setDown false
   have c3:=h3.c3
   have f3:=h3.fr 3
   have h4:=h3.setLeft (-1) (by decide)
   have H4:=zb h4
   have HI:=zb h2.inp
   clear h2 h3 h4 H
   go_wp2
   go_ret
   exact⟨by rw [za HL0];rfl,S,⟨sb,bm,_,by rw [za HCR];exact za H4⟩,ht2.trans ((Turn.setCell _ _ (za HI)).trans (Turn.setCell _ _ (za HI)))⟩
 ·clear h hcell
  unfold maxLen at hcm
  go_enter Tryz.func158,Tryz.ntmps158
  go_wp2_with fail
  go_loopw [20] (fun v wr=>∃ k:Nat,k<=D.mem.length/\v=.int .i64 k/\DevAt wr p sb bm (.slice (some ⟨g,0,none⟩) D.mem.length pc) S { D with secs:=qE D.secs D.mem ([]:List Bool) zR c k }/\Turn S S w wr) (fun v _=>D.mem.length-(intOf v).toNat)
  case atStart=>exact⟨0,Nat.zero_le _,rfl,za H,Turn.refl _ _⟩
  case round =>
   obtain⟨k,hkl,rfl,hd,htr⟩:=hrel
   clear hm hm2 c2
   by_cases hlt:k<D.mem.length
   ·obtain⟨ky,bd,hkb⟩:∃ ky bd,D.mem.getD k (0,[])=(ky,bd):=⟨_,_,rfl⟩
    have hpc:=hd.pend_cell k hlt
    have hpm:D.mem.getD k (0,[])∈D.mem:=zaD hlt
    have hlk:=zfQ hd.ok.apart hlt
    have hset0:=zge (secs:=D.secs) ([]:List Bool) zR c k ky bd hkb
    simp only [hkb] at hpc hpm hlk
    have hq:=hd.ok.mem _ hpm
    by_cases h1:(k:Int)=zR
    ·have hone:∀ s,one ([]:List Bool) zR c k s bd=bd.take c++s.drop c:=fun s=>by unfold one;rw [if_pos h1];rfl
     rw [hone] at hset0
     have hbr:=zdV ky c bd hd hq.1 hc32 hlk
     have HB:=zb hbr
     have HS:=zb hset0
     have HTR:=zb htr
     clear hbr hset0 htr hd hpm hlk hq hkb H hone
     subst h1
     go_wp2_with fail
     refine(za HB).mono ?_
     rintro e w2 ⟨rfl,hd2,ht2⟩
     go_wp2
     go_roundw
     case rel=>exact⟨k+1,by omega,by go_num,by rw [za HS];exact hd2,(za HTR).trans ht2⟩
     case measure=>simp [intOf];omega
    ·have h3':([]:List Bool).getD k false=false:=rfl
     have h2':¬ (k:Int)<0:=by omega
     have hone:∀ s,one ([]:List Bool) zR c k s bd=s:=fun s=>by unfold one;rw [if_neg h1,if_neg (by rw [h3'];exact Bool.false_ne_true)]
     rw [hone,ZQ] at hset0
     have HS:=zb hset0
     have HTR:=zb htr
     have HD:=zb hd
     clear hset0 htr hd hpm hlk hq hkb H hone h3'
     go_wp2
     go_roundw
     case rel=>exact⟨k+1,by omega,by go_num,by rw [za HS];exact za HD,za HTR⟩
     case measure=>simp [intOf];omega
   ·obtain rfl:k=D.mem.length:=by omega
    have c2':=hd.c2
    clear H
    go_wp2_with fail
    refine(zaf hd).mono ?_
    rintro e w2 ⟨rfl,h2,ht2⟩
    have c4:=h2.c4
    have f4:=h2.fr 4
    have h3:=h2.setDown false
    have c3:=h3.c3
    have f3:=h3.fr 3
    have h4:=h3.setLeft (-1) (by decide)
    have H4:=zb h4
    have HI:=zb h2.inp
    clear h2 h3 h4 hd
    go_wp2
    go_ret
    exact⟨rfl,S,⟨sb,bm,_,za H4⟩,htr.trans (ht2.trans ((Turn.setCell _ _ (za HI)).trans (Turn.setCell _ _ (za HI))))⟩
theorem zs6(a:Option Addr)(cap:Nat)(keep:List Bool)(zR cut:Int)(h:Dev w p S D)(hb:Bls w a cap keep)(hn:keep≠[]->∀ x,a=some x->¬ S x.block) :
  Calls Tryz.prog 158 #[.pointer (some ⟨p,0,none⟩),.slice a keep.length cap,.int .i64 zR,.int .i64 cut] w fun e w'=>e=.returned (.int .i64 D.mem.length)/\(∃ S',Dev w' p S' (D.crash keep zR (zma cut))/\Turn S S' w w'):=by
 obtain⟨sb,bm,pv,h⟩:=h
 by_cases h0:keep=[]
 ·subst h0
  exact zs5 a cap zR cut h
 ·obtain⟨b,off,rfl,hc⟩:=hb.2.2 h0
  exact zpr b off cap keep zR cut h hb.2.1 hc (hn h0 _ rfl)
end
theorem zr8:(Tryz.prog.info? 310).map (fun i=>(i.zero,i.size,i.bytes))=some (some (sv (zerosB 32)),32,32):=by kernel_rfl
theorem zjD{w:World}{g t:Nat}{z:List Int}(off:Nat)(l:List Int)(hl:l.length=32)(h:RowT w g t z)(hz:(z.drop off).take 32=l):w.rangeAt g off (l.map (Value.int .u8)):=by
 intro j v hv
 have hj:j<32:=by
  rcases Nat.lt_or_ge j 32 with h1 | h1
  ·exact h1
  ·rw [List.getElem?_eq_none (by rw [List.length_map,hl];exact h1)] at hv;cases hv
 have h3:off+j<z.length:=by
  have:((z.drop off).take 32).length=32:=by rw [hz];exact hl
  simp at this;omega
 have h2:(zl l)[j]?=some v:=by simpa [zl] using hv
 rw [zbE l j (by omega)] at h2
 rw [h.cell _ h3,<- h2,<- hz]
 simp [List.getD,hj]
section
variable {w:World} {p:Nat} {S:Nat->Prop} {D:DS}
theorem zlK(h:Dev w p S D) :
  Calls Tryz.prog 73 #[.pointer (some ⟨p,0,none⟩)] w fun e w'=>e=.returned (.int .i64 D.secs.length)/\w=w':=by
 obtain⟨sb,bm,pv,h⟩:=h
 have c0:=h.c0
 have hl:=h.ok.len
 clear h
 go_enter Tryz.func73,Tryz.ntmps73
 go_wp2
 go_ret
 exact⟨rfl,rfl⟩
theorem zq0(i:Int)(h:Dev w p S D)(he:D.readE i≠0) :
  Calls Tryz.prog 271 #[.pointer (some ⟨p,0,none⟩),.int .i64 i] w fun e w'=>e=.returned (.tuple #[.slice none 0 0,zK (D.readE i)])/\w=w':=by
 obtain⟨sb,bm,pv,h⟩:=h
 have c4:=h.c4
 have hhas:=ze6 i h
 unfold DS.readE at *
 by_cases h1:i<0\/(D.secs.length:Int)<=i
 ·rw [if_pos h1]
  have hf:hasB D.secs.length i=false:=decide_eq_false (by omega)
  rw [hf] at hhas
  have HH:=zb hhas
  clear h hhas h1 hf c4 he
  go_enter Tryz.func271,Tryz.ntmps271
  go_wp2_with fail
  refine(za HH).mono ?_
  rintro e w1 ⟨rfl,rfl⟩
  go_wp2
  go_ret2
  exact⟨rfl,rfl⟩
 ·rw [if_neg h1] at he ⊢
  have hf:hasB D.secs.length i=true:=decide_eq_true (by omega)
  rw [hf] at hhas
  by_cases h3:D.down=true
  ·rw [if_pos h3]
   rw [h3] at c4
   have HH:=zb hhas
   clear h hhas h1 hf he
   go_enter Tryz.func271,Tryz.ntmps271
   go_wp2_with fail
   refine(za HH).mono ?_
   rintro e w1 ⟨rfl,rfl⟩
   go_wp2
   go_ret2
   exact⟨rfl,rfl⟩
  ·rw [if_neg h3] at he
   exact absurd rfl he
set_option maxRecDepth 100000 in
theorem zut{sb bm:Nat}{pv:Value}(i:Nat)(h:DevAt w p sb bm pv S D)(hi:i<D.secs.length)(hd:D.down=false)(c:List Int)(hc:D.mem.lookup i=some c) :
  Calls Tryz.prog 271 #[.pointer (some ⟨p,0,none⟩),.int .i64 i] w fun e w'=>∃ g,e=.returned (.tuple #[.slice (some ⟨g,0,none⟩) 32 32,.nilIface])/\w.heap.size<=g/\Blk w' g (D.rd i)/\Below w.heap.size w w':=by
 have hlen:=h.ok.len
 have c1:=h.c1
 have c4:=h.c4
 rw [hd] at c4
 have hhas:=ze6 (i:Int) h
 have hf:hasB D.secs.length i=true:=decide_eq_true (by omega)
 rw [hf] at hhas
 have hcs:Sec c:=(h.ok.mem _ (Qw hc)).2
 have hlook:=h.mem.look (E:=310) Tryz.underlying3 Tryz.underlying151 (zdd w) true (i:=i) (by omega)
 have hmv:zh7 D.mem i=c:=by unfold zh7;rw [hc];rfl
 rw [hmv,hc] at hlook
 simp only [if_true,Option.isSome_some] at hlook
 unfold sv at hlook
 have hrd:D.rd i=c:=by unfold DS.rd;rw [hc];rfl
 rw [hrd]
 have hsz:(zl c).size=32:=by rw [zC];exact hcs.1
 have hst:=zbW w c hcs.1
 have hbs:Bs (w.alloc (.cells (zl c) 310)) (some ⟨w.heap.size,0,none⟩) 32 c:=by
  have:=(zfw w c 310).bs hcs.2 (by rw [hcs.1];decide) 0 32 32 (by rw [hcs.1];decide) (Nat.le_refl _)
  rwa [List.drop_zero,List.take_of_length_le (by rw [hcs.1];decide)] at this
 have hcopy:∀ w1,Blk w1 (w.heap.size+1) (zerosB 32)->Bs w1 (some ⟨w.heap.size,0,none⟩) 32 c->Sem.run Tryz.prog (Builtin.copy_ #[29,29] 3 #[.slice (some ⟨w.heap.size+1,0,none⟩) 32 32,.slice (some ⟨w.heap.size,0,none⟩) 32 32]) w1=.ok (.int .i64 32) (rowW w1 (w.heap.size+1) c):=fun w1 h5 h6=>by
  have:=run_copy_u8 (P:=Tryz.prog) w1 29 29 3 Tryz.underlying29 zx (w.heap.size+1) 32 (some ⟨w.heap.size,0,none⟩) 32 (zerosB 32) c (by rw [hcs.1,length_zerosB]) h5 h6
  rw [hcs.1] at this;exact this
 obtain⟨i0,hi0,hz0,hz1,hz2⟩:=info_parts qG
 have HH:=zb hhas
 have HB:=zb hbs
 clear h hhas hf hc hmv hbs hrd
 go_enter Tryz.func271,Tryz.ntmps271
 go_wp2_with fail
 refine(za HH).mono ?_
 rintro e w1 ⟨rfl,rfl⟩
 go_wp2_with (at_make;refine wpList_make_u8 rfl _ _ 29 rfl i0 Tryz.underlying29 hi0 hz0 hz1 hz2 _ _ _ _ 32 rfl rfl rfl rfl (by omega) ?_)
 intro w1 hk1 hs1 hb1
 have hb2:=(za HB).below (w':=w1) (by rw [size_alloc];exact hb1)
 have hb0:Below w.heap.size w w1:=((Below.refl _ _).alloc (Nat.le_refl _) (.cells (zl c) 310)).trans (hb1.mono (by omega))
 go_wp2
 go_ret2
 exact⟨_,rfl,by omega,rowW_blk hk1 c,rowW_below c hb0 (by omega)⟩
set_option maxRecDepth 100000 in
theorem zus{sb bm:Nat}{pv:Value}(i:Nat)(h:DevAt w p sb bm pv S D)(hi:i<D.secs.length)(hd:D.down=false)(hc:D.mem.lookup i=none) :
  Calls Tryz.prog 271 #[.pointer (some ⟨p,0,none⟩),.int .i64 i] w fun e w'=>∃ g,e=.returned (.tuple #[.slice (some ⟨g,0,none⟩) 32 32,.nilIface])/\w.heap.size<=g/\Blk w' g (D.rd i)/\Below w.heap.size w w':=by
 have hlen:=h.ok.len
 have c1:=h.c1
 have c4:=h.c4
 rw [hd] at c4
 have hhas:=ze6 (i:Int) h
 have hf:hasB D.secs.length i=true:=decide_eq_true (by omega)
 rw [hf] at hhas
 have hlook:=h.mem.look (E:=310) Tryz.underlying3 Tryz.underlying151 (zdd w) true (i:=i) (by omega)
 have hmv:zh7 D.mem i=zerosB 32:=by unfold zh7;rw [hc];rfl
 rw [hmv,hc] at hlook
 simp only [if_true,Option.isSome_none] at hlook
 unfold sv at hlook
 generalize hzz:zerosB 32=zz at hlook
 have hzl:zz.length=32:=by rw [<- hzz];exact length_zerosB 32
 have hsz:(zl zz).size=32:=by rw [zC];exact hzl
 have hst:=zbW w zz hzl
 have hrd:D.rd i=D.secs.getD i []:=by unfold DS.rd;rw [hc];rfl
 rw [hrd]
 obtain⟨c,hcd⟩:∃ c,D.secs.getD i []=c:=⟨_,rfl⟩
 have hcs:Sec c:=by rw [<- hcd];exact zU h.ok.sec hi
 have h1:=h.alloc (.cells (zl zz) 310)
 have c0:=h1.c0
 have hl32:∀ s∈D.secs,s.length=32:=fun s hs=>(h.ok.sec s hs).1
 have hrg:(w.alloc (.cells (zl zz) 310)).rangeAt sb (i * 32) (c.map (Value.int .u8)):=zjD (i * 32) c hcs.1 h1.sec (by rw [zf5 _ _ hl32 hi,hcd])
 have hu:=Tryz.underlying310
 have hin:(Tryz.prog.info? 310).map (·.size)=some (c.map (Value.int .u8)).length:=by rw [List.length_map,hcs.1];exact zdq
 have hcl:=hcs.1
 have hst2:(storeCells ⟨w.heap.size,0,none⟩ (c.map (Value.int .u8)) 0).run Tryz.prog (w.alloc (.cells (zl zz) 310))=.ok () (w.alloc (.cells (zl c) 310)) :=
  run_storeCells_new w 310 (zl zz) (zl c) (by rw [zC,hcs.1];exact zdq) (by rw [zC,zC,hcs.1,hzl]) (Zv c)
 rw [hcd]
 have hbs:Bs (w.alloc (.cells (zl c) 310)) (some ⟨w.heap.size,0,none⟩) 32 c:=by
  have:=(zfw w c 310).bs hcs.2 (by rw [hcs.1];decide) 0 32 32 (by rw [hcs.1];decide) (Nat.le_refl _)
  rwa [List.drop_zero,List.take_of_length_le (by rw [hcs.1];decide)] at this
 have hcopy:∀ w1,Blk w1 (w.heap.size+1) (zerosB 32)->Bs w1 (some ⟨w.heap.size,0,none⟩) 32 c->Sem.run Tryz.prog (Builtin.copy_ #[29,29] 3 #[.slice (some ⟨w.heap.size+1,0,none⟩) 32 32,.slice (some ⟨w.heap.size,0,none⟩) 32 32]) w1=.ok (.int .i64 32) (rowW w1 (w.heap.size+1) c):=fun w1 h5 h6=>by
  have:=run_copy_u8 (P:=Tryz.prog) w1 29 29 3 Tryz.underlying29 zx (w.heap.size+1) 32 (some ⟨w.heap.size,0,none⟩) 32 (zerosB 32) c (by rw [hcs.1,length_zerosB]) h5 h6
  rw [hcs.1] at this;exact this
 obtain⟨i0,hi0,hz0,hz1,hz2⟩:=info_parts qG
 have e0:(i:Int)<(D.secs.length:Int):=by omega
 have e1:(0:Int)<=(i:Int):=by omega
 have HH:=zb hhas
 have HB:=zb hbs
 clear h hhas hf hc hmv hbs hrd hcd h1 hzz hzl hl32 hcs
 go_enter Tryz.func271,Tryz.ntmps271
 go_wp2_with fail
 refine(za HH).mono ?_
 rintro e w1 ⟨rfl,rfl⟩
 go_wp2_with (first | (refine wpList_load_mid rfl 310 (.tmp 35) rfl sb (i * 32) rfl (c.map (Value.int .u8)) _ hrg hu rfl hin ?_) | (at_make;refine wpList_make_u8 rfl _ _ 29 rfl i0 Tryz.underlying29 hi0 hz0 hz1 hz2 _ _ _ _ 32 rfl rfl rfl rfl (by omega) ?_))
 intro w1 hk1 hs1 hb1
 have hb2:=(za HB).below (w':=w1) (by rw [size_alloc];exact hb1)
 have hb0:Below w.heap.size w w1:=((Below.refl _ _).alloc (Nat.le_refl _) (.cells (zl c) 310)).trans (hb1.mono (by omega))
 go_wp2
 go_ret2
 exact⟨_,rfl,by omega,rowW_blk hk1 c,rowW_below c hb0 (by omega)⟩
theorem zmV(i:Nat)(h:Dev w p S D)(hi:i<D.secs.length)(hd:D.down=false) :
  Calls Tryz.prog 271 #[.pointer (some ⟨p,0,none⟩),.int .i64 i] w fun e w'=>∃ g,e=.returned (.tuple #[.slice (some ⟨g,0,none⟩) 32 32,.nilIface])/\w.heap.size<=g/\Blk w' g (D.rd i)/\Below w.heap.size w w':=by
 obtain⟨sb,bm,pv,h⟩:=h
 cases hc:D.mem.lookup i with
 | none=>exact zus i h hi hd hc
 | some c=>exact zut i h hi hd c hc
theorem zhf(n:Nat):(List.replicate n (List.replicate 32 (0:Int))).flatten=zerosB (n * 32):=by
 induction n with
 | zero=>rfl
 | succ n ih =>
  rw [List.replicate_succ,List.flatten_cons,ih]
  unfold zerosB
  rw [show(n+1) * 32=32+n * 32 from by omega,List.replicate_append_replicate]
theorem ze8(n i:Nat):(zerosB n).getD i 0=0:=by
 unfold zerosB
 rw [List.getD_eq_getElem?_getD,List.getElem?_replicate]
 split <;> rfl
theorem zxk(j:Nat)(hj:j<32):(zl (zerosB 32))[j]! = .int .u8 0:=by
 have h:(zl (zerosB 32))[j]?=some (.int .u8 0):=by
  rw [zbE _ _ (by rw [length_zerosB];exact hj),ze8]
 rw [getElem!_def,h]
theorem zrR(n:Nat):madeCells (sv (zerosB 32)).cells (n * 32)=zl (zerosB (n * 32)):=by
 have hz:(sv (zerosB 32)).cells=zl (zerosB 32):=rfl
 rw [hz]
 unfold madeCells
 apply Array.ext
 ·rw [Array.size_map,Array.size_range,zC,length_zerosB]
 ·intro i h1 h2
  have h3:i<n * 32:=by rwa [zC,length_zerosB] at h2
  have h4:=zbE (zerosB (n * 32)) i (by rw [length_zerosB];exact h3)
  rw [Array.getElem?_eq_getElem h2,ze8] at h4
  rw [Option.some.inj h4,Array.getElem_map,Array.getElem_range,zC,length_zerosB,zxk _ (Nat.mod_lt _ (by decide))]
theorem zbL{P:Program}{w:World}{ops:Array Oper}{rest:List Oper}{o:Oper}{a:Act}{Q:Exit->Act->World->Prop}
  (hg:o.guard=none) (l c:Operand) (t e:TypeId) (hop:o.op=Op.makeSlice t l c)
  (i:TypeInfo) (h1:P.underlying t=some (.slice e)) (h2:P.info? e=some i) (h3:i.zero=some (sv (zerosB 32))) (h4:i.size=32) (h5:i.bytes=32)
  (kl kc:IntKind) (L C:Int) (n:Nat) (hl:a.eval l=.int kl L) (hc:a.eval c=.int kc C) (hL:L=(n:Int)) (hC:C=(n:Int)) (b2:n<=300)
  (hK:wpList P ops Q rest (a.put o.dst (.slice (some ⟨w.heap.size,0,none⟩) n n)) (w.alloc (.cells (zl (zerosB (n * 32))) e))) :
  wpList P ops Q (o :: rest) a w:=by
 refine wpList_plain hg fun K hK'=>?_
 have hrun:=run_make (P:=P) w t e i _ h1 h2 h3 kl kc n n (by omega) (by omega) (by rw [h5];omega) (by omega)
 subst hL
 subst hC
 rw [h4,zrR] at hrun
 unfold Oper.wp
 simp [execOp,hop,hl,hc,hrun,Result.andThen]
 exact hK' _ _ hK
theorem zyj(n:Nat)(w:World)(h1:1<=n)(h2:n<=300) :
  Calls Tryz.prog 45 #[.int .i64 n] w fun e w'=>∃ p S,e=.returned (.tuple #[.pointer (some ⟨p,0,none⟩),.nilIface])/\Dev w' p S (DS.new n)/\(∀ k,S k->w.heap.size<=k)/\Below w.heap.size w w':=by
 have e1:¬ (n:Int)<1:=by omega
 have e2:¬ 300<(n:Int):=by omega
 have hmm:=@run_makeMap Tryz.prog
 obtain⟨i0,hi0,hz0,hz1,hz2⟩:=info_parts zr8
 go_enter Tryz.func45,Tryz.ntmps45
 go_wp2_with (at_make;refine zbL rfl _ _ 150 310 rfl i0 Tryz.underlying150 hi0 hz0 hz1 hz2 _ _ _ _ n rfl rfl rfl rfl h2 ?_)
 go_ret2
 refine⟨w.heap.size+1+1,rfl,fun k=>w.heap.size<=k/\k<w.heap.size+3,⟨w.heap.size,w.heap.size+1,.slice none 0 0,?_⟩,fun k hk=>hk.1,?_⟩
 ·have hn:(List.replicate n (List.replicate 32 (0:Int))).length=n:=by simp
  have hA:((w.alloc (.cells (zl (zerosB (n * 32))) 310)).alloc (.map #[] 0)).heap.size=w.heap.size+1+1:=by simp
  refine⟨DS.ok_new n h2,?_,?_,?_,World.ownsRow_nil _ _ _ _,⟨by omega,by omega⟩,⟨by omega,by omega⟩,⟨by omega,by omega⟩,fun g hg=>(by cases hg),fun k hk=>(by have h9:=hk.2;simp;omega),by omega,fun e=>(by cases e),fun e=>(by cases e)⟩
  ·have:=heap_alloc_new ((w.alloc (.cells (zl (zerosB (n * 32))) 310)).alloc (.map #[] 0)) (.cells (qw w.heap.size n (w.heap.size+1) (.slice none 0 0) (-1) false) 153)
   rw [hA] at this
   show _=some (Obj.cells (qw w.heap.size (List.replicate n (List.replicate 32 (0:Int))).length (w.heap.size+1) (.slice none 0 0) (-1) false) _ _)
   rw [hn]
   exact this
  ·show RowT _ _ _ (List.replicate n (List.replicate 32 (0:Int))).flatten
   rw [zhf]
   exact((zfw w (zerosB (n * 32)) 310).same (heap_alloc_old _ _ (by simp))).same (heap_alloc_old _ _ (by simp;omega))
  ·have:=zoW (P:=Tryz.prog) (K:=3) (w.alloc (.cells (zl (zerosB (n * 32))) 310))
   rw [size_alloc] at this
   exact this.same (heap_alloc_old _ _ (by simp))
 ·exact(((Below.refl _ _).alloc (Nat.le_refl _) _).alloc (by simp) _).alloc (by simp;omega) _
end
def Zh(l:List Int):Array Value:=(l.map (Value.int .i64)).toArray
def IBlk(w:World)(g:Nat)(l:List Int):Prop:=w.heap[g]?=some (.cells (Zh l) 3 (0,0))
def zc1(m:List (Nat×List Int)):List Int:=m.map fun q=>(q.1:Int)
theorem zew(m:List (Nat×List Int)):(zc1 m).length=m.length:=by simp [zc1]
theorem zo2(n:Nat):madeCells (Value.int .i64 0).cells n=Zh (zerosB n):=by
 apply Array.ext
 ·simp [madeCells,zerosB,Zh]
 ·intro i h1 h2
  simp [madeCells,zerosB,Zh,Value.cells,Nat.mod_one]
theorem zbM{P:Program}{w:World}{ops:Array Oper}{rest:List Oper}{o:Oper}{a:Act}{Q:Exit->Act->World->Prop}
  (hg:o.guard=none) (l c:Operand) (t:TypeId) (hop:o.op=Op.makeSlice t l c)
  (i:TypeInfo) (h1:P.underlying t=some (.slice 3)) (h2:P.info? 3=some i) (h3:i.zero=some (.int .i64 0)) (h4:i.size=1) (h5:i.bytes=8)
  (kl kc:IntKind) (L C:Int) (n:Nat) (hl:a.eval l=.int kl L) (hc:a.eval c=.int kc C) (hL:L=(n:Int)) (hC:C=(n:Int)) (b2:n<=281474976)
  (hK:wpList P ops Q rest (a.put o.dst (.slice (some ⟨w.heap.size,0,none⟩) n n)) (w.alloc (.cells (Zh (zerosB n)) 3))) :
  wpList P ops Q (o :: rest) a w:=by
 refine wpList_plain hg fun K hK'=>?_
 have hrun:=run_make (P:=P) w t 3 i _ h1 h2 h3 kl kc n n (by omega) (by omega) (by rw [h5];omega) (by omega)
 subst hL
 subst hC
 rw [h4,Nat.mul_one,zo2] at hrun
 unfold Oper.wp
 simp [execOp,hop,hl,hc,hrun,Result.andThen]
 exact hK' _ _ hK
structure Live (w0 w:World) (p:Nat) (S:Nat->Prop) (D:DS):Prop where
 dev:Dev w p S D
 bel:Below w0.heap.size w0 w
 base:∀ k,S k->w0.heap.size<=k
section
variable {w0 w w':World} {p:Nat} {S S':Nat->Prop} {D D':DS}
theorem Live.turn(h:Live w0 w p S D)(hd:Dev w' p S' D')(ht:Turn S S' w w'):Live w0 w' p S' D' :=
 ⟨hd,h.bel.trans (ht.below h.base h.bel.size),fun k hk=>by
  rcases Nat.lt_or_ge k w.heap.size with h1 | h1
  ·exact h.base k (ht.foot k h1 hk)
  ·exact Nat.le_trans h.bel.size h1⟩
theorem Live.below(h:Live w0 w p S D)(hb:Below w.heap.size w w'):Live w0 w' p S D:=⟨h.dev.below hb,h.bel.trans (hb.mono h.bel.size),h.base⟩
theorem Live.write(h:Live w0 w p S D)(i:Int){a:Option Addr}{cap:Nat}{l:List Int}(hb:Bs w a cap l/\(l≠[]->∀ x,a=some x->¬ S x.block)) :
  Calls Tryz.prog 119 #[.pointer (some ⟨p,0,none⟩),.int .i64 i,.slice a l.length cap] w fun e w'=>e=.returned (zK (D.writeE i l))/\(∃ S',Live w0 w' p S' (D.write i l)/\Turn S S' w w') :=
 (zpQ i a cap l h.dev hb.1 hb.2).mono fun e w' ⟨he,S',hd,ht⟩=>⟨he,S',h.turn hd ht,ht⟩
theorem Live.flush(h:Live w0 w p S D) :
  Calls Tryz.prog 120 #[.pointer (some ⟨p,0,none⟩)] w fun e w'=>e=.returned (zK D.flushE)/\(∃ S',Live w0 w' p S' D.doFlush/\Turn S S' w w') :=
 (zsC h.dev).mono fun e w' ⟨he,S',hd,ht⟩=>⟨he,S',h.turn hd ht,ht⟩
theorem Live.fail(h:Live w0 w p S D)(n:Int)(hn:-9223372036854775808<=n/\n<=9223372036854775807) :
  Calls Tryz.prog 103 #[.pointer (some ⟨p,0,none⟩),.int .i64 n] w fun e w'=>e=.returned (.tuple #[])/\(∃ S',Live w0 w' p S' { D with left:=n }/\Turn S S' w w'):=by
 obtain⟨sb,bm,pv,hd⟩:=h.dev
 exact(zvN n hn hd).mono fun e w' ⟨he,hd,ht⟩=>⟨he,S,h.turn ⟨sb,bm,pv,hd⟩ ht,ht⟩
theorem Live.crash(h:Live w0 w p S D)(zR cut:Int){a:Option Addr}{cap:Nat}{keep:List Bool}(hb:Bls w a cap keep/\(keep≠[]->∀ x,a=some x->¬ S x.block)) :
  Calls Tryz.prog 158 #[.pointer (some ⟨p,0,none⟩),.slice a keep.length cap,.int .i64 zR,.int .i64 cut] w fun e w'=>e=.returned (.int .i64 D.mem.length)/\(∃ S',Live w0 w' p S' (D.crash keep zR (zma cut))/\Turn S S' w w') :=
 (zs6 a cap keep zR cut h.dev hb.1 hb.2).mono fun e w' ⟨he,S',hd,ht⟩=>⟨he,S',h.turn hd ht,ht⟩
theorem Live.down(h:Live w0 w p S D) :
  Calls Tryz.prog 152 #[.pointer (some ⟨p,0,none⟩)] w fun e w'=>e=.returned (.bool D.down)/\w=w':=by
 obtain⟨sb,bm,pv,hd⟩:=h.dev
 exact znF hd
theorem Live.read(h:Live w0 w p S D)(i:Nat)(hi:i<D.secs.length)(hd:D.down=false) :
  Calls Tryz.prog 271 #[.pointer (some ⟨p,0,none⟩),.int .i64 i] w fun e w'=>∃ g,e=.returned (.tuple #[.slice (some ⟨g,0,none⟩) 32 32,.nilIface])/\w.heap.size<=g/\Blk w' g (D.rd i)/\Below w.heap.size w w':=zmV i h.dev hi hd
theorem zuR(n:Nat)(w0 w:World)(hb:Below w0.heap.size w0 w)(h1:1<=n)(h2:n<=300) :
  Calls Tryz.prog 45 #[.int .i64 n] w fun e w'=>∃ p S,e=.returned (.tuple #[.pointer (some ⟨p,0,none⟩),.nilIface])/\Live w0 w' p S (DS.new n)/\(∀ k,S k->w.heap.size<=k)/\Below w.heap.size w w' :=
 (zyj n w h1 h2).mono fun e w' ⟨p,S,he,hd,hS,hb2⟩=>⟨p,S,he,⟨hd,hb.trans (hb2.mono hb.size),fun k hk=>Nat.le_trans hb.size (hS k hk)⟩,hS,hb2⟩
end
def Tab(w:World)(S:Nat->Prop)(t n:Nat)(F:Nat->List Int)(m:Nat):Prop :=
 ∃ cur:Array Value,w.heap[t]?=some (.cells cur 29 (0,0))/\cur.size=n/\¬ S t/\∀ i,i<m->∃ g,cur[i]?=some (.slice (some ⟨g,0,none⟩) 32 32)/\Blk w g (F i)/\¬ S g
section
variable {w w':World} {S S':Nat->Prop} {t n m:Nat} {F:Nat->List Int}
theorem Tab.lt(h:Tab w S t n F m):t<w.heap.size:=by
 obtain⟨cur,h1,_⟩:=h
 exact(Array.getElem?_eq_some_iff.1 h1).1
theorem Blk.same{g:Nat}{l:List Int}(h:Blk w g l)(e:w'.heap[g]?=w.heap[g]?):Blk w' g l:=by
 unfold Blk at h ⊢;rw [e];exact h
theorem Tab.turn(h:Tab w S t n F m)(ht:Turn S S' w w'):Tab w' S' t n F m:=by
 have hlt:=h.lt
 obtain⟨cur,h1,h2,h3,h4⟩:=h
 refine⟨cur,(ht.block t hlt h3).trans h1,h2,fun hs=>h3 (ht.foot t hlt hs),fun i hi=>?_⟩
 obtain⟨g,h5,h6,h7⟩:=h4 i hi
 exact⟨g,h5,h6.same (ht.block g h6.lt h7),fun hs=>h7 (ht.foot g h6.lt hs)⟩
theorem Tab.below(h:Tab w S t n F m)(hb:Below w.heap.size w w'):Tab w' S t n F m:=h.turn (Turn.of_below hb)
theorem Tab.room(h:Tab w S t n F m)(i:Nat)(hi:i<n):∃ v,w.cell? ⟨t,i,none⟩=some v:=by
 obtain⟨cur,h1,h2,h3,h4⟩:=h
 exact⟨cur[i]'(by omega),by rw [cell_of_row _ _ _ _ _ _ h1];exact Array.getElem?_eq_getElem (by omega)⟩
theorem Tab.fr(h:Tab w S t n F m)(i:Nat):w.frozen? ⟨t,i,none⟩=false:=by
 obtain⟨cur,h1,_⟩:=h
 exact frozen_of_row _ _ _ _ _ h1
theorem Tab.put(h:Tab w S t n F m)(hm:m<n){g:Nat}(hg:Blk w g (F m))(hn:¬ S g):Tab (w.setCell ⟨t,m,none⟩ (.slice (some ⟨g,0,none⟩) 32 32)) S t n F (m+1):=by
 obtain⟨cur,h1,h2,h3,h4⟩:=h
 have hne:∀ g' l,Blk w g' l->g'≠t:=by
  intro g' l hb e
  subst e
  unfold Blk at hb
  rw [h1] at hb
  simp at hb
 refine⟨cur.setIfInBounds m (.slice (some ⟨g,0,none⟩) 32 32),heap_setCell_same _ _ _ _ _ _ h1,by simp [h2],h3,fun i hi=>?_⟩
 by_cases e:i=m
 ·subst e
  exact⟨g,by rw [Array.getElem?_setIfInBounds_self_of_lt (by omega)],hg.same (heap_setCell_other _ _ _ _ (hne g _ hg)),hn⟩
 ·obtain⟨g',h5,h6,h7⟩:=h4 i (by omega)
  refine⟨g',?_,h6.same (heap_setCell_other _ _ _ _ (hne g' _ h6)),h7⟩
  rw [Array.getElem?_setIfInBounds_ne (fun e'=>e e'.symm)];exact h5
end
theorem Live.setOther{w0 w:World}{p:Nat}{S:Nat->Prop}{D:DS}(h:Live w0 w p S D){a:Addr}{v:Value}(hn:¬ S a.block)(hb:w0.heap.size<=a.block):Live w0 (w.setCell a v) p S D :=
 ⟨h.dev.same (by simp) (fun k hk=>heap_setCell_other _ _ _ _ (fun e=>hn (e ▸ hk))),h.bel.setCell hb v,h.base⟩
theorem zhc:(Tryz.prog.info? 29).map (fun i=>(i.zero,i.size,i.bytes))=some (some (.slice none 0 0),1,24):=by kernel_rfl
theorem zfe{P:Program}{w:World}{ops:Array Oper}{rest:List Oper}{o:Oper}{a:Act}{Q:Exit->Act->World->Prop}
  (hg:o.guard=none) (l c:Operand) (t:TypeId) (hop:o.op=Op.makeSlice t l c)
  (i:TypeInfo) (h1:P.underlying t=some (.slice 29)) (h2:P.info? 29=some i) (h3:i.zero=some (.slice none 0 0)) (h4:i.size=1) (h5:i.bytes=24)
  (kl kc:IntKind) (L C:Int) (n:Nat) (hl:a.eval l=.int kl L) (hc:a.eval c=.int kc C) (hL:L=(n:Int)) (hC:C=(n:Int)) (b2:n<=300)
  (hK:∀ w',(∀ S F,¬ S w.heap.size->Tab w' S w.heap.size n F 0)->Below w.heap.size w w'->wpList P ops Q rest (a.put o.dst (.slice (some ⟨w.heap.size,0,none⟩) n n)) w') :
  wpList P ops Q (o :: rest) a w:=by
 refine wpList_plain hg fun K hK'=>?_
 have hrun:=run_make (P:=P) w t 29 i _ h1 h2 h3 kl kc n n (by omega) (by omega) (by rw [h5];omega) (by omega)
 subst hL
 subst hC
 unfold Oper.wp
 simp [execOp,hop,hl,hc,hrun,Result.andThen]
 refine hK' _ _ (hK _ (fun S F hS=>⟨_,heap_alloc_new _ _,by rw [size_madeCells,h4,Nat.mul_one],hS,fun i hi=>absurd hi (Nat.not_lt_zero i)⟩) ((Below.refl _ _).alloc (Nat.le_refl _) _))
theorem ze7{w:World}{a:Option Addr}{cap:Nat}{l:List Int}(hb:Bs w a cap l)(n:Nat):Bs (w.drewN n) a cap l:=hb
theorem zdW{w:World}{g:Nat}{l:List Int}(h:Blk w g l)(hs:Sec l):Bs w (some ⟨g,0,none⟩) 32 l:=by
 have:=h.bs hs.2 (by rw [hs.1];decide)
 rwa [hs.1] at this
end Go.Proofs.YtchmlnmhbfaclaaGreatDoor
