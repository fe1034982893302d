/-
  Parts of the proofs.
-/
import Derived.Test.YtcimhnnendlblaaGreatJPgp
import Derived.Maps.OwnSet
import Derived.Test.YtcimhnnendlblaaGreatJTn
import Derived.Deep.WholeRow
import Derived.Maps.AppendAt
import Derived.Deep.RegionHeld3
import Derived.Deep.DrawnRows
import Derived.Carry
set_option maxRecDepth 100000
set_option maxHeartbeats 16000000
set_option linter.all false
namespace Go.Proofs.YtcimhnnendlblaaGreat
open Go.RowKit
section
open Go.MapKept
open Go.ChangeMaps
open Go.Maps (Keyed)
def aI(l:List Int):Array Value:=(l.map (Value.int .u8)).toArray
def sv(l:List Int):Value:=.agg (aI l)
def sd(l:List Int):DataW Unit:=.agg (l.map fun z=>.lit (.int .u8 z))
theorem bJ(l:List Int):(aI l).size=l.length:=by simp [aI]
theorem nt(l:List Int)(i:Nat)(h:i<l.length):(aI l)[i]?=some (.int .u8 (l.getD i 0)):=by simp [aI,h,List.getD]
def isU8:Value->Bool
 | .int .u8 _=>true
 | _=>false
def zam:Value->Int
 | .int .u8 z=>z
 | _=>0
def Ij:Value->Option (DataW Unit×List MemPlace)
 | .agg cs=>if cs.toList.all isU8=true/\cs.size=32 then some (.agg (cs.toList.map fun v=>.lit (.int .u8 (zam v))),[]) else none
 | _=>none
theorem Zc(l:List Int):(l.map (Value.int .u8)).all isU8=true:=by
 induction l with
 | nil=>rfl
 | cons a r ih=>simp [isU8]
theorem Fj{l:List Int}(h:l.length=32):Ij (sv l)=some (sd l,[]):=by
 have h1:=Zc l;unfold Ij sv;simp only [aI,List.size_toArray,zLm,h,h1,and_self,if_true,sd,List.map_map]
 congr 1
theorem Sj{cs:List Value}(h:cs.all isU8=true):cs=(cs.map zam).map (Value.int .u8):=by
 induction cs with
 | nil=>rfl
 | cons a r ih =>
  simp only [List.all_cons,Bool.and_eq_true] at h;have ha:a=.int .u8 (zam a):=by
   cases a <;> simp [isU8] at h
   rename_i q z
   cases q <;> simp at h
   rfl
  simp only [List.map_cons,<- ha]
  congr 1
  exact ih h.2
theorem Va{v:Value}{d:DataW Unit}{ps:List MemPlace}(h:Ij v=some (d,ps)):∃ l,l.length=32/\v=sv l/\d=sd l:=by
 unfold Ij at h;cases v <;> simp only [reduceCtorEq] at h
 rename_i cs
 split at h
 ·rename_i hc
  simp only [Option.some.injEq,Prod.mk.injEq] at h;refine⟨cs.toList.map zam,by simpa using hc.2,?_,?_⟩
  ·unfold sv aI;rw [<- Sj hc.1]
  ·rw [<- h.1];simp [sd]
 ·cases h
theorem Ve{a b:List Int}(h:sd a=sd b):a=b:=by
 unfold sd at h;simp only [DataW.agg.injEq] at h;induction a generalizing b with
 | nil=>cases b with
  | nil=>rfl
  | cons _ _=>simp at h
 | cons x r ih=>cases b with
  | nil=>simp at h
  | cons y s =>simp only [List.map_cons,List.cons.injEq,DataW.lit.injEq,Lit.int.injEq,true_and] at h;rw [h.1,ih h.2]
def im(P:Program)(K:TypeId)(w:World)(bm:Nat)(mem:List (Nat×List Int)):Prop :=∃ D,w.ownsMap P K Ij bm mem.length D/\∀ i:Nat,Maps.has D (.int .i64 i)=(mem.lookup i).isSome/\∀ b,mem.lookup i=some b->D.atKey (.int .i64 i) (sd (ag 32))=sd b
section
variable {P:Program} {K:TypeId} {w:World} {bm:Nat} {mem:List (Nat×List Int)}
theorem im.lt(h:im P K w bm mem):bm<w.heap.size:=by obtain⟨D,h1,_⟩:=h;exact h1.lt
theorem im.isMap(h:im P K w bm mem):∃ es clock,w.heap[bm]?=some (.map es clock):=by obtain⟨D,⟨es,clock,hb,_⟩,_⟩:=h;exact⟨es,clock,hb⟩
theorem im.same{w':World}(h:im P K w bm mem)(hs:w'.heap[bm]?=w.heap[bm]?):im P K w' bm mem:=by obtain⟨D,⟨es,clock,hb,r⟩,h2⟩:=h;exact⟨D,⟨es,clock,hs.trans hb,r⟩,h2⟩
theorem qm(i:Nat)(h:i<300):(Lit.int .i64 (i:Int)).wf=true:=WalkArith.wf_i64 (by omega)
theorem MF(w:World):im P K (w.alloc (.map #[] 0)) w.heap.size [] :=⟨.map [],World.ownsMap_made w P K Ij,fun i=>⟨rfl,fun b hb=>by simp at hb⟩⟩
theorem ug{H:Type}{R:Value->Option (DataW H×List MemPlace)}{n m:Nat}{D:DataW H}(h:w.ownsMap P K R bm n D)(hm:Maps.size D<=m):w.ownsMap P K R bm m D:=by obtain⟨es,clock,hb,F,hs,rfl⟩:=h;exact⟨es,clock,hb,F,by simpa [Maps.size,length_sorted] using hm,rfl⟩
def o7(mem:List (Nat×List Int))(i:Nat):List Int:=(mem.lookup i).getD (ag 32)
theorem im.look{T E:TypeId}(h:im P K w bm mem)(hK:P.underlying K=some (.int .i64))(hT:P.underlying T=some (.map K E))(hz:(zeroValue E).run P w=.ok (sv (ag 32)) w)(c:Bool){i:Nat}(hi:i<300) :
  (Instr.lookup T (.map (some bm)) (.int .i64 i) c).run P w=.ok (if c then .tuple #[sv (o7 mem i),.bool (mem.lookup i).isSome] else sv (o7 mem i)) w:=by
 obtain⟨D,az,hD⟩:=h;have dt:=Maps.keyOf_int_mk (P:=P) hK (qm i hi);have Z2:=Fj (l:=ag 32) (by simp [ag]);have lG:∀ v ps,Ij v=some (D.atKey (.int .i64 i) (sd (ag 32)),ps)->v=sv (o7 mem i):=by
  intro v ps hv;obtain⟨l,hl,rfl,hd⟩:=Va hv;unfold o7;cases hm:mem.lookup i with
  | none =>
   have gI:Maps.has D (.int .i64 i)=false:=by rw [(hD i).1,hm];rfl
   rw [Maps.atKey_of_not_has gI] at hd;rw [Ve hd];rfl
  | some b =>rw [(hD i).2 b hm] at hd;rw [Ve hd];rfl
 cases c with
 | true =>obtain⟨v,ps,bw,hv⟩:=az.look_ok (Maps.int_keyed hK) hT hz Z2 dt;rw [bw,lG v ps hv,(hD i).1];rfl
 | false =>obtain⟨v,ps,bw,hv⟩:=az.lookup (Maps.int_keyed hK) hT hz Z2 dt;rw [bw,lG v ps hv];rfl
theorem im.store{T E:TypeId}(h:im P K w bm mem)(hK:P.underlying K=some (.int .i64))(hT:P.underlying T=some (.map K E))(hn:mem.length<=300){i:Nat}(hi:i<300){b:List Int}(hb:b.length=32) :
  ∃ w',(Instr.mapUpdate T (.map (some bm)) (.int .i64 i) (sv b)).run P w=.ok () w'/\im P K w' bm (memPut mem i b)/\w.mapTurned w' bm:=by
 obtain⟨D,az,hD⟩:=h;have dt:=Maps.keyOf_int_mk (P:=P) hK (qm i hi);obtain⟨w',bw,ew,ht⟩:=az.store (Maps.int_keyed hK) hT (by unfold maxLen;omega) dt (Fj hb);have jM:WideAt.IsKeyLit (.int .i64 (i:Int)):=(Maps.int_keyed hK).key dt;refine⟨w',bw,⟨_,ug ew ?_,fun j=>?_⟩,ht⟩
 ·rw [Maps.size_put (az.tidy (Maps.int_keyed hK)),(hD i).1];have h1:=az.size_le;have h2:(memPut mem i b).length=((memPut mem i b).map (·.1)).length:=by simp
  rw [h2,od];cases hm:mem.lookup i with
  | none =>have:=gV.1 hm;simp only [this,if_false,Option.isSome_none,Bool.false_eq_true];simp;omega
  | some c =>
   have:i∈mem.map (·.1):=by
    refine Classical.byContradiction fun hc=>?_
    rw [gV.2 hc] at hm;cases hm
   simp only [this,if_true,Option.isSome_some];simp;omega
 ·rw [iN];by_cases hj:j=i
  ·subst hj;refine⟨by simp [Maps.has_put_same az.isMap jM],fun c hc=>?_⟩;simp at hc;subst hc;exact Maps.atKey_put_same az.isMap jM _ _
  ·have aO:Lit.int .i64 (j:Int)≠Lit.int .i64 (i:Int):=by intro e;simp only [Lit.int.injEq,true_and] at e;omega
   simp only [hj,if_false];rw [Maps.has_put_other aO,Maps.atKey_put_other aO];exact hD j
theorem im.clear{T E:TypeId}(h:im P K w bm mem)(hT:P.underlying T=some (.map K E)) :
  ∃ w',(∀ ty,(Builtin.clear_ #[T] ty #[.map (some bm)]).run P w=.ok (.tuple #[]) w')/\im P K w' bm []/\w.mapTurned w' bm:=by
 obtain⟨es,clock,hb⟩:=h.isMap;refine⟨setBlock w bm (.map #[] clock),fun ty=>?_,⟨.map [],?_,fun i=>⟨rfl,fun b hb=>by simp at hb⟩⟩,⟨es,clock,#[],clock,hb,rfl⟩⟩
 ·simp [Builtin.clear_,run_underlying hT,MapKept.run_getObj_map hb,MapKept.run_setObj_map _ hb,Result.andThen,setBlock]
 ·exact⟨#[],clock,heap_setBlock_same hb _,⟨by simp,stamped_empty clock,by simp⟩,zNr,rfl⟩
end
end
section
open Go.MapKept
theorem aE.map{S:Nat->Prop}{w w':World}{b:Nat}(ht:w.mapTurned w' b)(h:S b):aE S S w w' :=
 let g:=ht.grown
 ⟨g.os,g.tape,g.output,g.size,fun k hk hn=>g.block k hk (fun e=>hn (zOi e ▸ h)),fun _ _ hs=>hs⟩
def iR(w:World)(g:Nat)(t:TypeId)(l:List Int):Prop:=w.heap[g]?=some (.cells (aI l) t (0,0))
theorem iR.cell{w:World}{g:Nat}{t:TypeId}{l:List Int}(h:iR w g t l)(i:Nat)(hi:i<l.length):w.cell? ⟨g,i,none⟩=some (.int .u8 (l.getD i 0)):=by rw [cell_of_row w g i _ t (0,0) h];exact nt l i hi
theorem iR.lt{w:World}{g:Nat}{t:TypeId}{l:List Int}(h:iR w g t l):g<w.heap.size:=(zAg h).1
theorem iR.set{w:World}{g:Nat}{t:TypeId}{z:List Int}(h:iR w g t z)(l:List Int):iR (ei w g l) g t l:=setRow_heap w g _ _ t _ h
theorem iR.same{w w':World}{g:Nat}{t:TypeId}{l:List Int}(h:iR w g t l)(e:w'.heap[g]?=w.heap[g]?):iR w' g t l:=e.trans h
theorem iR.bs{w:World}{g:Nat}{t:TypeId}{l:List Int}(h:iR w g t l)(hb:bj l)(hl:l.length<=140737488351232)(off n cap:Nat)(hn:off+n<=l.length)(hc:n<=cap):Bs w (some ⟨g,off,none⟩) cap ((l.drop off).take n):=by
 have hlen:((l.drop off).take n).length=n:=by simp;omega
 refine⟨hb.sub off n,by omega,by omega,fun e=>(by cases e),fun _=>⟨g,off,rfl,fun i hi=>?_⟩⟩;rw [hlen] at hi;rw [h.cell (off+i) (by omega)];simp [List.getD,hi]
theorem kn{P:Program}(w:World)(dT sT ty:TypeId)(hu:P.underlying dT=some (.slice 5))(cL:(P.info? 5).map (·.size)=some 1)
  {g t off dCap:Nat} {sp:Option Addr} {sCap:Nat} {z l:List Int} (hz:off+l.length<=z.length) (hg:iR w g t z) (hb:Bs w sp sCap l) :
  (Builtin.copy_ #[dT,sT] ty #[.slice (some ⟨g,off,none⟩) l.length dCap,.slice sp l.length sCap]).run P w=.ok (.int .i64 l.length) (ei w g (splice z off l)):=by
 by_cases h0:l=[]
 ·subst h0;have bw:=run_copy_none (P:=P) w dT sT ty 5 (some ⟨g,off,none⟩) sp 0 dCap 0 sCap hu cL (by simp);have jQ:ei w g (splice z off [])=w:=by
   have:splice z off []=z:=by simp [splice]
   rw [this];exact setRow_self w g _ t (0,0) hg
  rw [jQ];simpa [goInt] using bw
 ·obtain⟨b,o2,rfl,hc⟩:=hb.2.2.2.2 h0;have bw:=run_copy_row (P:=P) w dT sT ty 5 g off l.length dCap ⟨b,o2,none⟩ l.length sCap _ t (l.map (Value.int .u8)) hu cL hg (by simp) ?_ (by simpa [aI] using hz) (dE l)
  ·rw [bw];simp [goInt,ei,splice,aI]
  ·intro j v hj;have mG:j<l.length:=by
    rcases Nat.lt_or_ge j l.length with h1 | h1
    ·exact h1
    ·rw [List.getElem?_eq_none (by simpa using h1)] at hj;cases hj
   have:=hc j mG;simp [mG] at hj;subst hj;rw [addr_add];simpa [List.getD,mG] using this
theorem tt:∀ (secs:List (List Int)),(∀ s∈secs,s.length=32)->secs.flatten.length=secs.length * 32
 | [],_=>rfl
 | s :: r,h=>by have:=tt r (fun x hx=>h x (by simp [hx]));have:=h s (by simp);simp only [List.flatten_cons,zLa,zLc];omega
theorem wS:∀ (secs:List (List Int)) (i:Nat),(∀ s∈secs,s.length=32)->i<secs.length->(secs.flatten.drop (i * 32)).take 32=secs.getD i []
 | [],i,_,h=>by simp at h
 | s :: r,0,h,_=>by have:=h s (by simp);simp [List.getD,this]
 | s :: r,i+1,h,hi=>by
  have h1:=h s (by simp);have h2:=wS r i (fun x hx=>h x (by simp [hx])) (by simpa using hi);have e:(i+1) * 32=s.length+i * 32:=by omega
  rw [e,List.flatten_cons,List.drop_append];rw [List.drop_eq_nil_of_le (by omega),List.nil_append];rw [show s.length+i * 32-s.length=i * 32 from by omega,h2];simp [List.getD]
theorem qT:∀ (secs:List (List Int)) (i:Nat) (cs:List Int),(∀ s∈secs,s.length=32)->i<secs.length->cs.length<=32 ->splice secs.flatten (i * 32) cs=(secs.set i (cs++(secs.getD i []).drop cs.length)).flatten
 | [],i,_,_,h,_=>by simp at h
 | s :: r,0,cs,h,_,hc=>by have:=h s (by simp);simp [splice,List.getD];rw [List.drop_append_of_le_length (by omega)]
 | s :: r,i+1,cs,h,hi,hc=>by
  have h1:=h s (by simp);have h2:=qT r i cs (fun x hx=>h x (by simp [hx])) (by simpa using hi) hc;have e:(i+1) * 32=s.length+i * 32:=by omega
  have e3:(s :: r).getD (i+1) []=r.getD i []:=by simp [List.getD]
  rw [e,e3,List.set_cons_succ,List.flatten_cons,List.flatten_cons,<- h2];unfold splice;rw [List.take_append,List.take_of_length_le (by omega),List.drop_append,List.drop_eq_nil_of_le (by omega)];rw [show s.length+i * 32-s.length=i * 32 from by omega,show s.length+i * 32+cs.length-s.length=i * 32+cs.length from by omega];simp
def df(sb n bm:Nat)(pv:Value)(left:Int)(down:Bool):Array Value:=#[.slice (some ⟨sb,0,none⟩) n n,.map (some bm),pv,.int .i64 left,.bool down]
def eu(mem:List (Nat×List Int)):List Value:=mem.map fun q=>.int .i64 (q.1:Int)
structure bG (w:World) (p sb bm:Nat) (pv:Value) (S:Nat->Prop) (D:DS):Prop where
 ok:D.Ok
 str:w.heap[p]?=some (.cells (df sb D.secs.length bm pv D.left D.down) 133 (0,0))
 sec:iR w sb 226 D.secs.flatten
 mem:im Tryz.prog 3 w bm D.mem
 pen:w.ownsRow 0 3 1 pv D.mem.length (eu D.mem)
 zb:S p
 ins:S sb
 Jq:S bm
 inv:∀ g,pv.ownBlock=some g->S g
 lt:∀ k,S k->k<w.heap.size
 Um:p≠sb
 ZX:pv.ownBlock≠some p
 nvs:pv.ownBlock≠some sb
def pT(w:World)(p:Nat)(S:Nat->Prop)(D:DS):Prop:=∃ sb bm pv,bG w p sb bm pv S D
section
variable {w w':World} {p sb bm:Nat} {pv:Value} {S:Nat->Prop} {D:DS}
theorem bG.npm(h:bG w p sb bm pv S D):bm≠p:=by intro e;subst e;obtain⟨es,c,hb⟩:=h.mem.isMap;rw [h.str] at hb;cases hb
theorem bG.nsm(h:bG w p sb bm pv S D):bm≠sb:=by intro e;subst e;obtain⟨es,c,hb⟩:=h.mem.isMap;have:=h.sec;unfold iR at this;rw [this] at hb;cases hb
theorem eM{base:Nat}{e size:Nat}{v:Value}{n:Nat}{xs:List Value}(h:w.ownsRow base e size v n xs){g:Nat}(hg:v.ownBlock=some g):∃ cur,w.heap[g]?=some (.cells cur e (0,0)):=by
 rcases h.2 with ⟨rfl,_⟩ | ⟨g',cap,cur,rfl,_,hb,_⟩
 ·simp [Value.ownBlock] at hg
 ·simp [Value.ownBlock] at hg;subst hg;exact⟨cur,hb⟩
theorem bG.nvm(h:bG w p sb bm pv S D):pv.ownBlock≠some bm:=by intro e;obtain⟨cur,hc⟩:=eM h.pen e;obtain⟨es,c,hb⟩:=h.mem.isMap;rw [hc] at hb;cases hb
theorem ed{base:Nat}{e size:Nat}{v:Value}{n:Nat}{xs:List Value}(h:w.ownsRow base e size v n xs)(hs:∀ g,v.ownBlock=some g->w'.heap[g]?=w.heap[g]?):w'.ownsRow base e size v n xs:=by
 refine⟨h.1,?_⟩;rcases h.2 with h2 | ⟨g,cap,cur,rfl,h3,hb,r⟩
 ·exact .inl h2
 ·exact .inr ⟨g,cap,cur,rfl,h3,(hs g rfl).trans hb,r⟩
theorem bG.same(h:bG w p sb bm pv S D)(hz:w.heap.size<=w'.heap.size)(hs:∀ k,S k->w'.heap[k]?=w.heap[k]?):bG w' p sb bm pv S D :=⟨h.ok,(hs _ h.zb).trans h.str,h.sec.same (hs _ h.ins),h.mem.same (hs _ h.Jq),ed h.pen (fun g hg=>hs g (h.inv g hg)),h.zb,h.ins,h.Jq,h.inv,fun k hk=>Nat.lt_of_lt_of_le (h.lt k hk) hz,h.Um,h.ZX,h.nvs⟩
theorem bG.alloc(h:bG w p sb bm pv S D)(o:Obj):bG (w.alloc o) p sb bm pv S D:=h.same (by simp) (fun k hk=>heap_alloc_old w o (h.lt k hk))
theorem pT.same(h:pT w p S D)(hz:w.heap.size<=w'.heap.size)(hs:∀ k,S k->w'.heap[k]?=w.heap[k]?):pT w' p S D:=by obtain⟨sb,bm,pv,h⟩:=h;exact⟨sb,bm,pv,h.same hz hs⟩
theorem pT.lt(h:pT w p S D):∀ k,S k->k<w.heap.size:=by obtain⟨sb,bm,pv,h⟩:=h;exact h.lt
theorem pT.ok(h:pT w p S D):D.Ok:=by obtain⟨sb,bm,pv,h⟩:=h;exact h.ok
theorem pT.below(h:pT w p S D)(hb:Below w.heap.size w w'):pT w' p S D:=h.same hb.size (fun k hk=>hb.block k (h.lt k hk))
theorem pT.dZ{T T':Nat->Prop}(h:pT w p S D)(ht:aE T T' w w')(hd:∀ k,S k->¬ T k):pT w' p S D:=h.same ht.size (fun k hk=>ht.block k (h.lt k hk) (hd k hk))
theorem bG.tW(h:bG w p sb bm pv S D)(n:Int)(hn:-9223372036854775808<=n/\n<=9223372036854775807):bG (w.setCell ⟨p,3,none⟩ (.int .i64 n)) p sb bm pv S { D with left:=n } :=⟨h.ok.fail hn,by rw [heap_setCell_same _ _ _ _ _ _ h.str];simp [df],h.sec.same (heap_setCell_other _ _ _ _ h.Um.symm),h.mem.same (heap_setCell_other _ _ _ _ h.npm),ed h.pen (fun g hg=>heap_setCell_other _ _ _ _ (fun e=>h.ZX (by rw [hg,e]))),h.zb,h.ins,h.Jq,h.inv,fun k hk=>by simpa using h.lt k hk,h.Um,h.ZX,h.nvs⟩
theorem bG.tX(h:bG w p sb bm pv S D)(x:Bool):bG (w.setCell ⟨p,4,none⟩ (.bool x)) p sb bm pv S { D with down:=x } :=⟨⟨h.ok.len,h.ok.sec,h.ok.mem,h.ok.apart,h.ok.left⟩,by rw [heap_setCell_same _ _ _ _ _ _ h.str];simp [df],h.sec.same (heap_setCell_other _ _ _ _ h.Um.symm),h.mem.same (heap_setCell_other _ _ _ _ h.npm),ed h.pen (fun g hg=>heap_setCell_other _ _ _ _ (fun e=>h.ZX (by rw [hg,e]))),h.zb,h.ins,h.Jq,h.inv,fun k hk=>by simpa using h.lt k hk,h.Um,h.ZX,h.nvs⟩
theorem bG.drew(h:bG w p sb bm pv S D):bG w.drew p sb bm pv S D:=h.same zNr (fun _ _=>rfl)
theorem bG.zaH(h:bG w p sb bm pv S D)(secs:List (List Int))(hl:secs.length=D.secs.length)(hs:∀ s∈secs,kS s):bG (ei w sb secs.flatten) p sb bm pv S { D with secs:=secs } :=
 ⟨⟨by show secs.length<=300;rw [hl];exact h.ok.len,hs,fun q hq=>by show q.1<secs.length/\_;rw [hl];exact h.ok.mem q hq,h.ok.apart,h.ok.left⟩,
  by show(ei w sb secs.flatten).heap[p]?=some (.cells (df sb secs.length bm pv D.left D.down) _ _);rw [hl];exact(setRow_other w sb p _ h.Um).trans h.str,h.sec.set _,h.mem.same (setRow_other w sb bm _ h.nsm),
  ed h.pen (fun g hg=>setRow_other w sb g _ (fun e=>h.nvs (by rw [hg,e]))),h.zb,h.ins,h.Jq,h.inv,fun k hk=>by simpa [ei] using h.lt k hk,h.Um,h.ZX,h.nvs⟩
theorem bG.forget{w1:World}(h:bG w p sb bm pv S D)(hm:im Tryz.prog 3 w1 bm [])(ht:w.mapTurned w1 bm):bG (w1.setCell ⟨p,2,none⟩ (.slice none 0 0)) p sb bm (.slice none 0 0) S { D with mem:=[]}:=by
 have hg:=ht.grown;have e:∀ k,S k->k≠bm->w1.heap[k]?=w.heap[k]?:=fun k hk aO=>hg.block k (h.lt k hk) (fun e=>aO (zOi e))
 have hp:w1.heap[p]?=_:=(e p h.zb h.npm.symm).trans h.str;refine⟨⟨h.ok.len,h.ok.sec,fun q hq=>(by cases hq),List.nodup_nil,h.ok.left⟩,by rw [heap_setCell_same _ _ _ _ _ _ hp];simp [df],(h.sec.same (e sb h.ins h.nsm.symm)).same (heap_setCell_other _ _ _ _ h.Um.symm),hm.same (heap_setCell_other _ _ _ _ h.npm),World.ownsRow_nil _ _ _ _,h.zb,h.ins,h.Jq,fun g hg=>(by cases hg),fun k hk=>(by have:=h.lt k hk;have:=hg.size;simp;omega),h.Um,fun e=>(by cases e),fun e=>(by cases e)⟩
theorem jr(m:List (Nat×List Int)):eu m=(m.map (fun q=>q.1)).map (fun i:Nat=>Value.int .i64 (i:Int)):=by simp [eu]
theorem Cb{m:List (Nat×List Int)}{i:Nat}(h:(m.lookup i).isSome=true):i∈m.map (·.1):=by
 refine Classical.byContradiction fun hc=>?_
 rw [gV.2 hc] at h;cases h
theorem length_keys(m:List (Nat×List Int)):(m.map (·.1)).length=m.length:=by simp
theorem bG.zaN{w1:World}{i:Nat}{l:List Int}(h:bG w p sb bm pv S D)(hi:(D.mem.lookup i).isSome=true)(hl:i<D.secs.length)(hs:kS l)(hm:im Tryz.prog 3 w1 bm (memPut D.mem i l))(ht:w.mapTurned w1 bm):bG w1 p sb bm pv S (D.put i l):=by
 have hg:=ht.grown;have e:∀ k,S k->k≠bm->w1.heap[k]?=w.heap[k]?:=fun k hk aO=>hg.block k (h.lt k hk) (fun e=>aO (zOi e))
 have hk:(memPut D.mem i l).map (·.1)=D.mem.map (·.1):=by rw [od,if_pos (Cb hi)]
 refine⟨h.ok.put hl hs,(e p h.zb h.npm.symm).trans h.str,h.sec.same (e sb h.ins h.nsm.symm),hm,?_,h.zb,h.ins,h.Jq,h.inv,fun k hk=>Nat.lt_of_lt_of_le (h.lt k hk) hg.size,h.Um,h.ZX,h.nvs⟩
 show w1.ownsRow 0 3 1 pv (memPut D.mem i l).length (eu (memPut D.mem i l))
 have e1:eu (memPut D.mem i l)=eu D.mem:=by rw [jr,jr D.mem,hk]
 have e2:(memPut D.mem i l).length=D.mem.length:=by rw [<- length_keys,hk,length_keys]
 rw [e1,e2];exact ed h.pen (fun g hg=>e g (h.inv g hg) (fun e=>h.nvm (by rw [hg,e])))
theorem bG.zaO{w5:World}{i:Nat}{l:List Int}{v:Value}(h:bG w p sb bm pv S D)(hi:D.mem.lookup i=none)(hl:i<D.secs.length)(hs:kS l)
  (zkV:w5.heap[p]?=some (.cells (df sb D.secs.length bm v D.left D.down) 133 (0,0))) (gN:w5.heap[sb]?=w.heap[sb]?) (hm:im Tryz.prog 3 w5 bm (memPut D.mem i l))
  (az:w5.ownsRow 0 3 1 v (D.mem.length+1) (eu D.mem++[.int .i64 (i:Int)])) (hz:w.heap.size<=w5.heap.size) (JL:v.ownBlock=pv.ownBlock\/∃ g,v.ownBlock=some g/\w.heap.size<=g) :
  bG w5 p sb bm v (fun k=>S k\/v.ownBlock=some k) (D.put i l)/\(∀ k,k<w.heap.size->(S k\/v.ownBlock=some k)->S k):=by
 have hk:(memPut D.mem i l).map (·.1)=D.mem.map (·.1)++[i]:=by rw [od,if_neg (gV.1 hi)]
 have e1:eu (memPut D.mem i l)=eu D.mem++[.int .i64 (i:Int)]:=by rw [jr,jr D.mem,hk];simp
 have e2:(memPut D.mem i l).length=D.mem.length+1:=by rw [<- length_keys,hk];simp
 have hold:∀ k,v.ownBlock=some k->S k\/w.heap.size<=k:=by
  intro k hv;rcases JL with hl | ⟨g,hg,hle⟩
  ·exact .inl (h.inv k (by rw [<- hl];exact hv))
  ·rw [hg] at hv;cases hv;exact .inr hle
 refine⟨⟨h.ok.put hl hs,zkV,h.sec.same gN,hm,?_,.inl h.zb,.inl h.ins,.inl h.Jq,fun g hg=>.inr hg,?_,h.Um,?_,?_⟩,?_⟩
 ·show w5.ownsRow 0 3 1 v (memPut D.mem i l).length (eu (memPut D.mem i l))
  rw [e1,e2];exact az
 ·intro k hk;rcases hk with hk | hk
  ·exact Nat.lt_of_lt_of_le (h.lt k hk) hz
  ·exact(az.lt k hk).2
 ·intro e;rcases JL with hl | ⟨g,hg,hle⟩
  ·exact h.ZX (by rw [<- hl];exact e)
  ·rw [hg] at e;cases e;have:=h.lt p h.zb;omega
 ·intro e;rcases JL with hl | ⟨g,hg,hle⟩
  ·exact h.nvs (by rw [<- hl];exact e)
  ·rw [hg] at e;cases e;have:=h.lt sb h.ins;omega
 ·intro k hk hS;rcases hS with hS | hS
  ·exact hS
  ·rcases hold k hS with h1 | h1
   ·exact h1
   ·omega
theorem bG.c0(h:bG w p sb bm pv S D):w.cell? ⟨p,0,none⟩=some (.slice (some ⟨sb,0,none⟩) D.secs.length D.secs.length):=by rw [cell_of_row _ _ _ _ _ _ h.str];simp [df]
theorem bG.c1(h:bG w p sb bm pv S D):w.cell? ⟨p,1,none⟩=some (.map (some bm)):=by rw [cell_of_row _ _ _ _ _ _ h.str];simp [df]
theorem bG.c2(h:bG w p sb bm pv S D):w.cell? ⟨p,2,none⟩=some pv:=by rw [cell_of_row _ _ _ _ _ _ h.str];simp [df]
theorem bG.c3(h:bG w p sb bm pv S D):w.cell? ⟨p,3,none⟩=some (.int .i64 D.left):=by rw [cell_of_row _ _ _ _ _ _ h.str];simp [df]
theorem bG.c4(h:bG w p sb bm pv S D):w.cell? ⟨p,4,none⟩=some (.bool D.down):=by rw [cell_of_row _ _ _ _ _ _ h.str];simp [df]
theorem bG.fr(h:bG w p sb bm pv S D)(i:Nat):w.frozen? ⟨p,i,none⟩=false:=frozen_of_row _ _ _ _ _ h.str
theorem bG.ud(h:bG w p sb bm pv S D):(pv=.slice none 0 0/\D.mem=[])\/∃ g cap,pv=.slice (some ⟨g,0,none⟩) D.mem.length cap/\D.mem.length<=cap/\cap<=maxLen/\(∀ i,i<D.mem.length->w.cell? ⟨g,i,none⟩=some (.int .i64 ((D.mem.getD i (0,[])).1:Int))):=by
 rcases h.pen.2 with ⟨h1,h2⟩ | ⟨g,cap,cur,h1,_,hb,h3,h4,h5,h6⟩
 ·exact .inl ⟨h1,List.eq_nil_of_length_eq_zero h2⟩
 ·refine .inr ⟨g,cap,h1,h3,h4,fun i hi=>?_⟩;rw [cell_of_row _ _ _ _ _ _ hb];have e:(cur.toList.take (D.mem.length * 1))[i]?=(eu D.mem)[i]?:=by rw [h6]
  rw [List.getElem?_take,if_pos (by omega)] at e;simp only [Array.getElem?_toList] at e;rw [e];simp [eu,hi,List.getD]
theorem bG.vU{g n cap:Nat}(h:bG w p sb bm (.slice (some ⟨g,0,none⟩) n cap) S D)(i:Nat)(hi:i<D.mem.length):w.cell? ⟨g,i,none⟩=some (.int .i64 ((D.mem.getD i (0,[])).1:Int)):=by
 rcases h.ud with ⟨e,_⟩ | ⟨g',cap',e,_,_,hc⟩
 ·cases e
 ·simp only [Value.slice.injEq,Option.some.injEq,Addr.mk.injEq,and_true] at e;rw [e.1];exact hc i hi
end
end
theorem WO:(Tryz.prog.info? 226).map (fun i=>(i.zero,i.size))=some (some (sv (ag 32)),32):=by kernel_rfl
theorem qu:(Tryz.prog.info? 226).map (·.size)=some 32:=by kernel_rfl
theorem qj(w:World):(zeroValue 226).run Tryz.prog w=.ok (sv (ag 32)) w:=(zero_of_info WO).1 w
theorem jd(l:List Int):(aI l).all (·.oneCell')=true:=by rw [Array.all_eq_true];intro i hi;simp [aI] at hi ⊢;rfl
theorem nN(w:World)(l:List Int)(hl:l.length=32) :
  (storeCells ⟨w.heap.size,0,none⟩ (aI l).toList 0).run Tryz.prog (w.alloc (.cells #[.int .u8 0,.int .u8 0,.int .u8 0,.int .u8 0,.int .u8 0,.int .u8 0,.int .u8 0,.int .u8 0,.int .u8 0,.int .u8 0,.int .u8 0,.int .u8 0,.int .u8 0,.int .u8 0,.int .u8 0,.int .u8 0,.int .u8 0,.int .u8 0,.int .u8 0,.int .u8 0,.int .u8 0,.int .u8 0,.int .u8 0,.int .u8 0,.int .u8 0,.int .u8 0,.int .u8 0,.int .u8 0,.int .u8 0,.int .u8 0,.int .u8 0,.int .u8 0] 226))=.ok () (w.alloc (.cells (aI l) 226)) :=
 run_storeCells_new w 226 #[.int .u8 0,.int .u8 0,.int .u8 0,.int .u8 0,.int .u8 0,.int .u8 0,.int .u8 0,.int .u8 0,.int .u8 0,.int .u8 0,.int .u8 0,.int .u8 0,.int .u8 0,.int .u8 0,.int .u8 0,.int .u8 0,.int .u8 0,.int .u8 0,.int .u8 0,.int .u8 0,.int .u8 0,.int .u8 0,.int .u8 0,.int .u8 0,.int .u8 0,.int .u8 0,.int .u8 0,.int .u8 0,.int .u8 0,.int .u8 0,.int .u8 0,.int .u8 0] (aI l) (by rw [bJ,hl];exact qu) (by rw [bJ,hl];rfl) (jd l)
theorem E6{P:Program}{ops:Array Oper}{o:Oper}{a:Act}{w:World}{K:Act->World->Prop}{Q:Exit->Act->World->Prop}{E:Prop}(pZ:o.guard=none)(d s:Operand)(dT sT:TypeId)
  (ho:o.op=.call { callee:=.builtin .copy,args:=#[d,s],argTypes:=#[dT,sT]}) (hu:P.underlying dT=some (.slice 5)) (cL:(P.info? 5).map (·.size)=some 1)
  (g t off dCap:Nat) (sp:Option Addr) (sCap n:Nat) (z l:List Int) (hn:l.length=n) (hd:a.eval d=.slice (some ⟨g,off,none⟩) n dCap) (hs:a.eval s=.slice sp n sCap)
  (hz:off+l.length<=z.length) (hg:iR w g t z) (hb:Bs w sp sCap l) (h:K (a.put o.dst (.int .i64 n)) (ei w g (splice z off l))) :
  if Region.wanted o (yielded ops a.tmps)=true then Oper.wp P o a w K Q else E:=by
 have hw:Region.wanted o (yielded ops a.tmps)=true:=by simp [Region.wanted,pZ]
 rw [if_pos hw];subst hn;have bw:=kn (P:=P) w dT sT o.type hu cL (dCap:=dCap) hz hg hb;unfold Oper.wp;simp [execOp,ho,resolve,invoke,builtin,hd,hs,bw,Result.andThen];exact h
section
variable {w:World} {p sb bm:Nat} {pv:Value} {S:Nat->Prop} {D:DS}
theorem r9(i n:Nat)(b:List Int)(h:bG w p sb bm pv S D)(hi:i<D.secs.length)(hn:n<=32)(hb:D.mem.lookup i=some b) :
  Calls Tryz.prog 79 #[.pointer (some ⟨p,0,none⟩),.int .i64 i,.int .i64 n] w fun e w'=>e=.returned (.tuple #[])/\bG w' p sb bm pv S { D with secs:=D.secs.set i (b.take n++(D.secs.getD i []).drop n)}/\aE S S w w':=by
 have hlen:=h.ok.len;have c0:=h.c0;have c1:=h.c1;have aX:kS b:=(h.ok.mem _ (gw hb)).2;have bX:=h.mem.look (E:=226) zu3 zu131 (qj w) false (i:=i) (by omega);have AG:o7 D.mem i=b:=by unfold o7;rw [hb];rfl
 rw [AG] at bX;simp only [Bool.false_eq_true,if_false] at bX;unfold sv at bX;have cL:(aI b).size=32:=by rw [bJ];exact aX.1
 have jw:=nN w b aX.1;have XC:∀ s∈D.secs,s.length=32:=fun s hs=>(h.ok.sec s hs).1
 have Z6:(b.take n).length=n:=by simp [aX.1];omega
 have dc:i * 32+(b.take n).length<=D.secs.flatten.length:=by rw [Z6,tt _ XC];omega
 have da:iR (w.alloc (.cells (aI b) 226)) w.heap.size 226 b:=heap_alloc_new _ _;have h1:=h.alloc (.cells (aI b) 226);have c0':=h1.c0;have bn:=h1.sec;have zbB:Bs (w.alloc (.cells (aI b) 226)) (some ⟨w.heap.size,0,none⟩) 32 (b.take n):=da.bs aX.2 (by rw [aX.1];decide) 0 n 32 (by rw [aX.1];omega) hn;have H:=af h1;clear h hb AG h1;go_enter Tryz.func79,Tryz.ntmps79
 go_wp2_with fail
 have e0:(i:Int)<(D.secs.length:Int):=by omega
 have e1:(0:Int)<=(i:Int):=by omega
 have e2:(n:Int)<=32:=by omega
 have e3:(0:Int)<=(n:Int):=by omega
 go_region_law (refine E6 rfl (.tmp 20) (.tmp 22) 30 30 rfl zu30 aN sb 226 (i * 32) 32 (some ⟨w.heap.size,0,none⟩) 32 n D.secs.flatten (b.take n) Z6 rfl rfl dc bn zbB ?_)
 go_end0
 have h1:=ae H;have es:=qT D.secs i (b.take n) XC hi (by omega);rw [Z6] at es;refine⟨rfl,?_,?_⟩
 ·rw [es];exact h1.drew.zaH _ (by simp) (fun s hs=>by
   rcases tg hs with h2 | h2
   ·exact h1.ok.sec s h2
   ·rw [h2];exact Ii (eE h1.ok.sec hi) aX n)
 ·exact(aE.alloc S w (.cells (aI b) 226)).trans ((aE.drew S _).trans (aE.row _ _ h1.ins))
theorem j9(h:bG w p sb bm pv S D) :
  Calls Tryz.prog 80 #[.pointer (some ⟨p,0,none⟩)] w fun e w'=>e=.returned (.tuple #[])/\bG w' p sb bm (.slice none 0 0) S { D with mem:=[]}/\aE S S w w':=by
 have c1:=h.c1;obtain⟨w1,bw,hm,ht⟩:=h.mem.clear (E:=226) zu131;have e:w1.heap[p]?=w.heap[p]?:=ht.grown.block p (h.lt p h.zb) (fun e=>h.npm.symm (zOi e));have c2:w1.cell? ⟨p,2,none⟩=some pv:=(World.cell?_of_block (a:=⟨p,2,none⟩) e).trans h.c2;have f2:w1.frozen? ⟨p,2,none⟩=false:=(World.frozen?_of_block (a:=⟨p,2,none⟩) e).trans (h.fr 2);have H:=af h;have HM:=af hm;have HT:=af ht;clear h hm ht e;go_enter Tryz.func80,Tryz.ntmps80
 go_wp2
 go_end0
 exact⟨rfl,(ae H).forget (ae HM) (ae HT),(aE.map (ae HT) (ae H).Jq).trans (aE.setCell _ _ (ae H).zb)⟩
theorem zD(h:bG w p sb bm pv S D) :
  Calls Tryz.prog 193 #[.pointer (some ⟨p,0,none⟩)] w fun e w'=>e=.returned (aR (if D.left=0 then 9 else 0))/\bG w' p sb bm pv S D.step/\aE S S w w':=by
 have c3:=h.c3;have c4:=h.c4;have f3:=h.fr 3;have f4:=h.fr 4;have hl:=h.ok.left;have H:=af h;clear h;unfold DS.step;by_cases h0:D.left=0
 ·rw [if_pos h0,if_pos h0];rw [h0] at c3;have H0:=af h0;clear h0;go_enter Tryz.func193,Tryz.ntmps193
  go_wp2;go_ret;exact⟨rfl,(ae H).tX true,aE.setCell _ _ (ae H).zb⟩
 ·rw [if_neg h0,if_neg h0];by_cases h1:0<D.left
  ·rw [if_pos h1];go_enter Tryz.func193,Tryz.ntmps193
   go_wp2;go_ret;exact⟨rfl,(ae H).tW _ (by omega),aE.setCell _ _ (ae H).zb⟩
  ·rw [if_neg h1];go_enter Tryz.func193,Tryz.ntmps193
   go_wp2;go_ret;exact⟨rfl,ae H,aE.refl _ _⟩
theorem Kc(h:bG w p sb bm pv S D) :
  Calls Tryz.prog 77 #[.pointer (some ⟨p,0,none⟩)] w fun e w'=>e=.returned (.bool D.down)/\w=w':=by
 have c4:=h.c4;clear h;go_enter Tryz.func77,Tryz.ntmps77
 go_wp2;go_ret;exact⟨rfl,rfl⟩
def hasB(n:Nat)(i:Int):Bool:=decide (0<=i/\i<n)
theorem ve(i:Int)(h:bG w p sb bm pv S D) :
  Calls Tryz.prog 191 #[.pointer (some ⟨p,0,none⟩),.int .i64 i] w fun e w'=>e=.returned (.bool (hasB D.secs.length i))/\w=w':=by
 have c0:=h.c0;have hlen:=h.ok.len;clear h;unfold hasB;by_cases h0:0<=i
 ·by_cases h1:i<D.secs.length
  ·rw [decide_eq_true ⟨h0,h1⟩];go_enter Tryz.func191,Tryz.ntmps191
   go_wp2;go_ret;exact⟨rfl,rfl⟩
  ·rw [decide_eq_false (fun h=>h1 h.2)];go_enter Tryz.func191,Tryz.ntmps191
   go_wp2;go_ret;exact⟨rfl,rfl⟩
 ·rw [decide_eq_false (fun h=>h0 h.1)];go_enter Tryz.func191,Tryz.ntmps191
  go_wp2;go_ret;exact⟨rfl,rfl⟩
end
theorem uD:(Tryz.prog.info? 3).map (fun i=>(i.zero,i.size,i.bytes))=some (some (.int .i64 0),1,8):=by kernel_rfl
theorem tZ(w:World)(l:List Int)(t:TypeId):iR (w.alloc (.cells (aI l) t)) w.heap.size t l:=heap_alloc_new _ _
theorem z32:(#[.int .u8 0,.int .u8 0,.int .u8 0,.int .u8 0,.int .u8 0,.int .u8 0,.int .u8 0,.int .u8 0,.int .u8 0,.int .u8 0,.int .u8 0,.int .u8 0,.int .u8 0,.int .u8 0,.int .u8 0,.int .u8 0,.int .u8 0,.int .u8 0,.int .u8 0,.int .u8 0,.int .u8 0,.int .u8 0,.int .u8 0,.int .u8 0,.int .u8 0,.int .u8 0,.int .u8 0,.int .u8 0,.int .u8 0,.int .u8 0,.int .u8 0,.int .u8 0]:Array Value)=aI (ag 32):=rfl
theorem size_alloc(w:World)(o:Obj):(w.alloc o).heap.size=w.heap.size+1:=by simp
theorem Kg(w:World)(a:Option Addr)(cap:Nat)(l:List Int)(hl:l.length=32)(hb:Bs (w.alloc (.cells #[.int .u8 0,.int .u8 0,.int .u8 0,.int .u8 0,.int .u8 0,.int .u8 0,.int .u8 0,.int .u8 0,.int .u8 0,.int .u8 0,.int .u8 0,.int .u8 0,.int .u8 0,.int .u8 0,.int .u8 0,.int .u8 0,.int .u8 0,.int .u8 0,.int .u8 0,.int .u8 0,.int .u8 0,.int .u8 0,.int .u8 0,.int .u8 0,.int .u8 0,.int .u8 0,.int .u8 0,.int .u8 0,.int .u8 0,.int .u8 0,.int .u8 0,.int .u8 0] 226)) a cap l) :
  (Builtin.copy_ #[30,30] 3 #[.slice (some ⟨w.heap.size,0,none⟩) 32 32,.slice a 32 cap]).run Tryz.prog (w.alloc (.cells #[.int .u8 0,.int .u8 0,.int .u8 0,.int .u8 0,.int .u8 0,.int .u8 0,.int .u8 0,.int .u8 0,.int .u8 0,.int .u8 0,.int .u8 0,.int .u8 0,.int .u8 0,.int .u8 0,.int .u8 0,.int .u8 0,.int .u8 0,.int .u8 0,.int .u8 0,.int .u8 0,.int .u8 0,.int .u8 0,.int .u8 0,.int .u8 0,.int .u8 0,.int .u8 0,.int .u8 0,.int .u8 0,.int .u8 0,.int .u8 0,.int .u8 0,.int .u8 0] 226))=.ok (.int .i64 32) (w.alloc (.cells (aI l) 226)):=by
 have h:=kn (P:=Tryz.prog) (w.alloc (.cells #[.int .u8 0,.int .u8 0,.int .u8 0,.int .u8 0,.int .u8 0,.int .u8 0,.int .u8 0,.int .u8 0,.int .u8 0,.int .u8 0,.int .u8 0,.int .u8 0,.int .u8 0,.int .u8 0,.int .u8 0,.int .u8 0,.int .u8 0,.int .u8 0,.int .u8 0,.int .u8 0,.int .u8 0,.int .u8 0,.int .u8 0,.int .u8 0,.int .u8 0,.int .u8 0,.int .u8 0,.int .u8 0,.int .u8 0,.int .u8 0,.int .u8 0,.int .u8 0] 226)) 30 30 3 zu30 aN (dCap:=32) (g:=w.heap.size) (t:=226) (off:=0) (z:=ag 32) (l:=l) (by rw [hl,aj];decide) (tZ w (ag 32) _) hb;rw [hl] at h;rw [h,H6 _ _ (by rw [hl,aj])];unfold ei;rw [World.setRow_alloc_new];rfl
theorem zS(w:World)(l:List Int):(w.alloc (.cells (aI l) 226)).rangeAt w.heap.size 0 (l.map (Value.int .u8)):=by intro j v hv;rw [Nat.zero_add,cell_of_row _ _ j _ _ (0,0) (heap_alloc_new w _)];simpa [aI] using hv
theorem sJ(w:World)(o:Obj)(x:Value)(t:TypeId):∀ j u,([x]:List Value)[j]?=some u->((w.alloc o).alloc (.cells #[x] t)).cell? (Addr.add ⟨w.heap.size+1,0,none⟩ j)=some u:=by
 intro j u hj;cases j with
 | zero =>simp at hj;subst hj;rw [addr_add,cell_of_row _ _ _ _ _ (0,0) (heap_alloc2_new w o _)];simp
 | succ j=>simp at hj
theorem FJ(x:Int):∀ u∈([.int .i64 x]:List Value),u.oneCell'=true:=by intro u hu;simp at hu;subst hu;rfl
section
variable {w:World} {p sb bm:Nat} {pv:Value} {S:Nat->Prop} {D:DS}
theorem Fw(i:Nat)(a:Option Addr)(cap:Nat)(l:List Int)(h:bG w p sb bm pv S D)(hi:i<D.secs.length)(hb:Bs w a cap l)(hl:l.length=32)(hn:∀ x,a=some x->¬ S x.block)(c:List Int)(hc:D.mem.lookup i=some c) :
  Calls Tryz.prog 192 #[.pointer (some ⟨p,0,none⟩),.int .i64 i,.slice a 32 cap] w fun e w'=>e=.returned (.tuple #[])/\(∃ pv' S',bG w' p sb bm pv' S' (D.put i l)/\aE S S' w w'):=by
 have hlen:=h.ok.len;have c1:=h.c1;have jS:kS c:=(h.ok.mem _ (gw hc)).2;have bX:=h.mem.look (E:=226) zu3 zu131 (qj w) true (i:=i) (by omega);have AG:o7 D.mem i=c:=by unfold o7;rw [hc];rfl
 rw [AG,hc] at bX;simp only [if_true,Option.isSome_some] at bX;unfold sv at bX;have cL:(aI c).size=32:=by rw [bJ];exact jS.1
 have jw:=nN w c jS.1;have nj:=Kg (w.alloc (.cells (aI c) 226)) a cap l hl (hb.dZ ((aE.alloc S _ _).trans (aE.alloc S _ _)) hn);rw [size_alloc] at nj;have iu:aE S S w ((w.alloc (.cells (aI c) 226)).alloc (.cells (aI l) 226)):=(aE.alloc S _ _).trans (aE.alloc S _ _);have h2:=(h.alloc (.cells (aI c) 226)).alloc (.cells (aI l) 226);obtain⟨w3,hup,qO,tD⟩:=h2.drew.mem.store (E:=226) zu3 zu131 h.ok.uq (i:=i) (by omega) hl;have zkT:Sem.run Tryz.prog (Instr.mapUpdate 131 (.map (some bm)) (.int .i64 i) (.agg (l.map (Value.int .u8)).toArray)) (World.drew ((w.alloc (.cells (aI c) 226)).alloc (.cells (aI l) 226)))=.ok () w3:=hup;clear hup;have c1':=h2.c1;have PE:((w.alloc (.cells (aI c) 226)).alloc (.cells (aI l) 226)).rangeAt (w.heap.size+1) 0 (l.map (Value.int .u8)):=by have:=zS (w.alloc (.cells (aI c) 226)) l;rwa [size_alloc] at this
 have hu:=Tryz.underlying226;have eQ:(Tryz.prog.info? 226).map (·.size)=some (l.map (Value.int .u8)).length:=by rw [zLm,hl];exact qu
 have SM:(l.map (Value.int .u8)).length=32:=by rw [zLm,hl]
 have hon:=dE l;have c13:w3.cell? ⟨p,1,none⟩=some (.map (some bm)):=(World.cell?_of_block (a:=⟨p,1,none⟩) (tD.grown.block p (h2.drew.lt _ h2.zb) (fun e=>h2.npm.symm (zOi e)))).trans c1';have rg3:w3.rangeAt (w.heap.size+1) 0 (l.map (Value.int .u8)):=fun j v hv=>(World.cell?_of_block (a:=⟨w.heap.size+1,0+j,none⟩) (tD.grown.block (w.heap.size+1) (by simp) (fun e=>by have:=h.lt bm h.Jq;have:=zOi e;omega))).trans (PE j v hv)
 have H:=af h2;have HT:=af iu;have HC:=af hc;have HM:=af qO;have HU:=af tD;clear h hc AG h2 iu qO tD;go_enter Tryz.func192,Tryz.ntmps192
 go_wp2_with fail
 go_region_held3 (fun w'=>w'.cell? ⟨p,1,none⟩=some (.map (some bm))/\w'.rangeAt (w.heap.size+1) 0 (l.map (Value.int .u8))) (first | go_keep_ranges | exact⟨c13,rg3⟩) (fail)
 go_end0
 have h2:=ae H;refine⟨rfl,pv,S,?_,(ae HT).trans ((aE.drew S _).trans (aE.map (ae HU) h2.Jq))⟩;exact h2.drew.zaN (by rw [ae HC];rfl) hi ⟨hl,hb.1⟩ (ae HM) (ae HU)
theorem Fx(i:Nat)(a:Option Addr)(cap:Nat)(l:List Int)(h:bG w p sb bm pv S D)(hi:i<D.secs.length)(hb:Bs w a cap l)(hl:l.length=32)(hn:∀ x,a=some x->¬ S x.block)(hc:D.mem.lookup i=none) :
  Calls Tryz.prog 192 #[.pointer (some ⟨p,0,none⟩),.int .i64 i,.slice a 32 cap] w fun e w'=>e=.returned (.tuple #[])/\(∃ pv' S',bG w' p sb bm pv' S' (D.put i l)/\aE S S' w w'):=by
 have hlen:=h.ok.len;have tH:=h.ok.uq;have c1:=h.c1;have bX:=h.mem.look (E:=226) zu3 zu131 (qj w) true (i:=i) (by omega);have AG:o7 D.mem i=ag 32:=by unfold o7;rw [hc];rfl
 rw [AG,hc] at bX;simp only [if_true,Option.isSome_none] at bX;unfold sv at bX;generalize hzz:ag 32=zz at bX;have tj:zz.length=32:=by rw [<- hzz];exact aj 32
 have cL:(aI zz).size=32:=by rw [bJ];exact tj
 have jw:=nN w zz tj;clear hzz tj;have h1:=(h.alloc (.cells (aI zz) 226));have c2:=h1.c2;obtain⟨i0,eP,cY,dw,dz⟩:=info_parts uD;have cz:=(h1.alloc (.cells #[.int .i64 (i:Int)] 3)).pen;have GL:aE S S w ((w.alloc (.cells (aI zz) 226)).alloc (.cells #[.int .i64 (i:Int)] 3)):=(aE.alloc S _ _).trans (aE.alloc S _ _);have H:=af h;have HT:=af GL;have HC:=af hc;have HO:=af cz;clear h hc AG h1 GL cz;go_enter Tryz.func192,Tryz.ntmps192
 go_wp2_with (at_builtin;refine wpList_append_own_at _ rfl _ _ 44 rfl 0 3 i0 (.int .i64 0) 1 8 zu44 eP cY dw dz rfl (by decide) _ _ _ rfl (ae HO) ⟨w.heap.size+1,0,none⟩ 1 1 [.int .i64 (i:Int)] rfl rfl (sJ _ _ _ _) (FJ _) (by unfold maxLen;omega) (by omega) (by omega) ?_)
 intro v0 w2 gC AL pw JL;obtain⟨vg,vc,rfl⟩:∃ vg vc,v0=.slice (some ⟨vg,0,none⟩) (D.mem.length+1) vc:=by
  rcases gC.2 with ⟨_,h0⟩ | ⟨g,vc,cur,h0,_⟩
  ·omega
  ·exact⟨g,vc,h0⟩
 have h:=ae H;have iu:aE S S w w2:=(ae HT).trans (aE.grown AL (fun k hk=>h.inv k hk));have GO:w2.heap[p]?=some (.cells (df sb D.secs.length bm pv D.left D.down) 133 (0,0)):=by rw [AL.block p (by have:=h.lt p h.zb;simp;omega) (fun e=>h.ZX e.symm)];exact((h.alloc _).alloc _).str
 have gM:w2.heap[sb]?=w.heap[sb]?:=by rw [AL.block sb (by have:=h.lt sb h.ins;simp;omega) (fun e=>h.nvs e.symm)];exact(heap_alloc_old _ _ (by have:=h.lt sb h.ins;simp;omega)).trans (heap_alloc_old _ _ (h.lt sb h.ins))
 have iP:w2.heap[bm]?=w.heap[bm]?:=by rw [AL.block bm (by have:=h.lt bm h.Jq;simp;omega) (fun e=>h.nvm e.symm)];exact(heap_alloc_old _ _ (by have:=h.lt bm h.Jq;simp;omega)).trans (heap_alloc_old _ _ (h.lt bm h.Jq))
 have hvp:(Value.slice (some ⟨vg,0,none⟩) (D.mem.length+1) vc).ownBlock≠some p:=by
  intro e;rcases JL with h1 | h1
  ·exact h.ZX (by rw [<- h1];exact e)
  ·rw [h1] at e;have:=zOi e;have:=h.lt p h.zb;omega
 have hvm:(Value.slice (some ⟨vg,0,none⟩) (D.mem.length+1) vc).ownBlock≠some bm:=by
  intro e;rcases JL with h1 | h1
  ·exact h.nvm (by rw [<- h1];exact e)
  ·rw [h1] at e;have:=zOi e;have:=h.lt bm h.Jq;omega
 have BP:(Value.slice (some ⟨vg,0,none⟩) (D.mem.length+1) vc).ownBlock=pv.ownBlock\/∃ g,(Value.slice (some ⟨vg,0,none⟩) (D.mem.length+1) vc).ownBlock=some g/\w.heap.size<=g:=by
  rcases JL with h1 | h1
  ·exact .inl h1
  ·exact .inr ⟨_,h1,by omega⟩
 have c22:w2.cell? ⟨p,2,none⟩=some pv:=by rw [cell_of_row _ _ _ _ _ _ GO];simp [df]
 have f22:w2.frozen? ⟨p,2,none⟩=false:=frozen_of_row _ _ _ _ _ GO;have W8:(w2.setCell ⟨p,2,none⟩ (.slice (some ⟨vg,0,none⟩) (D.mem.length+1) vc)).heap.size=w2.heap.size:=by simp
 have hp3:(w2.setCell ⟨p,2,none⟩ (.slice (some ⟨vg,0,none⟩) (D.mem.length+1) vc)).heap[p]?=some (.cells (df sb D.secs.length bm (.slice (some ⟨vg,0,none⟩) (D.mem.length+1) vc) D.left D.down) 133 (0,0)):=by rw [heap_setCell_same _ _ _ _ _ _ GO];simp [df]
 have oq:(w2.setCell ⟨p,2,none⟩ (.slice (some ⟨vg,0,none⟩) (D.mem.length+1) vc)).heap[sb]?=w.heap[sb]?:=(heap_setCell_other _ _ _ _ h.Um.symm).trans gM;have qO:(w2.setCell ⟨p,2,none⟩ (.slice (some ⟨vg,0,none⟩) (D.mem.length+1) vc)).heap[bm]?=w.heap[bm]?:=(heap_setCell_other _ _ _ _ h.npm).trans iP;have uL:(w2.setCell ⟨p,2,none⟩ (.slice (some ⟨vg,0,none⟩) (D.mem.length+1) vc)).ownsRow 0 3 1 (.slice (some ⟨vg,0,none⟩) (D.mem.length+1) vc) (D.mem.length+1) (eu D.mem++[.int .i64 (i:Int)]) :=ed gC (fun g hg=>heap_setCell_other _ _ _ _ (fun e=>hvp (by rw [hg,e])));have tD:aE S S w (w2.setCell ⟨p,2,none⟩ (.slice (some ⟨vg,0,none⟩) (D.mem.length+1) vc)):=iu.trans (aE.setCell _ _ h.zb);have hzw:w.heap.size<=w2.heap.size:=iu.size;have hlp:=h.lt p h.zb;have hls:=h.lt sb h.ins;have K3:=h.lt bm h.Jq;have nj:=Kg (w2.setCell ⟨p,2,none⟩ (.slice (some ⟨vg,0,none⟩) (D.mem.length+1) vc)) a cap l hl ((hb.dZ tD hn).below (zBr.alloc zNr _));have ht4:aE S S w ((w2.setCell ⟨p,2,none⟩ (.slice (some ⟨vg,0,none⟩) (D.mem.length+1) vc)).alloc (.cells (aI l) 226)):=tD.trans (aE.alloc S _ _);have zcV:im Tryz.prog 3 (World.drew ((w2.setCell ⟨p,2,none⟩ (.slice (some ⟨vg,0,none⟩) (D.mem.length+1) vc)).alloc (.cells (aI l) 226))) bm D.mem:=h.mem.same ((heap_alloc_old _ _ (by rw [W8];omega)).trans qO);obtain⟨w5,hup,Z4,xV⟩:=zcV.store (E:=226) zu3 zu131 tH (i:=i) (by omega) hl;have zkT:Sem.run Tryz.prog (Instr.mapUpdate 131 (.map (some bm)) (.int .i64 i) (.agg (l.map (Value.int .u8)).toArray)) (World.drew ((w2.setCell ⟨p,2,none⟩ (.slice (some ⟨vg,0,none⟩) (D.mem.length+1) vc)).alloc (.cells (aI l) 226)))=.ok () w5:=hup;have hp4:((w2.setCell ⟨p,2,none⟩ (.slice (some ⟨vg,0,none⟩) (D.mem.length+1) vc)).alloc (.cells (aI l) 226)).heap[p]?=some (.cells (df sb D.secs.length bm (.slice (some ⟨vg,0,none⟩) (D.mem.length+1) vc) D.left D.down) 133 (0,0)):=(heap_alloc_old _ _ (by rw [W8];omega)).trans hp3;have c14:((w2.setCell ⟨p,2,none⟩ (.slice (some ⟨vg,0,none⟩) (D.mem.length+1) vc)).alloc (.cells (aI l) 226)).cell? ⟨p,1,none⟩=some (.map (some bm)):=by rw [cell_of_row _ _ _ _ _ _ hp4];simp [df]
 have PE:=zS (w2.setCell ⟨p,2,none⟩ (.slice (some ⟨vg,0,none⟩) (D.mem.length+1) vc)) l;have hp5:w5.heap[p]?=some (.cells (df sb D.secs.length bm (.slice (some ⟨vg,0,none⟩) (D.mem.length+1) vc) D.left D.down) 133 (0,0)) :=(xV.grown.block p (by show p<(World.alloc _ _).heap.size;rw [size_alloc,W8];omega) (fun e=>h.npm.symm (zOi e))).trans hp4;have c15:w5.cell? ⟨p,1,none⟩=some (.map (some bm)):=by rw [cell_of_row _ _ _ _ _ _ hp5];simp [df]
 have gJ:w5.heap[(w2.setCell ⟨p,2,none⟩ (.slice (some ⟨vg,0,none⟩) (D.mem.length+1) vc)).heap.size]?=((w2.setCell ⟨p,2,none⟩ (.slice (some ⟨vg,0,none⟩) (D.mem.length+1) vc)).alloc (.cells (aI l) 226)).heap[(w2.setCell ⟨p,2,none⟩ (.slice (some ⟨vg,0,none⟩) (D.mem.length+1) vc)).heap.size]?:=xV.grown.block _ (by show _<(World.alloc _ _).heap.size;rw [size_alloc];omega) (fun e=>by have:=zOi e;rw [W8] at this;omega);have rg5:w5.rangeAt (w2.setCell ⟨p,2,none⟩ (.slice (some ⟨vg,0,none⟩) (D.mem.length+1) vc)).heap.size 0 (l.map (Value.int .u8)):=fun j v hv=>(World.cell?_of_block (a:=⟨(w2.setCell ⟨p,2,none⟩ (.slice (some ⟨vg,0,none⟩) (D.mem.length+1) vc)).heap.size,0+j,none⟩) gJ).trans (PE j v hv)
 have hs5:w5.heap[sb]?=w.heap[sb]?:=(xV.grown.block sb (by show sb<(World.alloc _ _).heap.size;rw [size_alloc,W8];omega) (fun e=>h.nsm.symm (zOi e))).trans ((heap_alloc_old _ _ (by rw [W8];omega)).trans oq);have ho5:w5.ownsRow 0 3 1 (.slice (some ⟨vg,0,none⟩) (D.mem.length+1) vc) (D.mem.length+1) (eu D.mem++[.int .i64 (i:Int)]) :=ed uL (fun g hg=>by have aM:g<(w2.setCell ⟨p,2,none⟩ (.slice (some ⟨vg,0,none⟩) (D.mem.length+1) vc)).heap.size:=(uL.lt g hg).2;exact(xV.grown.block g (by show g<(World.alloc _ _).heap.size;rw [size_alloc];omega) (fun e=>hvm (by rw [hg,e]))).trans (heap_alloc_old _ _ aM));have ht6:aE S S w w5:=ht4.trans ((aE.drew S _).trans (aE.map xV h.Jq));have uQ:=h.zaO (ae HC) hi ⟨hl,hb.1⟩ hp5 hs5 Z4 ho5 ht6.size BP;have HF:=af uQ;have HT6:=af ht6;rw [W8] at nj PE rg5;have hu:=Tryz.underlying226;have eQ:(Tryz.prog.info? 226).map (·.size)=some (l.map (Value.int .u8)).length:=by rw [zLm,hl];exact qu
 have SM:(l.map (Value.int .u8)).length=32:=by rw [zLm,hl]
 have hon:=dE l;clear h iu GO gM iP hvp hvm BP hp3 oq qO uL tD ht4 zcV hup Z4 xV hp4 hp5 hs5 gJ ho5 ht6 uQ gC AL pw JL bX jw cL c1 c2 H HT HO HC eP cY dw dz;go_wp2_with fail
 go_region_held3 (fun w'=>w'.cell? ⟨p,1,none⟩=some (.map (some bm))/\w'.rangeAt w2.heap.size 0 (l.map (Value.int .u8))) (first | go_keep_ranges | exact⟨c15,rg5⟩) (fail)
 go_end0
 exact⟨rfl,(Value.slice (some ⟨vg,0,none⟩) (D.mem.length+1) vc),_,(ae HF).1,(ae HT6).os,(ae HT6).tape,(ae HT6).output,(ae HT6).size,(ae HT6).block,(ae HF).2⟩
end
section
variable {w:World} {p:Nat} {S:Nat->Prop} {D:DS}
theorem Fy{sb bm:Nat}{pv:Value}(i:Nat)(a:Option Addr)(cap:Nat)(l:List Int)(h:bG w p sb bm pv S D)(hi:i<D.secs.length)(hb:Bs w a cap l)(hl:l.length=32)(hn:∀ x,a=some x->¬ S x.block) :
  Calls Tryz.prog 192 #[.pointer (some ⟨p,0,none⟩),.int .i64 i,.slice a 32 cap] w fun e w'=>e=.returned (.tuple #[])/\(∃ pv' S',bG w' p sb bm pv' S' (D.put i l)/\aE S S' w w'):=by
 cases hc:D.mem.lookup i with
 | none=>exact Fx i a cap l h hi hb hl hn hc
 | some c=>exact Fw i a cap l h hi hb hl hn c hc
theorem QE(i:Int)(a:Option Addr)(cap:Nat)(l:List Int)(h:pT w p S D)(hb:Bs w a cap l)(hn:l≠[]->∀ x,a=some x->¬ S x.block) :
  Calls Tryz.prog 134 #[.pointer (some ⟨p,0,none⟩),.int .i64 i,.slice a l.length cap] w fun e w'=>e=.returned (aR (D.cX i l))/\(∃ S',pT w' p S' (D.write i l)/\aE S S' w w'):=by
 obtain⟨sb,bm,pv,h⟩:=h;have hlen:=hb.2.2.1;have c4:=h.c4;have gx:=ve i h;unfold DS.cX DS.write;by_cases h1:i<0\/(D.secs.length:Int)<=i
 ·rw [if_pos h1,if_pos (by rcases h1 with h1 | h1;exact .inl h1;exact .inr (.inl h1))];have hf:hasB D.secs.length i=false:=decide_eq_false (by omega);rw [hf] at gx;have H:=af h;have HH:=af gx;clear h gx h1 hf c4;go_enter Tryz.func134,Tryz.ntmps134
  go_wp2_with fail
  refine(ae HH).mono ?_;rintro e w1 ⟨rfl,rfl⟩;go_wp2;go_ret;exact⟨rfl,S,⟨sb,bm,pv,ae H⟩,aE.refl _ _⟩
 ·rw [if_neg h1];have hf:hasB D.secs.length i=true:=decide_eq_true (by omega);rw [hf] at gx;obtain⟨k,rfl⟩:∃ k:Nat,i=k:=⟨i.toNat,by omega⟩;have hk:k<D.secs.length:=by omega
  have HH:=af gx;by_cases h2:l.length≠32
  ·rw [if_pos h2,if_pos (.inr (.inr (.inl h2)))];have kL:¬ (l.length:Int)=32:=by omega
   have H:=af h;clear h gx h1 hf c4 h2;go_enter Tryz.func134,Tryz.ntmps134
   go_wp2_with fail
   refine(ae HH).mono ?_;rintro e w1 ⟨rfl,rfl⟩;go_wp2;go_ret;exact⟨rfl,S,⟨sb,bm,pv,ae H⟩,aE.refl _ _⟩
  ·rw [if_neg h2];have kL:l.length=32:=Classical.byContradiction h2;by_cases h3:D.down=true
   ·rw [if_pos h3,if_pos (.inr (.inr (.inr h3)))];rw [h3] at c4;have H:=af h;rw [kL];clear h gx h1 hf h2 hb hlen;go_enter Tryz.func134,Tryz.ntmps134
    go_wp2_with fail
    refine(ae HH).mono ?_;rintro e w1 ⟨rfl,rfl⟩;go_wp2;go_ret;exact⟨rfl,S,⟨sb,bm,pv,ae H⟩,aE.refl _ _⟩
   ·have Us:D.down=false:=by simpa using h3
    have zc0:¬ ((k:Int)<0\/(D.secs.length:Int)<=(k:Int)\/l.length≠32\/D.down=true):=by
     rintro (h4 | h4 | h4 | h4)
     ·omega
     ·omega
     ·exact h4 kL
     ·exact h3 h4
    rw [if_neg h3,if_neg zc0];rw [Us] at c4;have hr:=Fy k a cap l h hk hb kL (hn (by intro e;rw [e] at kL;cases kL));have HR:=af hr;obtain⟨E,hE⟩:∃ E:Int,(if D.left=0 then (9:Int) else 0)=E:=⟨_,rfl⟩;have jw:∀ w1 pv' S',bG w1 p sb bm pv' S' (D.put k l)->Calls Tryz.prog 193 #[.pointer (some ⟨p,0,none⟩)] w1 fun e w'=>e=.returned (aR E)/\bG w' p sb bm pv' S' (D.put k l).step/\aE S' S' w1 w':=by intro w1 pv' S' h';rw [<- hE];exact zD h'
    have qh:=af jw;clear jw;rw [hE];clear hE;rw [kL];clear h gx h1 hf h2 h3 hr hb hlen zc0;go_enter Tryz.func134,Tryz.ntmps134
    go_wp2_with fail
    refine(ae HH).mono ?_;rintro e w1 ⟨rfl,rfl⟩;go_wp2_with fail
    refine(ae HR).mono ?_;rintro e w1 ⟨rfl,pv',S',h',ht⟩;go_wp2_with fail
    refine(ae qh w1 pv' S' h').mono ?_;rintro e w2 ⟨rfl,h'',ht'⟩;go_wp2;go_ret;exact⟨rfl,S',⟨sb,bm,pv',h''⟩,ht.trans ht'⟩
theorem so{s b:List Int}(hs:kS s)(hb:kS b):b.take 32++s.drop 32=b:=by rw [List.take_of_length_le (by rw [hb.1];exact zNr),List.drop_eq_nil_of_le (by rw [hs.1];exact zNr),List.append_nil]
theorem Yo{sb bm:Nat}{pv:Value}(h:bG w p sb bm pv S D)(h1:D.down=false)(h2:¬ D.left=0) :
  Calls Tryz.prog 135 #[.pointer (some ⟨p,0,none⟩)] w fun e w'=>e=.returned .nilIface/\(∃ S',pT w' p S' D.step.flush/\aE S S' w w'):=by
 have c4:=h.c4;rw [h1] at c4;have jw:=zD h;rw [if_neg h2] at jw;have HS:=af jw;have dy:=h.ok;clear h jw;go_enter Tryz.func135,Tryz.ntmps135
 go_wp2_with fail
 refine(ae HS).mono ?_;rintro e w1 ⟨rfl,h',ht⟩;rw [aA];clear HS c4;have c2:=h'.c2;have H:=af h';have HT:=af ht;have tH:=h'.ok.uq;rcases h'.ud with ⟨rfl,Z5⟩ | ⟨g,cap,rfl,py,XR,bk⟩
 ·clear h' ht;have pN:D.step.flush={ D.step with mem:=[]}:=by unfold DS.flush;rw [Z5];rfl
  go_wp2_with fail
  go_loop [21] (fun v=>v=.int .i64 0) (fun _=>0)
  case atStart=>rfl
  case round =>
   subst hrel;go_wp2_with fail
   refine(j9 (ae H)).mono ?_;rintro e w2 ⟨rfl,kL,iu⟩;go_wp2;go_ret;exact⟨rfl,S,⟨sb,bm,_,by rw [pN];exact kL⟩,(ae HT).trans iu⟩
 ·clear h' ht bk;unfold maxLen at XR;go_wp2_with fail
  go_loopw [21] (fun v wr=>∃ k:Nat,k<=D.step.mem.length/\v=.int .i64 k/\bG wr p sb bm (.slice (some ⟨g,0,none⟩) D.step.mem.length cap) S { D.step with secs:=flushK D.step.secs D.step.mem k }/\aE S S w wr) (fun v _=>D.step.mem.length-(intOf v).toNat)
  case atStart=>exact⟨0,Nat.zero_le _,rfl,ae H,ae HT⟩
  case round =>
   obtain⟨k,hk,rfl,hd,DQ⟩:=hrel;by_cases aM:k<D.step.mem.length
   ·obtain⟨ky,bd,PM⟩:∃ ky bd,D.step.mem.getD k (0,[])=(ky,bd):=⟨_,_,rfl⟩;have Xt:=hd.vU k aM;have uK:D.step.mem.getD k (0,[])∈D.step.mem:=kG aM;have lP:=wo hd.ok.apart aM;have gZ:flushK D.step.secs D.step.mem (k+1)=(flushK D.step.secs D.step.mem k).set (D.step.mem.getD k (0,[])).1 (D.step.mem.getD k (0,[])).2:=rfl;simp only [PM] at Xt uK lP gZ;have hq:=hd.ok.mem _ uK;have AO:=r9 ky 32 bd hd hq.1 zNr lP;have zhN:flushK D.step.secs D.step.mem (k+1)=(flushK D.step.secs D.step.mem k).set ky (bd.take 32++((flushK D.step.secs D.step.mem k).getD ky []).drop 32):=by rw [so (eE hd.ok.sec hq.1) hq.2];exact gZ
    have HB:=af AO;have HS:=af zhN;have T6:=af DQ;clear AO zhN gZ DQ hd uK lP hq PM H HT dy;go_wp2_with fail
    refine(ae HB).mono ?_;rintro e w2 ⟨rfl,hd2,iu⟩;go_wp2;go_roundw
    case rel=>exact⟨k+1,by omega,by go_num,by rw [ae HS];exact hd2,(ae T6).trans iu⟩
    case measure=>simp [intOf];omega
   ·obtain rfl:k=D.step.mem.length:=by omega
    clear H HT dy;go_wp2_with fail
    refine(j9 hd).mono ?_;rintro e w2 ⟨rfl,kL,iu⟩;go_wp2;go_ret;exact⟨rfl,S,⟨sb,bm,_,kL⟩,DQ.trans iu⟩
theorem Tq(h:pT w p S D) :
  Calls Tryz.prog 135 #[.pointer (some ⟨p,0,none⟩)] w fun e w'=>e=.returned (aR D.dP)/\(∃ S',pT w' p S' D.bI/\aE S S' w w'):=by
 obtain⟨sb,bm,pv,h⟩:=h;unfold DS.dP DS.bI;by_cases h1:D.down=true
 ·rw [if_pos h1,if_pos h1];have c4:=h.c4;rw [h1] at c4;have H:=af h;clear h;go_enter Tryz.func135,Tryz.ntmps135
  go_wp2;go_ret;exact⟨rfl,S,⟨sb,bm,pv,ae H⟩,aE.refl _ _⟩
 ·rw [if_neg h1,if_neg h1];have vD:D.down=false:=by simpa using h1
  by_cases h2:D.left=0
  ·rw [if_pos h2,if_pos h2];have c4:=h.c4;rw [vD] at c4;have jw:=zD h;rw [if_pos h2] at jw;have he:D.step={ D with down:=true }:=by unfold DS.step;rw [if_pos h2]
   rw [he] at jw;have HS:=af jw;clear h jw he h1 h2;go_enter Tryz.func135,Tryz.ntmps135
   go_wp2_with fail
   refine(ae HS).mono ?_;rintro e w1 ⟨rfl,h',ht⟩;rw [aC 9 (by decide)];go_wp2;go_ret;exact⟨rfl,S,⟨sb,bm,pv,h'⟩,ht⟩
  ·rw [if_neg h2,if_neg h2];exact Yo h vD h2
end
def Bls(w:World)(a:Option Addr)(cap:Nat)(l:List Bool):Prop :=l.length<=cap/\l.length<=140737488351232/\(l≠[]->∃ b off,a=some ⟨b,off,none⟩/\∀ i,i<l.length->w.cell? ⟨b,off+i,none⟩=some (.bool (l.getD i false)))
def vf(c:Int):Nat:=(min (max c 0) 32).toNat
theorem Qg(c:Int):vf c<=32:=by unfold vf;omega
theorem Qh(c:Int):min (max c 0) 32=(vf c:Int):=by unfold vf;omega
theorem km(l:List (List Int))(i:Nat):l.set i (l.getD i [])=l:=by
 by_cases h:i<l.length
 ·have:l.getD i []=l[i]:=by simp [List.getD,h]
  rw [this];exact List.set_getElem_self h
 ·exact List.set_eq_of_length_le (by omega)
section
variable {w:World} {p:Nat} {S:Nat->Prop} {D:DS}
theorem yi{secs:List (List Int)}{mem:List (Nat×List Int)}(keep:List Bool)(bK:Int)(cut k ky:Nat)(bd:List Int)(h:mem.getD k (0,[])=(ky,bd)) :
  eI secs mem keep bK cut (k+1)=(eI secs mem keep bK cut k).set ky (one keep bK cut k ((eI secs mem keep bK cut k).getD ky []) bd):=by
 show(eI secs mem keep bK cut k).set (mem.getD k (0,[])).1 (one keep bK cut k ((eI secs mem keep bK cut k).getD (mem.getD k (0,[])).1 []) (mem.getD k (0,[])).2)=_
 rw [h]
theorem NQ{sb bm:Nat}{pv:Value}(b off cap:Nat)(keep:List Bool)(bK cut:Int)(h:bG w p sb bm pv S D)(hk:keep.length<=140737488351232)(hc:∀ i,i<keep.length->w.cell? ⟨b,off+i,none⟩=some (.bool (keep.getD i false)))(hn:¬ S b) :
  Calls Tryz.prog 26 #[.pointer (some ⟨p,0,none⟩),.slice (some ⟨b,off,none⟩) keep.length cap,.int .i64 bK,.int .i64 cut] w fun e w'=>e=.returned (.int .i64 D.mem.length)/\(∃ S',pT w' p S' (D.dY keep bK (vf cut))/\aE S S' w w'):=by
 have c2:=h.c2;have tH:=h.ok.uq;have H:=af h;obtain⟨m,hm⟩:∃ m:Int,(if cut<0 then (0:Int) else cut)=m:=⟨_,rfl⟩;have iP:(if 32<m then (32:Int) else m)=(vf cut:Int):=by rw [<- Qh,<- hm];omega
 have zeS:=Qg cut;generalize vf cut=c at *;rcases h.ud with ⟨rfl,Z5⟩ | ⟨g,pc,rfl,py,XR,bk⟩
 ·clear h;have hcr:D.dY keep bK c={ D with mem:=[],down:=false,left:=-1 }:=by unfold DS.dY;rw [Z5];rfl
  have tl:D.mem.length=0:=by rw [Z5];rfl
  have UA:=af hcr;have HL0:=af tl;clear hcr tl Z5;go_enter Tryz.func26,Tryz.ntmps26
  go_wp2_with fail
  go_loop [20] (fun v=>v=.int .i64 0) (fun _=>0)
  case atStart=>rfl
  case round =>
   subst hrel;go_wp2_with fail
   refine(j9 (ae H)).mono ?_;rintro e w2 ⟨rfl,h2,iu⟩;have c4:=h2.c4;have f4:=h2.fr 4;have h3:=h2.tX false;have c3:=h3.c3;have f3:=h3.fr 3;have h4:=h3.tW (-1) (by decide);have H4:=af h4;have HI:=af h2.zb;clear h2 h3 h4 H;go_wp2;go_ret;exact⟨by rw [ae HL0];rfl,S,⟨sb,bm,_,by rw [ae UA];exact ae H4⟩,iu.trans ((aE.setCell _ _ (ae HI)).trans (aE.setCell _ _ (ae HI)))⟩
 ·clear h bk;unfold maxLen at XR;have Z6:0<keep.length->b<w.heap.size:=fun h0=>block_lt_of_cell (hc 0 h0)
  go_enter Tryz.func26,Tryz.ntmps26
  go_wp2_with fail
  go_loopw [20] (fun v wr=>∃ k:Nat,k<=D.mem.length/\v=.int .i64 k/\bG wr p sb bm (.slice (some ⟨g,0,none⟩) D.mem.length pc) S { D with secs:=eI D.secs D.mem keep bK c k }/\aE S S w wr) (fun v _=>D.mem.length-(intOf v).toNat)
  case atStart=>exact⟨0,Nat.zero_le _,rfl,ae H,aE.refl _ _⟩
  case round =>
   obtain⟨k,BR,rfl,hd,DQ⟩:=hrel;clear hm iP c2;by_cases aM:k<D.mem.length
   ·obtain⟨ky,bd,PM⟩:∃ ky bd,D.mem.getD k (0,[])=(ky,bd):=⟨_,_,rfl⟩;have Xt:=hd.vU k aM;have uK:D.mem.getD k (0,[])∈D.mem:=kG aM;have lP:=wo hd.ok.apart aM;have gZ:=yi (secs:=D.secs) keep bK c k ky bd PM;simp only [PM] at Xt uK lP;have hq:=hd.ok.mem _ uK;by_cases h1:(k:Int)=bK
    ·have jx:∀ s,one keep bK c k s bd=bd.take c++s.drop c:=fun s=>by unfold one;rw [if_pos h1];rfl
     rw [jx] at gZ;have AO:=r9 ky c bd hd hq.1 zeS lP;have HB:=af AO;have HS:=af gZ;have T6:=af DQ;clear AO gZ DQ hd uK lP hq PM H jx hc;subst h1;go_wp2_with fail
     refine(ae HB).mono ?_;rintro e w2 ⟨rfl,hd2,iu⟩;go_wp2;go_roundw
     case rel=>exact⟨k+1,by omega,by go_num,by rw [ae HS];exact hd2,(ae T6).trans iu⟩
     case measure=>simp [intOf];omega
    ·by_cases h2:k<keep.length
     ·have hkc:wr.cell? ⟨b,off+k,none⟩=some (.bool (keep.getD k false)):=(World.cell?_of_block (a:=⟨b,off+k,none⟩) (DQ.block b (Z6 (by omega)) hn)).trans (hc k h2);have kL:(k:Int)<(keep.length:Int):=by omega
      by_cases h3:keep.getD k false=true
      ·have jx:∀ s,one keep bK c k s bd=bd:=fun s=>by unfold one;rw [if_neg h1,if_pos h3]
       rw [jx] at gZ;rw [h3] at hkc;have AO:=r9 ky 32 bd hd hq.1 zNr lP;rw [so (eE hd.ok.sec hq.1) hq.2] at AO;have HB:=af AO;have HS:=af gZ;have T6:=af DQ;clear AO gZ DQ hd uK lP hq PM H jx hc h3;go_wp2_with fail
       refine(ae HB).mono ?_;rintro e w2 ⟨rfl,hd2,iu⟩;go_wp2;go_roundw
       case rel=>exact⟨k+1,by omega,by go_num,by rw [ae HS];exact hd2,(ae T6).trans iu⟩
       case measure=>simp [intOf];omega
      ·have Us:keep.getD k false=false:=by simpa using h3
       have jx:∀ s,one keep bK c k s bd=s:=fun s=>by unfold one;rw [if_neg h1,if_neg h3]
       rw [jx,km] at gZ;rw [Us] at hkc;have HS:=af gZ;have T6:=af DQ;have HD:=af hd;clear gZ DQ hd uK lP hq PM H jx hc h3 Us;go_wp2;go_roundw
       case rel=>exact⟨k+1,by omega,by go_num,by rw [ae HS];exact ae HD,ae T6⟩
       case measure=>simp [intOf];omega
     ·have Us:keep.getD k false=false:=by simp [List.getD,List.getElem?_eq_none (by omega:keep.length<=k)]
      have kL:¬ (k:Int)<(keep.length:Int):=by omega
      have jx:∀ s,one keep bK c k s bd=s:=fun s=>by unfold one;rw [if_neg h1,if_neg (by rw [Us];exact Bool.false_ne_true)]
      rw [jx,km] at gZ;have HS:=af gZ;have T6:=af DQ;have HD:=af hd;clear gZ DQ hd uK lP hq PM H jx hc Us;go_wp2;go_roundw
      case rel=>exact⟨k+1,by omega,by go_num,by rw [ae HS];exact ae HD,ae T6⟩
      case measure=>simp [intOf];omega
   ·obtain rfl:k=D.mem.length:=by omega
    have c2':=hd.c2;clear H hc;go_wp2_with fail
    refine(j9 hd).mono ?_;rintro e w2 ⟨rfl,h2,iu⟩;have c4:=h2.c4;have f4:=h2.fr 4;have h3:=h2.tX false;have c3:=h3.c3;have f3:=h3.fr 3;have h4:=h3.tW (-1) (by decide);have H4:=af h4;have HI:=af h2.zb;clear h2 h3 h4 hd;go_wp2;go_ret;exact⟨rfl,S,⟨sb,bm,_,ae H4⟩,DQ.trans (iu.trans ((aE.setCell _ _ (ae HI)).trans (aE.setCell _ _ (ae HI))))⟩
theorem TB{sb bm:Nat}{pv:Value}(a:Option Addr)(cap:Nat)(bK cut:Int)(h:bG w p sb bm pv S D) :
  Calls Tryz.prog 26 #[.pointer (some ⟨p,0,none⟩),.slice a 0 cap,.int .i64 bK,.int .i64 cut] w fun e w'=>e=.returned (.int .i64 D.mem.length)/\(∃ S',pT w' p S' (D.dY ([]:List Bool) bK (vf cut))/\aE S S' w w'):=by
 have c2:=h.c2;have tH:=h.ok.uq;have H:=af h;obtain⟨m,hm⟩:∃ m:Int,(if cut<0 then (0:Int) else cut)=m:=⟨_,rfl⟩;have iP:(if 32<m then (32:Int) else m)=(vf cut:Int):=by rw [<- Qh,<- hm];omega
 have zeS:=Qg cut;generalize vf cut=c at *;rcases h.ud with ⟨rfl,Z5⟩ | ⟨g,pc,rfl,py,XR,bk⟩
 ·clear h;have hcr:D.dY ([]:List Bool) bK c={ D with mem:=[],down:=false,left:=-1 }:=by unfold DS.dY;rw [Z5];rfl
  have tl:D.mem.length=0:=by rw [Z5];rfl
  have UA:=af hcr;have HL0:=af tl;clear hcr tl Z5;go_enter Tryz.func26,Tryz.ntmps26
  go_wp2_with fail
  go_loop [20] (fun v=>v=.int .i64 0) (fun _=>0)
  case atStart=>rfl
  case round =>
   subst hrel;go_wp2_with fail
   refine(j9 (ae H)).mono ?_;rintro e w2 ⟨rfl,h2,iu⟩;have c4:=h2.c4;have f4:=h2.fr 4;have h3:=h2.tX false;have c3:=h3.c3;have f3:=h3.fr 3;have h4:=h3.tW (-1) (by decide);have H4:=af h4;have HI:=af h2.zb;clear h2 h3 h4 H;go_wp2;go_ret;exact⟨by rw [ae HL0];rfl,S,⟨sb,bm,_,by rw [ae UA];exact ae H4⟩,iu.trans ((aE.setCell _ _ (ae HI)).trans (aE.setCell _ _ (ae HI)))⟩
 ·clear h bk;unfold maxLen at XR;go_enter Tryz.func26,Tryz.ntmps26
  go_wp2_with fail
  go_loopw [20] (fun v wr=>∃ k:Nat,k<=D.mem.length/\v=.int .i64 k/\bG wr p sb bm (.slice (some ⟨g,0,none⟩) D.mem.length pc) S { D with secs:=eI D.secs D.mem ([]:List Bool) bK c k }/\aE S S w wr) (fun v _=>D.mem.length-(intOf v).toNat)
  case atStart=>exact⟨0,Nat.zero_le _,rfl,ae H,aE.refl _ _⟩
  case round =>
   obtain⟨k,BR,rfl,hd,DQ⟩:=hrel;clear hm iP c2;by_cases aM:k<D.mem.length
   ·obtain⟨ky,bd,PM⟩:∃ ky bd,D.mem.getD k (0,[])=(ky,bd):=⟨_,_,rfl⟩;have Xt:=hd.vU k aM;have uK:D.mem.getD k (0,[])∈D.mem:=kG aM;have lP:=wo hd.ok.apart aM;have gZ:=yi (secs:=D.secs) ([]:List Bool) bK c k ky bd PM;simp only [PM] at Xt uK lP;have hq:=hd.ok.mem _ uK;by_cases h1:(k:Int)=bK
    ·have jx:∀ s,one ([]:List Bool) bK c k s bd=bd.take c++s.drop c:=fun s=>by unfold one;rw [if_pos h1];rfl
     rw [jx] at gZ;have AO:=r9 ky c bd hd hq.1 zeS lP;have HB:=af AO;have HS:=af gZ;have T6:=af DQ;clear AO gZ DQ hd uK lP hq PM H jx;subst h1;go_wp2_with fail
     refine(ae HB).mono ?_;rintro e w2 ⟨rfl,hd2,iu⟩;go_wp2;go_roundw
     case rel=>exact⟨k+1,by omega,by go_num,by rw [ae HS];exact hd2,(ae T6).trans iu⟩
     case measure=>simp [intOf];omega
    ·have Us:([]:List Bool).getD k false=false:=rfl;have kL:¬ (k:Int)<0:=by omega
     have jx:∀ s,one ([]:List Bool) bK c k s bd=s:=fun s=>by unfold one;rw [if_neg h1,if_neg (by rw [Us];exact Bool.false_ne_true)]
     rw [jx,km] at gZ;have HS:=af gZ;have T6:=af DQ;have HD:=af hd;clear gZ DQ hd uK lP hq PM H jx Us;go_wp2;go_roundw
     case rel=>exact⟨k+1,by omega,by go_num,by rw [ae HS];exact ae HD,ae T6⟩
     case measure=>simp [intOf];omega
   ·obtain rfl:k=D.mem.length:=by omega
    have c2':=hd.c2;clear H;go_wp2_with fail
    refine(j9 hd).mono ?_;rintro e w2 ⟨rfl,h2,iu⟩;have c4:=h2.c4;have f4:=h2.fr 4;have h3:=h2.tX false;have c3:=h3.c3;have f3:=h3.fr 3;have h4:=h3.tW (-1) (by decide);have H4:=af h4;have HI:=af h2.zb;clear h2 h3 h4 hd;go_wp2;go_ret;exact⟨rfl,S,⟨sb,bm,_,ae H4⟩,DQ.trans (iu.trans ((aE.setCell _ _ (ae HI)).trans (aE.setCell _ _ (ae HI))))⟩
theorem TC(a:Option Addr)(cap:Nat)(keep:List Bool)(bK cut:Int)(h:pT w p S D)(hb:Bls w a cap keep)(hn:keep≠[]->∀ x,a=some x->¬ S x.block) :
  Calls Tryz.prog 26 #[.pointer (some ⟨p,0,none⟩),.slice a keep.length cap,.int .i64 bK,.int .i64 cut] w fun e w'=>e=.returned (.int .i64 D.mem.length)/\(∃ S',pT w' p S' (D.dY keep bK (vf cut))/\aE S S' w w'):=by
 obtain⟨sb,bm,pv,h⟩:=h;by_cases h0:keep=[]
 ·subst h0;exact TB a cap bK cut h
 ·obtain⟨b,off,rfl,hc⟩:=hb.2.2 h0;exact NQ b off cap keep bK cut h hb.2.1 hc (hn h0 _ rfl)
end
theorem Sk:(Tryz.prog.info? 226).map (fun i=>(i.zero,i.size,i.bytes))=some (some (sv (ag 32)),32,32):=by kernel_rfl
theorem C8{w:World}{g t:Nat}{z:List Int}(off:Nat)(l:List Int)(hl:l.length=32)(h:iR w g t z)(hz:(z.drop off).take 32=l):w.rangeAt g off (l.map (Value.int .u8)):=by
 intro j v hv;have hj:j<32:=by
  rcases Nat.lt_or_ge j 32 with h1 | h1
  ·exact h1
  ·rw [List.getElem?_eq_none (by rw [zLm,hl];exact h1)] at hv;cases hv
 have h3:off+j<z.length:=by
  have:((z.drop off).take 32).length=32:=by rw [hz];exact hl
  simp at this;omega
 have h2:(aI l)[j]?=some v:=by simpa [aI] using hv
 rw [nt l j (by omega)] at h2;rw [h.cell _ h3,<- h2,<- hz];simp [List.getD,hj]
section
variable {w:World} {p:Nat} {S:Nat->Prop} {D:DS}
theorem Ps(h:pT w p S D) :
  Calls Tryz.prog 65 #[.pointer (some ⟨p,0,none⟩)] w fun e w'=>e=.returned (.int .i64 D.secs.length)/\w=w':=by
 obtain⟨sb,bm,pv,h⟩:=h;have c0:=h.c0;have hl:=h.ok.len;clear h;go_enter Tryz.func65,Tryz.ntmps65
 go_wp2;go_ret;exact⟨rfl,rfl⟩
theorem Vt{sb bm:Nat}{pv:Value}(i:Nat)(h:bG w p sb bm pv S D)(hi:i<D.secs.length)(hd:D.down=false)(c:List Int)(hc:D.mem.lookup i=some c) :
  Calls Tryz.prog 207 #[.pointer (some ⟨p,0,none⟩),.int .i64 i] w fun e w'=>∃ g,e=.returned (.tuple #[.slice (some ⟨g,0,none⟩) 32 32,.nilIface])/\w.heap.size<=g/\fH w' g (D.rd i)/\Below w.heap.size w w':=by
 have hlen:=h.ok.len;have c1:=h.c1;have c4:=h.c4;rw [hd] at c4;have gx:=ve (i:Int) h;have hf:hasB D.secs.length i=true:=decide_eq_true (by omega);rw [hf] at gx;have jS:kS c:=(h.ok.mem _ (gw hc)).2;have bX:=h.mem.look (E:=226) zu3 zu131 (qj w) true (i:=i) (by omega);have AG:o7 D.mem i=c:=by unfold o7;rw [hc];rfl
 rw [AG,hc] at bX;simp only [if_true,Option.isSome_some] at bX;unfold sv at bX;have sw:D.rd i=c:=by unfold DS.rd;rw [hc];rfl
 rw [sw];have cL:(aI c).size=32:=by rw [bJ];exact jS.1
 have jw:=nN w c jS.1;have aX:Bs (w.alloc (.cells (aI c) 226)) (some ⟨w.heap.size,0,none⟩) 32 c:=by have:=(tZ w c 226).bs jS.2 (by rw [jS.1];decide) 0 32 32 (by rw [jS.1];decide) zNr;rwa [List.drop_zero,List.take_of_length_le (by rw [jS.1];decide)] at this
 have nj:∀ w1,fH w1 (w.heap.size+1) (ag 32)->Bs w1 (some ⟨w.heap.size,0,none⟩) 32 c->Sem.run Tryz.prog (Builtin.copy_ #[30,30] 3 #[.slice (some ⟨w.heap.size+1,0,none⟩) 32 32,.slice (some ⟨w.heap.size,0,none⟩) 32 32]) w1=.ok (.int .i64 32) (ei w1 (w.heap.size+1) c):=fun w1 h5 h6=>by have:=mS (P:=Tryz.prog) w1 30 30 3 zu30 aN (w.heap.size+1) 32 (some ⟨w.heap.size,0,none⟩) 32 (ag 32) c (by rw [jS.1,aj]) h5 h6;rw [jS.1] at this;exact this
 obtain⟨i0,eP,cY,dw,dz⟩:=info_parts dQ;have HH:=af gx;have HB:=af aX;clear h gx hf hc AG aX sw;go_enter Tryz.func207,Tryz.ntmps207
 go_wp2_with fail
 refine(ae HH).mono ?_;rintro e w1 ⟨rfl,rfl⟩;go_wp2_with (at_make;refine bE rfl _ _ 30 rfl i0 zu30 eP cY dw dz _ _ _ _ 32 rfl rfl rfl rfl (by omega) ?_)
 intro w1 wJ gP ay;have aK:=(ae HB).below (w':=w1) (by rw [size_alloc];exact ay);have gy:Below w.heap.size w w1:=(zBr.alloc zNr (.cells (aI c) 226)).trans (ay.mono (by omega));go_wp2;go_ret2;exact⟨_,rfl,by omega,ix wJ c,dW c gy (by omega)⟩
theorem Vs{sb bm:Nat}{pv:Value}(i:Nat)(h:bG w p sb bm pv S D)(hi:i<D.secs.length)(hd:D.down=false)(hc:D.mem.lookup i=none) :
  Calls Tryz.prog 207 #[.pointer (some ⟨p,0,none⟩),.int .i64 i] w fun e w'=>∃ g,e=.returned (.tuple #[.slice (some ⟨g,0,none⟩) 32 32,.nilIface])/\w.heap.size<=g/\fH w' g (D.rd i)/\Below w.heap.size w w':=by
 have hlen:=h.ok.len;have c1:=h.c1;have c4:=h.c4;rw [hd] at c4;have gx:=ve (i:Int) h;have hf:hasB D.secs.length i=true:=decide_eq_true (by omega);rw [hf] at gx;have bX:=h.mem.look (E:=226) zu3 zu131 (qj w) true (i:=i) (by omega);have AG:o7 D.mem i=ag 32:=by unfold o7;rw [hc];rfl
 rw [AG,hc] at bX;simp only [if_true,Option.isSome_none] at bX;unfold sv at bX;generalize hzz:ag 32=zz at bX;have tj:zz.length=32:=by rw [<- hzz];exact aj 32
 have cL:(aI zz).size=32:=by rw [bJ];exact tj
 have jw:=nN w zz tj;have sw:D.rd i=D.secs.getD i []:=by unfold DS.rd;rw [hc];rfl
 rw [sw];obtain⟨c,K6⟩:∃ c,D.secs.getD i []=c:=⟨_,rfl⟩;have jS:kS c:=by rw [<- K6];exact eE h.ok.sec hi
 have h1:=h.alloc (.cells (aI zz) 226);have c0:=h1.c0;have XC:∀ s∈D.secs,s.length=32:=fun s hs=>(h.ok.sec s hs).1
 have PE:(w.alloc (.cells (aI zz) 226)).rangeAt sb (i * 32) (c.map (Value.int .u8)):=C8 (i * 32) c jS.1 h1.sec (by rw [wS _ _ XC hi,K6]);have hu:=Tryz.underlying226;have eQ:(Tryz.prog.info? 226).map (·.size)=some (c.map (Value.int .u8)).length:=by rw [zLm,jS.1];exact qu
 have mH:=jS.1;have F3:(storeCells ⟨w.heap.size,0,none⟩ (c.map (Value.int .u8)) 0).run Tryz.prog (w.alloc (.cells (aI zz) 226))=.ok () (w.alloc (.cells (aI c) 226)) :=run_storeCells_new w 226 (aI zz) (aI c) (by rw [bJ,jS.1];exact qu) (by rw [bJ,bJ,jS.1,tj]) (jd c);rw [K6];have aX:Bs (w.alloc (.cells (aI c) 226)) (some ⟨w.heap.size,0,none⟩) 32 c:=by have:=(tZ w c 226).bs jS.2 (by rw [jS.1];decide) 0 32 32 (by rw [jS.1];decide) zNr;rwa [List.drop_zero,List.take_of_length_le (by rw [jS.1];decide)] at this
 have nj:∀ w1,fH w1 (w.heap.size+1) (ag 32)->Bs w1 (some ⟨w.heap.size,0,none⟩) 32 c->Sem.run Tryz.prog (Builtin.copy_ #[30,30] 3 #[.slice (some ⟨w.heap.size+1,0,none⟩) 32 32,.slice (some ⟨w.heap.size,0,none⟩) 32 32]) w1=.ok (.int .i64 32) (ei w1 (w.heap.size+1) c):=fun w1 h5 h6=>by have:=mS (P:=Tryz.prog) w1 30 30 3 zu30 aN (w.heap.size+1) 32 (some ⟨w.heap.size,0,none⟩) 32 (ag 32) c (by rw [jS.1,aj]) h5 h6;rw [jS.1] at this;exact this
 obtain⟨i0,eP,cY,dw,dz⟩:=info_parts dQ;have e0:(i:Int)<(D.secs.length:Int):=by omega
 have e1:(0:Int)<=(i:Int):=by omega
 have HH:=af gx;have HB:=af aX;clear h gx hf hc AG aX sw K6 h1 hzz tj XC jS;go_enter Tryz.func207,Tryz.ntmps207
 go_wp2_with fail
 refine(ae HH).mono ?_;rintro e w1 ⟨rfl,rfl⟩;go_wp2_with (first | (refine wpList_load_mid rfl 226 (.tmp 35) rfl sb (i * 32) rfl (c.map (Value.int .u8)) _ PE hu rfl eQ ?_) | (at_make;refine bE rfl _ _ 30 rfl i0 zu30 eP cY dw dz _ _ _ _ 32 rfl rfl rfl rfl (by omega) ?_))
 intro w1 wJ gP ay;have aK:=(ae HB).below (w':=w1) (by rw [size_alloc];exact ay);have gy:Below w.heap.size w w1:=(zBr.alloc zNr (.cells (aI c) 226)).trans (ay.mono (by omega));go_wp2;go_ret2;exact⟨_,rfl,by omega,ix wJ c,dW c gy (by omega)⟩
theorem IF(i:Nat)(h:pT w p S D)(hi:i<D.secs.length)(hd:D.down=false) :
  Calls Tryz.prog 207 #[.pointer (some ⟨p,0,none⟩),.int .i64 i] w fun e w'=>∃ g,e=.returned (.tuple #[.slice (some ⟨g,0,none⟩) 32 32,.nilIface])/\w.heap.size<=g/\fH w' g (D.rd i)/\Below w.heap.size w w':=by
 obtain⟨sb,bm,pv,h⟩:=h;cases hc:D.mem.lookup i with
 | none=>exact Vs i h hi hd hc
 | some c=>exact Vt i h hi hd c hc
theorem AZ(n:Nat):(List.replicate n (List.replicate 32 (0:Int))).flatten=ag (n * 32):=by
 induction n with
 | zero=>rfl
 | succ n ih =>rw [List.replicate_succ,List.flatten_cons,ih];unfold ag;rw [show(n+1) * 32=32+n * 32 from by omega,List.replicate_append_replicate]
theorem xz(n i:Nat):(ag n).getD i 0=0:=by unfold ag;rw [List.getD_eq_getElem?_getD,List.getElem?_replicate];split <;> rfl
theorem zac(j:Nat)(hj:j<32):(aI (ag 32))[j]! = .int .u8 0:=by
 have h:(aI (ag 32))[j]?=some (.int .u8 0):=by rw [nt _ _ (by rw [aj];exact hj),xz]
 rw [getElem!_def,h]
theorem Sa(n:Nat):madeCells (sv (ag 32)).cells (n * 32)=aI (ag (n * 32)):=by
 have hz:(sv (ag 32)).cells=aI (ag 32):=rfl;rw [hz];unfold madeCells;apply Array.ext
 ·rw [Array.size_map,Array.size_range,bJ,aj]
 ·intro i h1 h2;have h3:i<n * 32:=by rwa [bJ,aj] at h2
  have h4:=nt (ag (n * 32)) i (by rw [aj];exact h3);rw [Array.getElem?_eq_getElem h2,xz] at h4;rw [zOi h4,Array.getElem_map,Array.getElem_range,bJ,aj,zac _ (Nat.mod_lt _ (by decide))]
theorem nM{P:Program}{w:World}{ops:Array Oper}{rest:List Oper}{o:Oper}{a:Act}{Q:Exit->Act->World->Prop}
  (hg:o.guard=none) (l c:Operand) (t e:TypeId) (PF:o.op=Op.makeSlice t l c)
  (i:TypeInfo) (h1:P.underlying t=some (.slice e)) (h2:P.info? e=some i) (h3:i.zero=some (sv (ag 32))) (h4:i.size=32) (h5:i.bytes=32)
  (kl kc:IntKind) (L C:Int) (n:Nat) (hl:a.eval l=.int kl L) (hc:a.eval c=.int kc C) (hL:L=(n:Int)) (hC:C=(n:Int)) (b2:n<=300)
  (hK:wpList P ops Q rest (a.put o.dst (.slice (some ⟨w.heap.size,0,none⟩) n n)) (w.alloc (.cells (aI (ag (n * 32))) e))) :
  wpList P ops Q (o :: rest) a w:=by
 refine wpList_plain hg fun K hK'=>?_
 have bw:=run_make (P:=P) w t e i _ h1 h2 h3 kl kc n n (by omega) (by omega) (by rw [h5];omega) (by omega);subst hL;subst hC;rw [h4,Sa] at bw;unfold Oper.wp;simp [execOp,PF,hl,hc,bw,Result.andThen];exact hK' _ _ hK
theorem za8(n:Nat)(w:World)(h1:1<=n)(h2:n<=300) :
  Calls Tryz.prog 20 #[.int .i64 n] w fun e w'=>∃ p S,e=.returned (.tuple #[.pointer (some ⟨p,0,none⟩),.nilIface])/\pT w' p S (DS.new n)/\(∀ k,S k->w.heap.size<=k)/\Below w.heap.size w w':=by
 have e1:¬ (n:Int)<1:=by omega
 have e2:¬ 300<(n:Int):=by omega
 have D1:=@run_makeMap Tryz.prog;obtain⟨i0,eP,cY,dw,dz⟩:=info_parts Sk;go_enter Tryz.func20,Tryz.ntmps20
 go_wp2_with (at_make;refine nM rfl _ _ 130 226 rfl i0 Tryz.underlying130 eP cY dw dz _ _ _ _ n rfl rfl rfl rfl h2 ?_)
 go_ret2;refine⟨w.heap.size+1+1,rfl,fun k=>w.heap.size<=k/\k<w.heap.size+3,⟨w.heap.size,w.heap.size+1,.slice none 0 0,?_⟩,fun k hk=>hk.1,?_⟩
 ·have hn:(List.replicate n (List.replicate 32 (0:Int))).length=n:=by simp
  have hA:((w.alloc (.cells (aI (ag (n * 32))) 226)).alloc (.map #[] 0)).heap.size=w.heap.size+1+1:=by simp
  refine⟨DS.VS n h2,?_,?_,?_,World.ownsRow_nil _ _ _ _,⟨by omega,by omega⟩,⟨by omega,by omega⟩,⟨by omega,by omega⟩,fun g hg=>(by cases hg),fun k hk=>(by have h9:=hk.2;simp;omega),by omega,fun e=>(by cases e),fun e=>(by cases e)⟩
  ·have:=heap_alloc_new ((w.alloc (.cells (aI (ag (n * 32))) 226)).alloc (.map #[] 0)) (.cells (df w.heap.size n (w.heap.size+1) (.slice none 0 0) (-1) false) 133);rw [hA] at this
   show _=some (Obj.cells (df w.heap.size (List.replicate n (List.replicate 32 (0:Int))).length (w.heap.size+1) (.slice none 0 0) (-1) false) _ _)
   rw [hn];exact this
  ·show iR _ _ _ (List.replicate n (List.replicate 32 (0:Int))).flatten
   rw [AZ];exact((tZ w (ag (n * 32)) 226).same (heap_alloc_old _ _ (by simp))).same (heap_alloc_old _ _ (by simp;omega))
  ·have:=MF (P:=Tryz.prog) (K:=3) (w.alloc (.cells (aI (ag (n * 32))) 226));rw [size_alloc] at this;exact this.same (heap_alloc_old _ _ (by simp))
 ·exact((zBr.alloc zNr _).alloc (by simp) _).alloc (by simp;omega) _
end
structure Live (w0 w:World) (p:Nat) (S:Nat->Prop) (D:DS):Prop where
 dev:pT w p S D
 Cv:Below w0.heap.size w0 w
 base:∀ k,S k->w0.heap.size<=k
section
variable {w0 w w':World} {p:Nat} {S S':Nat->Prop} {D D':DS}
theorem Live.dZ(h:Live w0 w p S D)(hd:pT w' p S' D')(ht:aE S S' w w'):Live w0 w' p S' D' :=
 ⟨hd,h.Cv.trans (ht.below h.base h.Cv.size),fun k hk=>by
  rcases Nat.lt_or_ge k w.heap.size with h1 | h1
  ·exact h.base k (ht.bA k h1 hk)
  ·exact Nat.le_trans h.Cv.size h1⟩
theorem Live.below(h:Live w0 w p S D)(hb:Below w.heap.size w w'):Live w0 w' p S D:=⟨h.dev.below hb,h.Cv.trans (hb.mono h.Cv.size),h.base⟩
theorem Live.write(h:Live w0 w p S D)(i:Int){a:Option Addr}{cap:Nat}{l:List Int}(hb:Bs w a cap l/\(l≠[]->∀ x,a=some x->¬ S x.block)) :
  Calls Tryz.prog 134 #[.pointer (some ⟨p,0,none⟩),.int .i64 i,.slice a l.length cap] w fun e w'=>e=.returned (aR (D.cX i l))/\(∃ S',Live w0 w' p S' (D.write i l)/\aE S S' w w') :=
 (QE i a cap l h.dev hb.1 hb.2).mono fun e w' ⟨he,S',hd,ht⟩=>⟨he,S',h.dZ hd ht,ht⟩
theorem Live.flush(h:Live w0 w p S D) :
  Calls Tryz.prog 135 #[.pointer (some ⟨p,0,none⟩)] w fun e w'=>e=.returned (aR D.dP)/\(∃ S',Live w0 w' p S' D.bI/\aE S S' w w') :=
 (Tq h.dev).mono fun e w' ⟨he,S',hd,ht⟩=>⟨he,S',h.dZ hd ht,ht⟩
theorem Live.dY(h:Live w0 w p S D)(bK cut:Int){a:Option Addr}{cap:Nat}{keep:List Bool}(hb:Bls w a cap keep/\(keep≠[]->∀ x,a=some x->¬ S x.block)) :
  Calls Tryz.prog 26 #[.pointer (some ⟨p,0,none⟩),.slice a keep.length cap,.int .i64 bK,.int .i64 cut] w fun e w'=>e=.returned (.int .i64 D.mem.length)/\(∃ S',Live w0 w' p S' (D.dY keep bK (vf cut))/\aE S S' w w') :=
 (TC a cap keep bK cut h.dev hb.1 hb.2).mono fun e w' ⟨he,S',hd,ht⟩=>⟨he,S',h.dZ hd ht,ht⟩
theorem Live.down(h:Live w0 w p S D) :
  Calls Tryz.prog 77 #[.pointer (some ⟨p,0,none⟩)] w fun e w'=>e=.returned (.bool D.down)/\w=w':=by
 obtain⟨sb,bm,pv,hd⟩:=h.dev;exact Kc hd
theorem Live.read(h:Live w0 w p S D)(i:Nat)(hi:i<D.secs.length)(hd:D.down=false) :Calls Tryz.prog 207 #[.pointer (some ⟨p,0,none⟩),.int .i64 i] w fun e w'=>∃ g,e=.returned (.tuple #[.slice (some ⟨g,0,none⟩) 32 32,.nilIface])/\w.heap.size<=g/\fH w' g (D.rd i)/\Below w.heap.size w w':=IF i h.dev hi hd
theorem V9(n:Nat)(w0 w:World)(hb:Below w0.heap.size w0 w)(h1:1<=n)(h2:n<=300) :
  Calls Tryz.prog 20 #[.int .i64 n] w fun e w'=>∃ p S,e=.returned (.tuple #[.pointer (some ⟨p,0,none⟩),.nilIface])/\Live w0 w' p S (DS.new n)/\(∀ k,S k->w.heap.size<=k)/\Below w.heap.size w w' :=
 (za8 n w h1 h2).mono fun e w' ⟨p,S,he,hd,hS,aK⟩=>⟨p,S,he,⟨hd,hb.trans (aK.mono hb.size),fun k hk=>Nat.le_trans hb.size (hS k hk)⟩,hS,aK⟩
end
def vF(w:World)(S:Nat->Prop)(t n:Nat)(F:Nat->List Int)(m:Nat):Prop :=∃ cur:Array Value,w.heap[t]?=some (.cells cur 30 (0,0))/\cur.size=n/\¬ S t/\∀ i,i<m->∃ g,cur[i]?=some (.slice (some ⟨g,0,none⟩) 32 32)/\fH w g (F i)/\¬ S g
section
variable {w w':World} {S S':Nat->Prop} {t n m:Nat} {F:Nat->List Int}
theorem vF.lt(h:vF w S t n F m):t<w.heap.size:=by obtain⟨cur,h1,_⟩:=h;exact(zAg h1).1
theorem fH.same{g:Nat}{l:List Int}(h:fH w g l)(e:w'.heap[g]?=w.heap[g]?):fH w' g l:=by unfold fH at h ⊢;rw [e];exact h
theorem vF.dZ(h:vF w S t n F m)(ht:aE S S' w w'):vF w' S' t n F m:=by have aM:=h.lt;obtain⟨cur,h1,h2,h3,h4⟩:=h;refine⟨cur,(ht.block t aM h3).trans h1,h2,fun hs=>h3 (ht.bA t aM hs),fun i hi=>?_⟩;obtain⟨g,h5,h6,h7⟩:=h4 i hi;exact⟨g,h5,h6.same (ht.block g h6.lt h7),fun hs=>h7 (ht.bA g h6.lt hs)⟩
theorem vF.below(h:vF w S t n F m)(hb:Below w.heap.size w w'):vF w' S t n F m:=h.dZ (aE.aW hb)
theorem vF.room(h:vF w S t n F m)(i:Nat)(hi:i<n):∃ v,w.cell? ⟨t,i,none⟩=some v:=by obtain⟨cur,h1,h2,h3,h4⟩:=h;exact⟨cur[i]'(by omega),by rw [cell_of_row _ _ _ _ _ _ h1];exact Array.getElem?_eq_getElem (by omega)⟩
theorem vF.fr(h:vF w S t n F m)(i:Nat):w.frozen? ⟨t,i,none⟩=false:=by obtain⟨cur,h1,_⟩:=h;exact frozen_of_row _ _ _ _ _ h1
theorem vF.put(h:vF w S t n F m)(hm:m<n){g:Nat}(hg:fH w g (F m))(hn:¬ S g):vF (w.setCell ⟨t,m,none⟩ (.slice (some ⟨g,0,none⟩) 32 32)) S t n F (m+1):=by
 obtain⟨cur,h1,h2,h3,h4⟩:=h;have aO:∀ g' l,fH w g' l->g'≠t:=by intro g' l hb e;subst e;unfold fH at hb;rw [h1] at hb;simp at hb
 refine⟨cur.setIfInBounds m (.slice (some ⟨g,0,none⟩) 32 32),heap_setCell_same _ _ _ _ _ _ h1,by simp [h2],h3,fun i hi=>?_⟩;by_cases e:i=m
 ·subst e;exact⟨g,by rw [Array.getElem?_setIfInBounds_self_of_lt (by omega)],hg.same (heap_setCell_other _ _ _ _ (aO g _ hg)),hn⟩
 ·obtain⟨g',h5,h6,h7⟩:=h4 i (by omega);refine⟨g',?_,h6.same (heap_setCell_other _ _ _ _ (aO g' _ h6)),h7⟩;rw [Array.getElem?_setIfInBounds_ne (fun e'=>e e'.symm)];exact h5
end
theorem Live.U9{w0 w:World}{p:Nat}{S:Nat->Prop}{D:DS}(h:Live w0 w p S D){a:Addr}{v:Value}(hn:¬ S a.block)(hb:w0.heap.size<=a.block):Live w0 (w.setCell a v) p S D :=⟨h.dev.same (by simp) (fun k hk=>heap_setCell_other _ _ _ _ (fun e=>hn (e ▸ hk))),h.Cv.setCell hb v,h.base⟩
theorem Ax:(Tryz.prog.info? 30).map (fun i=>(i.zero,i.size,i.bytes))=some (some (.slice none 0 0),1,24):=by kernel_rfl
theorem yz{P:Program}{w:World}{ops:Array Oper}{rest:List Oper}{o:Oper}{a:Act}{Q:Exit->Act->World->Prop}
  (hg:o.guard=none) (l c:Operand) (t:TypeId) (PF:o.op=Op.makeSlice t l c)
  (i:TypeInfo) (h1:P.underlying t=some (.slice 30)) (h2:P.info? 30=some i) (h3:i.zero=some (.slice none 0 0)) (h4:i.size=1) (h5:i.bytes=24)
  (kl kc:IntKind) (L C:Int) (n:Nat) (hl:a.eval l=.int kl L) (hc:a.eval c=.int kc C) (hL:L=(n:Int)) (hC:C=(n:Int)) (b2:n<=300)
  (hK:∀ w',(∀ S F,¬ S w.heap.size->vF w' S w.heap.size n F 0)->Below w.heap.size w w'->wpList P ops Q rest (a.put o.dst (.slice (some ⟨w.heap.size,0,none⟩) n n)) w') :
  wpList P ops Q (o :: rest) a w:=by
 refine wpList_plain hg fun K hK'=>?_
 have bw:=run_make (P:=P) w t 30 i _ h1 h2 h3 kl kc n n (by omega) (by omega) (by rw [h5];omega) (by omega);subst hL;subst hC;unfold Oper.wp;simp [execOp,PF,hl,hc,bw,Result.andThen];refine hK' _ _ (hK _ (fun S F hS=>⟨_,heap_alloc_new _ _,by rw [size_madeCells,h4,Nat.mul_one],hS,fun i hi=>absurd hi (Nat.not_lt_zero i)⟩) (zBr.alloc zNr _))
theorem vj{w:World}{a:Option Addr}{cap:Nat}{l:List Int}(hb:Bs w a cap l)(n:Nat):Bs (w.drewN n) a cap l:=hb
theorem pI{w:World}{g:Nat}{l:List Int}(h:fH w g l)(hs:kS l):Bs w (some ⟨g,0,none⟩) 32 l:=by have:=h.bs hs.2 (by rw [hs.1];decide);rwa [hs.1] at this
end Go.Proofs.YtcimhnnendlblaaGreat
