import Derived.Test.YtoiebmeajhpgcaaGreatDoorJPgp
import Derived.Maps.OwnSet
import Derived.Test.YtoiebmeajhpgcaaGreatDoorJTn
import Derived.Deep.WholeRow
import Derived.Deep.RegionHeld3
import Derived.Deep.DrawnRows
import Derived.Carry
set_option maxRecDepth 100000
set_option maxHeartbeats 16000000
set_option linter.all false
namespace Go.Proofs.YtoiebmeajhpgcaaGreatDoor
variable {l b z:LI}{v pv:Value}{a:Act}{w' w w1:World}{n i g t base e size cap sb bm:Nat}{S:Nat->Prop}{P:Program}{xs:List Value}{ops:Array Oper}{o:Oper}{Q:Exit->Act->World->Prop}{rest:List Oper}
open Tryz
open Go.RowKit
section
open Go.MapKept
open Go.ChangeMaps
open Go.Maps (Keyed)
def aL(l:LI):Array Value:=(l.map (Value.int .u8)).toArray
def sv(l:LI):Value:=.agg (aL l)
def sd(l:LI):DataW Unit:=.agg (l.map fun z=>.lit (.int .u8 z))
theorem cf l:(aL l).size=l.length:=by simp[aL]
theorem qX l i(h:i<l.length):(aL l)[i]?=some (.int .u8 (l.getD i 0)):=by simp[aL,h,List.getD]
def isU8:Value->Bool
 | .int .u8 _=>true
 | _=>false
def zfC:Value->Int
 | .int .u8 z=>z
 | _=>0
def Nn:Value->Option (DataW Unit×List MemPlace)
 | .agg cs=>if cs.toList.all isU8=true/\cs.size=32 then some (.agg (cs.toList.map fun v=>.lit (.int .u8 (zfC v))),[])else none
 | _=>none
theorem zeQ(l:LI):(l.map (Value.int .u8)).all isU8=true:=by
 induction l with
 | nil=>rfl
 | cons a r ih=>simp[isU8]
theorem Kv(h:l.length=32):Nn (sv l)=some (sd l,[]):=by
 have h1:=zeQ l;unfold Nn sv;simp only[aL,qBa,zLm,h,h1,and_self,if_true,sd,qDK]
 congr 1
theorem Zc{cs:List Value}(h:cs.all isU8=true):cs=(cs.map zfC).map (Value.int .u8):=by
 induction cs with
 | nil=>rfl
 | cons a r ih =>
  simp only[List.all_cons,qAa]at h;have ha:a=.int .u8 (zfC a):=by
   cases a <;> simp[isU8]at h
   rename_i q z
   cases q <;> simp at h
   rfl
  simp only[qAn,<-ha]
  congr 1
  exact ih h.2
theorem zbw{d}{ps}(h:Nn v=some (d,ps)):∃l,l.length=32/\v=sv l/\d=sd l:=by
 unfold Nn at h;cases v <;> simp only[reduceCtorEq]at h
 rename_i cs
 split at h
 ·rename_i hc
  simp only[qAQ,qBs]at h;refine⟨cs.toList.map zfC,by simpa using hc.2,?_,?_⟩
  ·unfold sv aL;rw[<-Zc hc.1]
  ·rw[<-h.1];simp[sd]
 ·cases h
theorem zbA{a:LI}(h:sd a=sd b):a=b:=by
 unfold sd at h;simp only[DataW.agg.injEq]at h;induction a generalizing b with
 | nil=>cases b with
  | nil=>rfl
  | cons _ _=>simp at h
 | cons x r ih=>cases b with
  | nil=>simp at h
  | cons y s =>simp only[qAn,List.cons.injEq,DataW.lit.injEq,qCC,qBL]at h;rw[h.1,ih h.2]
def kn(P:Program)(K:TypeId)(w:World)(bm:Nat)(mem:List (Nat×LI)):Prop :=∃D,w.ownsMap P K Nn bm mem.length D/\∀i:Nat,Maps.has D (.int .i64 i)=(mem.lookup i).isSome/\∀b,mem.lookup i=some b->D.atKey (.int .i64 i) (sd (af 32))=sd b
section
variable {P:Program} {K:TypeId} {w:World} {bm:Nat} {mem:List (Nat×LI)}
theorem kn.lt(h:kn P K w bm mem):bm<w.heap.size:=zig
theorem kn.isMap(h:kn P K w bm mem):∃es clock,w.heap[bm]?=some (.map es clock):=zmV
theorem kn.same(h:kn P K w bm mem)(hs:w'.heap[bm]?=w.heap[bm]?):kn P K w' bm mem:=zgk
theorem vd(i:Nat)(h:i<300):(Lit.int .i64 (i:Int)).wf=true:=qBo Sg
theorem Tx(w:World):kn P K (w.alloc (.map #[] 0)) w.heap.size [] :=⟨.map [],World.ownsMap_made w P K Nn,fun i=>⟨rfl,fun b hb=>by simp at hb⟩⟩
theorem zH{H:Type}{R}{m:Nat}{D:DataW H}(h:w.ownsMap P K R bm n D)(hm:Maps.size D<=m):w.ownsMap P K R bm m D:=by obtain⟨es,clock,hb,F,hs,rfl⟩:=h;exact⟨es,clock,hb,F,by simpa[Maps.size,length_sorted]using hm,rfl⟩
def tG(mem:List (Nat×LI))(i:Nat):LI:=(mem.lookup i).getD (af 32)
theorem kn.look{T E:TypeId}(h:kn P K w bm mem)(hK:P.underlying K=some (.int .i64))(hT:P.underlying T=some (.map K E))(hz:(zeroValue E).run P w=.ok (sv (af 32)) w) c(hi:i<300) :
  (Instr.lookup T (.map (some bm)) (zi i) c).run P w=.ok (if c then .tuple #[sv (tG mem i),.bool (mem.lookup i).isSome]else sv (tG mem i)) w:=by
 obtain⟨D,az,hD⟩:=h;have gL:=Maps.keyOf_int_mk (P:=P) hK (vd i hi);have hzd:=Kv (l:=af 32) (by simp[af]);have oZ:∀v ps,Nn v=some (D.atKey (.int .i64 i) (sd (af 32)),ps)->v=sv (tG mem i):=by
  intro v ps hv;obtain⟨l,hl,rfl,hd⟩:=zbw hv;unfold tG;cases hm:mem.lookup i with
  | none =>
   have ig:Maps.has D (.int .i64 i)=false:=by rw[(hD i).1,hm];rfl
   rw[Maps.atKey_of_not_has ig]at hd;rw[zbA hd];rfl
  | some b =>rw[(hD i).2 b hm]at hd;rw[zbA hd];rfl
 cases c with
 | true =>obtain⟨v,ps,cF,hv⟩:=az.look_ok (Maps.int_keyed hK) hT hz hzd gL;rw[cF,oZ v ps hv,(hD i).1];rfl
 | false =>obtain⟨v,ps,cF,hv⟩:=az.lookup (Maps.int_keyed hK) hT hz hzd gL;rw[cF,oZ v ps hv];rfl
theorem kn.store{T E:TypeId}(h:kn P K w bm mem)(hK:P.underlying K=some (.int .i64))(hT:P.underlying T=some (.map K E))(hn:mem.length<=300)(hi:i<300)(hb:b.length=32) :
  ∃w',(Instr.mapUpdate T (.map (some bm)) (zi i) (sv b)).run P w=.ok () w'/\kn P K w' bm (memPut mem i b)/\w.mapTurned w' bm:=by
 obtain⟨D,az,hD⟩:=h;have gL:=Maps.keyOf_int_mk (P:=P) hK (vd i hi);obtain⟨w',cF,jy,ht⟩:=az.store (Maps.int_keyed hK) hT Ts gL (Kv hb);have sr:=(Maps.int_keyed hK).key gL;refine⟨w',cF,⟨_,zH jy ?_,fun j=>?_⟩,ht⟩
 ·rw[Maps.size_put (az.tidy (Maps.int_keyed hK)),(hD i).1];have h1:=az.size_le;have h2:(memPut mem i b).length=((memPut mem i b).map (·.1)).length:=by simp
  rw[h2,nT];cases hm:mem.lookup i with
  | none =>have:=fJ.1 hm;simp only[this,if_false,qDA,Bool.false_eq_true];simp;omega
  | some c =>
   have:i∈mem.map (·.1):=by
    refine qAM fun hc=>?_
    rw[fJ.2 hc]at hm;cases hm
   simp only[this,if_true,qDB];simp;omega
 ·rw[kM];by_cases hj:j=i
  ·subst hj;refine⟨by simp[Maps.has_put_same az.isMap sr],fun c hc=>?_⟩;simp at hc;subst hc;exact Maps.atKey_put_same az.isMap sr _ _
  ·have aG:Lit.int .i64 (j:Int)≠Lit.int .i64 (i:Int):=by intro e;simp only[qCC,qBL]at e;omega
   simp only[hj,if_false];rw[Maps.has_put_other aG,Maps.atKey_put_other aG];exact hD j
theorem kn.clear{T E:TypeId}(h:kn P K w bm mem)(hT:P.underlying T=some (.map K E)) :
  ∃w',(∀ty,(Builtin.clear_ #[T] ty #[.map (some bm)]).run P w=.ok (.tuple #[]) w')/\kn P K w' bm []/\w.mapTurned w' bm:=by
 obtain⟨es,clock,hb⟩:=h.isMap;refine⟨setBlock w bm (.map #[] clock),fun ty=>?_,⟨.map [],?_,fun i=>⟨rfl,fun b hb=>by simp at hb⟩⟩,⟨es,clock,#[],clock,hb,rfl⟩⟩
 ·simp[Builtin.clear_,qCi hT,MapKept.run_getObj_map hb,MapKept.run_setObj_map _ hb,Result.andThen,setBlock]
 ·exact⟨#[],clock,heap_setBlock_same hb _,⟨Sk,stamped_empty clock,Sk⟩,zNr,rfl⟩
end
end
section
open Go.MapKept
theorem au.map{b}(ht:w.mapTurned w' b)(h:S b):au S S w w' :=
 let g:=ht.grown
 ⟨g.os,g.tape,g.output,g.size,fun k hk hn=>g.block k hk (fun e=>hn (zOi e▸h)),fun _ _ hs=>hs⟩
def kY(w:World)(g:Nat)(t:TypeId)(l:LI):Prop:=w.heap[g]?=some (.cells (aL l) t (0,0))
theorem kY.cell{t:TypeId}(h:kY w g t l) i(hi:i<l.length):w.cell? (zw g i)=some (.int .u8 (l.getD i 0)):=by rw[qAD w g i _ t (0,0) h];exact qX l i hi
theorem kY.lt{t:TypeId}(h:kY w g t l):g<w.heap.size:=(zAg h).1
theorem kY.set{t:TypeId}(h:kY w g t z) l:kY (fj w g l) g t l:=setRow_heap w g _ _ t _ h
theorem kY.same{t:TypeId}(h:kY w g t l)(e:w'.heap[g]?=w.heap[g]?):kY w' g t l:=e.trans h
theorem kY.bs{t:TypeId}(h:kY w g t l)(hb:bZ l)(hl:l.length<=140737488351232) off n cap(hn:off+n<=l.length)(hc:n<=cap):Bs w (some ⟨g,off,none⟩) cap ((l.drop off).take n):=by have hlen:((l.drop off).take n).length=n:=Tb;refine⟨hb.sub off n,Sg,Sg,fun e=>TB,fun _=>⟨g,off,rfl,fun i hi=>?_⟩⟩;rw[hlen]at hi;rw[h.cell (off+i) Sg];exact zdQ
theorem nj w(dT sT ty:TypeId)(hu:P.underlying dT=some (.slice 5))(bW:(P.info? 5).map (·.size)=some 1){off dCap:Nat}{sp}{sCap}(hz:off+l.length<=z.length)(hg:kY w g t z)(hb:Bs w sp sCap l) :
  (Builtin.copy_ #[dT,sT] ty #[.slice (some ⟨g,off,none⟩) l.length dCap,.slice sp l.length sCap]).run P w=.ok (zi l.length) (fj w g (splice z off l)):=by
 by_cases h0:l=[]
 ·subst h0;have cF:=run_copy_none (P:=P) w dT sT ty 5 (some ⟨g,off,none⟩) sp 0 dCap 0 sCap hu bW Sk;have mw:fj w g (splice z off [])=w:=by
   have:splice z off []=z:=by simp[splice]
   rw[this];exact setRow_self w g _ t (0,0) hg
  rw[mw];simpa[goInt]using cF
 ·obtain⟨b,o2,rfl,hc⟩:=hb.2.2.2.2 h0;have cF:=run_copy_row (P:=P) w dT sT ty 5 g off l.length dCap ⟨b,o2,none⟩ l.length sCap _ t (l.map (Value.int .u8)) hu bW hg Sk ?_ (by simpa[aL]using hz) (ed l)
  ·rw[cF];simp[goInt,fj,splice,aL]
  ·exact j7
theorem yL:∀ (secs:List (LI)),(∀s∈secs,s.length=32)->secs.flatten.length=secs.length*32
 | [],_=>rfl
 | s::r,h=>by have:=yL r (fun x hx=>h x UD);have:=h s Sk;simp only[List.flatten_cons,zLa,zLc];omega
theorem BW:∀ (secs:List (LI)) (i:Nat),(∀s∈secs,s.length=32)->i<secs.length->(secs.flatten.drop (i*32)).take 32=secs.getD i []
 | [],i,_,h=>Yy
 | s::r,0,h,_=>by have:=h s Sk;simp[List.getD,this]
 | s::r,i+1,h,hi=>by have h1:=h s Sk;have h2:=BW r i (fun x hx=>h x UD) (by simpa using hi);have e:(i+1)*32=s.length+i*32:=Sg;rw[e,List.flatten_cons,qCK];rw[qAr Sg,qAg];rw[show s.length+i*32-s.length=i*32 from Sg,h2];exact UU
theorem vZ:∀ (secs:List (LI)) (i:Nat) (cs:LI),(∀s∈secs,s.length=32)->i<secs.length->cs.length<=32 ->splice secs.flatten (i*32) cs=(secs.set i (cs++(secs.getD i []).drop cs.length)).flatten
 | [],i,_,_,h,_=>Yy
 | s::r,0,cs,h,_,hc=>by have:=h s Sk;simp[splice,List.getD];rw[qCX Sg]
 | s::r,i+1,cs,h,hi,hc=>by have h1:=h s Sk;have h2:=vZ r i cs (fun x hx=>h x UD) (by simpa using hi) hc;have e:(i+1)*32=s.length+i*32:=Sg;have e3:(s::r).getD (i+1) []=r.getD i []:=UU;rw[e,e3,qAu,List.flatten_cons,List.flatten_cons,<-h2];unfold splice;rw[List.take_append,qAP Sg,qCK,qAr Sg];rw[show s.length+i*32-s.length=i*32 from Sg,show s.length+i*32+cs.length-s.length=i*32+cs.length from Sg];simp
def dW(sb n bm:Nat)(pv:Value)(left:Int)(down:Bool):Array Value:=#[.slice (zo sb) n n,.map (some bm),pv,zi left,.bool down]
def fB(mem:List (Nat×LI)):List Value:=mem.map fun q=>zi (q.1:Int)
structure bU (w:World) (p sb bm:Nat) (pv:Value) (S:Nat->Prop) (D:DS):Prop where
 ok:D.Ok
 str:w.heap[p]?=some (.cells (dW sb D.secs.length bm pv D.left D.down) 151 (0,0))
 sec:kY w sb 308 D.secs.flatten
 mem:kn prog 3 w bm D.mem
 pen:w.ownsRow 0 3 1 pv D.mem.length (fB D.mem)
 mq:S p
 ins:S sb
 O4:S bm
 inv:∀g,pv.ownBlock=some g->S g
 lt:∀k,S k->k<w.heap.size
 nps:p≠sb
 nvp:pv.ownBlock≠some p
 nvs:pv.ownBlock≠some sb
def td(w:World)(p:Nat)(S:Nat->Prop)(D:DS):Prop:=∃sb bm pv,bU w p sb bm pv S D
section
variable {w w':World} {p sb bm:Nat} {pv:Value} {S:Nat->Prop} {D:DS}
theorem bU.npm(h:bU w p sb bm pv S D):bm≠p:=by intro e;subst e;obtain⟨es,c,hb⟩:=h.mem.isMap;rw[h.str]at hb;cases hb
theorem bU.nsm(h:bU w p sb bm pv S D):bm≠sb:=by intro e;subst e;obtain⟨es,c,hb⟩:=h.mem.isMap;have:=h.sec;unfold kY at this;rw[this]at hb;cases hb
theorem br(h:w.ownsRow base e size v n xs)(hg:v.ownBlock=some g):∃cur,w.heap[g]?=some (.cells cur e (0,0)):=by
 rcases h.2 with ⟨rfl,_⟩|⟨g',cap,cur,rfl,_,hb,_⟩
 ·simp[Value.ownBlock]at hg
 ·simp[Value.ownBlock]at hg;subst hg;exact⟨cur,hb⟩
theorem bU.nvm(h:bU w p sb bm pv S D):pv.ownBlock≠some bm:=by intro e;obtain⟨cur,hc⟩:=br h.pen e;obtain⟨es,c,hb⟩:=h.mem.isMap;rw[hc]at hb;cases hb
theorem bJ(h:w.ownsRow base e size v n xs)(hs:∀g,v.ownBlock=some g->w'.heap[g]?=w.heap[g]?):w'.ownsRow base e size v n xs:=by
 refine⟨h.1,?_⟩;rcases h.2 with h2|⟨g,cap,cur,rfl,h3,hb,r⟩
 ·exact .inl h2
 ·exact .inr ⟨g,cap,cur,rfl,h3,(hs g rfl).trans hb,r⟩
theorem bU.same(h:bU w p sb bm pv S D)(hz:w.heap.size<=w'.heap.size)(hs:∀k,S k->w'.heap[k]?=w.heap[k]?):bU w' p sb bm pv S D :=⟨h.ok,(hs _ h.mq).trans h.str,h.sec.same (hs _ h.ins),h.mem.same (hs _ h.O4),bJ h.pen (fun g hg=>hs g (h.inv g hg)),h.mq,h.ins,h.O4,h.inv,fun k hk=>qAL (h.lt k hk) hz,h.nps,h.nvp,h.nvs⟩
theorem bU.alloc(h:bU w p sb bm pv S D) o:bU (w.alloc o) p sb bm pv S D:=h.same Sk (fun k hk=>qAb w o (h.lt k hk))
theorem td.same(h:td w p S D)(hz:w.heap.size<=w'.heap.size)(hs:∀k,S k->w'.heap[k]?=w.heap[k]?):td w' p S D:=by obtain⟨sb,bm,pv,h⟩:=h;exact⟨sb,bm,pv,h.same hz hs⟩
theorem td.lt(h:td w p S D):∀k,S k->k<w.heap.size:=by obtain⟨sb,bm,pv,h⟩:=h;exact h.lt
theorem td.ok(h:td w p S D):D.Ok:=by obtain⟨sb,bm,pv,h⟩:=h;exact h.ok
theorem td.below(h:td w p S D)(hb:zB w w'):td w' p S D:=h.same hb.size (fun k hk=>hb.block k (h.lt k hk))
theorem td.cQ{T T'}(h:td w p S D)(ht:au T T' w w')(hd:∀k,S k->¬T k):td w' p S D:=h.same ht.size (fun k hk=>ht.block k (h.lt k hk) (hd k hk))
theorem bU.wN(h:bU w p sb bm pv S D) n(hn:-9223372036854775808<=n/\n<=9223372036854775807):bU (w.setCell (zw p 3) (zi n)) p sb bm pv S { D with left:=n } :=⟨h.ok.fail hn,zmw,h.sec.same (qAV _ _ _ _ h.nps.symm),h.mem.same (qAV _ _ _ _ h.npm),bJ h.pen (fun g hg=>qAV _ _ _ _ (fun e=>h.nvp VV)),h.mq,h.ins,h.O4,h.inv,fun k hk=>YW,h.nps,h.nvp,h.nvs⟩
theorem bU.zh(h:bU w p sb bm pv S D) x:bU (w.setCell (zw p 4) (.bool x)) p sb bm pv S { D with down:=x } :=⟨⟨h.ok.len,h.ok.sec,h.ok.mem,h.ok.apart,h.ok.left⟩,zmw,h.sec.same (qAV _ _ _ _ h.nps.symm),h.mem.same (qAV _ _ _ _ h.npm),bJ h.pen (fun g hg=>qAV _ _ _ _ (fun e=>h.nvp VV)),h.mq,h.ins,h.O4,h.inv,fun k hk=>YW,h.nps,h.nvp,h.nvs⟩
theorem bU.drew(h:bU w p sb bm pv S D):bU w.drew p sb bm pv S D:=h.same zNr (fun _ _=>rfl)
theorem bU.zf1(h:bU w p sb bm pv S D) secs(hl:secs.length=D.secs.length)(hs:∀s∈secs,kC s):bU (fj w sb secs.flatten) p sb bm pv S { D with secs:=secs } :=
 ⟨⟨by show secs.length<=300;rw[hl];exact h.ok.len,hs,fun q hq=>by show q.1<secs.length/\_;rw[hl];exact h.ok.mem q hq,h.ok.apart,h.ok.left⟩,
  by show(fj w sb secs.flatten).heap[p]?=some (.cells (dW sb secs.length bm pv D.left D.down) _ _);rw[hl];exact(qDM w sb p _ h.nps).trans h.str,h.sec.set _,h.mem.same (qDM w sb bm _ h.nsm),
  bJ h.pen (fun g hg=>qDM w sb g _ (fun e=>h.nvs VV)),h.mq,h.ins,h.O4,h.inv,fun k hk=>by simpa[fj]using h.lt k hk,h.nps,h.nvp,h.nvs⟩
theorem bU.forget(h:bU w p sb bm pv S D)(hm:kn prog 3 w1 bm [])(ht:w.mapTurned w1 bm):bU (w1.setCell (zw p 2) (.slice none 0 0)) p sb bm (.slice none 0 0) S { D with mem:=[]}:=by
 have hg:=ht.grown;have e:∀k,S k->k≠bm->w1.heap[k]?=w.heap[k]?:=fun k hk aG=>hg.block k (h.lt k hk) (fun e=>aG (zOi e))
 have hp:=(e p h.mq h.npm.symm).trans h.str;refine⟨⟨h.ok.len,h.ok.sec,fun q hq=>(by cases hq),List.nodup_nil,h.ok.left⟩,by rw[qAI _ _ _ _ _ _ hp];simp[dW],(h.sec.same (e sb h.ins h.nsm.symm)).same (qAV _ _ _ _ h.nps.symm),hm.same (qAV _ _ _ _ h.npm),qBp _ _ _ _,h.mq,h.ins,h.O4,fun g hg=>Zl,fun k hk=>(by have:=h.lt k hk;have:=hg.size;simp;omega),h.nps,fun e=>TB,fun e=>TB⟩
theorem lU m:fB m=(m.map (fun q=>q.1)).map (fun i:Nat=>Value.int .i64 (i:Int)):=by simp[fB]
theorem GZ{m:List (Nat×LI)}(h:(m.lookup i).isSome=true):i∈m.map (·.1):=by
 refine qAM fun hc=>?_
 rw[fJ.2 hc]at h;cases h
theorem length_keys(m:List (Nat×LI)):(m.map (·.1)).length=m.length:=Sk
theorem bU.zgp(h:bU w p sb bm pv S D)(hi:(D.mem.lookup i).isSome=true)(hl:i<D.secs.length)(hs:kC l)(hm:kn prog 3 w1 bm (memPut D.mem i l))(ht:w.mapTurned w1 bm):bU w1 p sb bm pv S (D.put i l):=by
 have hg:=ht.grown;have e:∀k,S k->k≠bm->w1.heap[k]?=w.heap[k]?:=fun k hk aG=>hg.block k (h.lt k hk) (fun e=>aG (zOi e))
 have hk:(memPut D.mem i l).map (·.1)=D.mem.map (·.1):=by rw[nT,zy (GZ hi)]
 refine⟨h.ok.put hl hs,(e p h.mq h.npm.symm).trans h.str,h.sec.same (e sb h.ins h.nsm.symm),hm,?_,h.mq,h.ins,h.O4,h.inv,fun k hk=>qAL (h.lt k hk) hg.size,h.nps,h.nvp,h.nvs⟩
 show w1.ownsRow 0 3 1 pv (memPut D.mem i l).length (fB (memPut D.mem i l))
 have e1:fB (memPut D.mem i l)=fB D.mem:=by rw[lU,lU D.mem,hk]
 have e2:(memPut D.mem i l).length=D.mem.length:=by rw[<-length_keys,hk,length_keys]
 rw[e1,e2];exact bJ h.pen (fun g hg=>e g (h.inv g hg) (fun e=>h.nvm VV))
theorem bU.zgq{w5}(h:bU w p sb bm pv S D)(hi:D.mem.lookup i=none)(hl:i<D.secs.length)(hs:kC l)(zko:w5.heap[p]?=some (.cells (dW sb D.secs.length bm v D.left D.down) 151 (0,0)))(fI:w5.heap[sb]?=w.heap[sb]?)(hm:kn prog 3 w5 bm (memPut D.mem i l))(az:w5.ownsRow 0 3 1 v (D.mem.length+1) (fB D.mem++[zi (i:Int)]))(hz:w.heap.size<=w5.heap.size)(Pv:v.ownBlock=pv.ownBlock\/∃g,v.ownBlock=some g/\w.heap.size<=g) :
  bU w5 p sb bm v (fun k=>S k\/v.ownBlock=some k) (D.put i l)/\(∀k,k<w.heap.size->(S k\/v.ownBlock=some k)->S k):=by
 have hk:(memPut D.mem i l).map (·.1)=D.mem.map (·.1)++[i]:=by rw[nT,zn (fJ.1 hi)]
 have e1:fB (memPut D.mem i l)=fB D.mem++[zi (i:Int)]:=by rw[lU,lU D.mem,hk];simp
 have e2:(memPut D.mem i l).length=D.mem.length+1:=by rw[<-length_keys,hk];simp
 have hold:∀k,v.ownBlock=some k->S k\/w.heap.size<=k:=by
  intro k hv;rcases Pv with hl|⟨g,hg,hle⟩
  ·exact .inl (h.inv k (by rw[<-hl];exact hv))
  ·rw[hg]at hv;cases hv;exact .inr hle
 refine⟨⟨h.ok.put hl hs,zko,h.sec.same fI,hm,?_,.inl h.mq,.inl h.ins,.inl h.O4,fun g hg=>.inr hg,?_,h.nps,?_,?_⟩,?_⟩
 ·show w5.ownsRow 0 3 1 v (memPut D.mem i l).length (fB (memPut D.mem i l))
  rw[e1,e2];exact az
 ·intro k hk;rcases hk with hk|hk
  ·exact qAL (h.lt k hk) hz
  ·exact(az.lt k hk).2
 ·intro e;rcases Pv with hl|⟨g,hg,hle⟩
  ·exact h.nvp (by rw[<-hl];exact e)
  ·rw[hg]at e;cases e;exact zev
 ·intro e;rcases Pv with hl|⟨g,hg,hle⟩
  ·exact h.nvs (by rw[<-hl];exact e)
  ·rw[hg]at e;cases e;have:=h.lt sb h.ins;omega
 ·intro k hk hS;rcases hS with hS|hS
  ·exact hS
  ·rcases hold k hS with h1|h1
   ·exact h1
   ·omega
theorem bU.c0(h:bU w p sb bm pv S D):w.cell? (zp p)=some (.slice (zo sb) D.secs.length D.secs.length):=zaN
theorem bU.c1(h:bU w p sb bm pv S D):w.cell? (zw p 1)=some (.map (some bm)):=zaN
theorem bU.c2(h:bU w p sb bm pv S D):w.cell? (zw p 2)=some pv:=zaN
theorem bU.c3(h:bU w p sb bm pv S D):w.cell? (zw p 3)=some (zi D.left):=zaN
theorem bU.c4(h:bU w p sb bm pv S D):w.cell? (zw p 4)=some (.bool D.down):=zaN
theorem bU.fr(h:bU w p sb bm pv S D) i:w.frozen? (zw p i)=false:=qAd _ _ _ _ _ h.str
theorem bU.vy(h:bU w p sb bm pv S D):(pv=.slice none 0 0/\D.mem=[])\/∃g cap,pv=.slice (zo g) D.mem.length cap/\D.mem.length<=cap/\cap<=maxLen/\(∀i,i<D.mem.length->w.cell? (zw g i)=some (zi ((D.mem.getD i (0,[])).1:Int))):=by
 rcases h.pen.2 with ⟨h1,h2⟩|⟨g,cap,cur,h1,_,hb,h3,h4,h5,h6⟩
 ·exact .inl ⟨h1,qAp h2⟩
 ·refine .inr ⟨g,cap,h1,h3,h4,fun i hi=>?_⟩;rw[qAD _ _ _ _ _ _ hb];have e:(cur.toList.take (D.mem.length*1))[i]?=(fB D.mem)[i]?:=by rw[h6]
  rw[qAi,zy Sg]at e;simp only[qCV]at e;rw[e];simp[fB,hi,List.getD]
theorem bU.wV(h:bU w p sb bm (.slice (zo g) n cap) S D) i(hi:i<D.mem.length):w.cell? (zw g i)=some (zi ((D.mem.getD i (0,[])).1:Int)):=by
 rcases h.vy with ⟨e,_⟩|⟨g',cap',e,_,_,hc⟩
 ·cases e
 ·simp only[qAS,qAQ,qBI,qBj]at e;rw[e.1];exact hc i hi
end
end
theorem zc8:(prog.info? 308).map (fun i=>(i.zero,i.size))=some (some (sv (af 32)),32):=SQ
theorem vk:(prog.info? 308).map (·.size)=some 32:=SQ
theorem uX w:(zeroValue 308).run prog w=.ok (sv (af 32)) w:=(zero_of_info zc8).1 w
theorem lD l:(aL l).all (·.oneCell')=true:=by rw[Array.all_eq_true];intro i hi;simp[aL]at hi ⊢;rfl
theorem rP(w:World) l(hl:l.length=32) :
  (storeCells (zp w.heap.size) (aL l).toList 0).run prog (w.alloc (.cells zv 308))=.ok () (w.alloc (.cells (aL l) 308)) :=
 run_storeCells_new w 308 zv (aL l) (by rw[cf,hl];exact vk) (by rw[cf,hl];rfl) (lD l)
theorem Kj{K}{E:Prop}(oA:o.guard=none) d s(dT sT:TypeId)(ho:o.op=.call { callee:=.builtin .copy,args:=#[d,s],argTypes:=#[dT,sT]})(hu:P.underlying dT=some (.slice 5))(bW:(P.info? 5).map (·.size)=some 1) g t off dCap sp sCap n z l(hn:l.length=n)(hd:a.eval d=.slice (some ⟨g,off,none⟩) n dCap)(hs:a.eval s=.slice sp n sCap)(hz:off+l.length<=z.length)(hg:kY w g t z)(hb:Bs w sp sCap l)(h:K (a.put o.dst (zi n)) (fj w g (splice z off l))) :
  if Region.wanted o (yielded ops a.tmps)=true then Oper.wp P o a w K Q else E:=by
 have hw:Region.wanted o (yielded ops a.tmps)=true:=by simp[Region.wanted,oA]
 rw[zy hw];subst hn;have cF:=nj (P:=P) w dT sT o.type hu bW (dCap:=dCap) hz hg hb;exact zpl
section
variable {w:World} {p sb bm:Nat} {pv:Value} {S:Nat->Prop} {D:DS}
theorem xA(i n:Nat) b(h:bU w p sb bm pv S D)(hi:i<D.secs.length)(hn:n<=32)(hb:D.mem.lookup i=some b) :
  zC 167 #[zq p,zi i,zi n] w (zr (.tuple #[]) fun w'=>bU w' p sb bm pv S { D with secs:=D.secs.set i (b.take n++(D.secs.getD i []).drop n)}/\au S S w w'):=by
 have hlen:=h.ok.len;have c0:=h.c0;have c1:=h.c1;have aH:kC b:=(h.ok.mem _ (gQ hb)).2;have cN:=h.mem.look (E:=308) underlying3 underlying149 (uX w) false (i:=i) Sg;have CZ:tG D.mem i=b:=zlo;rw[CZ]at cN;simp only[Bool.false_eq_true,if_false]at cN;unfold sv at cN;have bW:(aL b).size=32:=by rw[cf];exact aH.1
 have eF:=rP w b aH.1;have zdv:∀s∈D.secs,s.length=32:=fun s hs=>(h.ok.sec s hs).1
 have Ha:(b.take n).length=n:=by simp[aH.1];omega
 have fc:i*32+(b.take n).length<=D.secs.flatten.length:=by rw[Ha,yL _ zdv];omega
 have eX:kY (w.alloc (.cells (aL b) 308)) w.heap.size 308 b:=qAB _ _;have h1:=h.alloc (.cells (aL b) 308);have c0':=h1.c0;have bK:=h1.sec;have zhb:Bs (w.alloc (.cells (aL b) 308)) (some (zp w.heap.size)) 32 (b.take n):=eX.bs aH.2 (by rw[aH.1];decide) 0 n 32 (by rw[aH.1];omega) hn;have H:=ae h1;go_enter func167,ntmps167
 go_wp2_with fail
 have e1:(0:Int)<=(i:Int):=Sg;have e2:(n:Int)<=32:=Sg;have e3:(0:Int)<=(n:Int):=Sg;go_region_law (refine Kj rfl (.tmp 20) (.tmp 22) 29 29 rfl underlying29 aT sb 308 (i*32) 32 (some (zp w.heap.size)) 32 n D.secs.flatten (b.take n) Ha rfl rfl fc bK zhb ?_)
 go_end0
 have h1:=aa H;have es:=vZ D.secs i (b.take n) zdv hi Sg;rw[Ha]at es;refine⟨rfl,?_,?_⟩
 ·rw[es];exact h1.drew.zf1 _ Sk (fun s hs=>by
   rcases tF hs with h2|h2
   ·exact h1.ok.sec s h2
   ·rw[h2];exact zk (cZ h1.ok.sec hi) aH n)
 ·exact(au.alloc S w (.cells (aL b) 308)).trans ((au.drew S _).trans (au.row _ _ h1.ins))
theorem mV(h:bU w p sb bm pv S D) :
  zC 168 #[zq p] w (zr (.tuple #[]) fun w'=>bU w' p sb bm (.slice none 0 0) S { D with mem:=[]}/\au S S w w'):=by
 have c1:=h.c1;obtain⟨w1,cF,hm,ht⟩:=h.mem.clear (E:=308) underlying149;have e:=ht.grown.block p (h.lt p h.mq) (fun e=>h.npm.symm (zOi e));have c2:=(qAJ (a:=⟨p,2,none⟩) e).trans h.c2;have f2:=(World.frozen?_of_block (a:=⟨p,2,none⟩) e).trans (h.fr 2);have H:=ae h;have HM:=ae hm;have HT:=ae ht;go_enter func168,ntmps168
 go_wp2
 go_end0
 exact⟨rfl,H.forget HM HT,(au.map HT H.O4).trans (au.setCell _ _ H.mq)⟩
theorem D4(h:bU w p sb bm pv S D) :
  zC 166 #[zq p] w (zr (bc (if D.left=0 then 9 else 0)) fun w'=>bU w' p sb bm pv S D.step/\au S S w w'):=by
 have c3:=h.c3;have c4:=h.c4;have f3:=h.fr 3;have f4:=h.fr 4;have hl:=h.ok.left;have H:=ae h;unfold DS.step;by_cases h0:D.left=0
 ·rw[zy h0,zy h0];rw[h0]at c3;have H0:=ae h0;go_enter func166,ntmps166
  go_wp2;go_ret;exact⟨rfl,H.zh true,au.setCell _ _ H.mq⟩
 ·rw[zn h0,zn h0];by_cases h1:0<D.left
  ·rw[zy h1];go_enter func166,ntmps166
   go_wp2;go_ret;exact⟨rfl,H.wN _ Sg,au.setCell _ _ H.mq⟩
  ·rw[zn h1];go_enter func166,ntmps166
   go_wp2;go_ret;exact⟨rfl,H,au.refl _ _⟩
theorem zd7 n(hn:-9223372036854775808<=n/\n<=9223372036854775807)(h:bU w p sb bm pv S D) :
  zC 101 #[zq p,zi n] w (zr (.tuple #[]) fun w'=>bU w' p sb bm pv S { D with left:=n }/\au S S w w'):=by
 have c3:=h.c3;have f3:=h.fr 3;have H:=ae h;go_enter func101,ntmps101
 go_wp2
 go_end0
 exact⟨rfl,H.wN _ hn,au.setCell _ _ H.mq⟩
theorem Qa(h:bU w p sb bm pv S D) :
  zC 150 #[zq p] w (zr (.bool D.down) fun w'=>w=w'):=by
 have c4:=h.c4;go_enter func150,ntmps150
 exact Tt
def hasB(n:Nat)(i:Int):Bool:=decide (0<=i/\i<n)
theorem Az i(h:bU w p sb bm pv S D) :
  zC 164 #[zq p,zi i] w (zr (.bool (hasB D.secs.length i)) fun w'=>w=w'):=by
 have c0:=h.c0;have hlen:=h.ok.len;unfold hasB;by_cases h0:0<=i
 ·by_cases h1:i<D.secs.length
  ·rw[qAE ⟨h0,h1⟩];exact MN
  ·rw[qAG (fun h=>h1 h.2)];exact MN
 ·rw[qAG (fun h=>h0 h.1)];exact MN
end
theorem vJ:(prog.info? 3).map (fun i=>(i.zero,i.size,i.bytes))=some (some (zi 0),1,8):=SQ
theorem zu(w:World) l(t:TypeId):kY (w.alloc (.cells (aL l) t)) w.heap.size t l:=qAB _ _
theorem z32:(zv:Array Value)=aL (af 32):=rfl
theorem size_alloc(w:World) o:(w.alloc o).heap.size=w.heap.size+1:=Sk
theorem Qh(w:World) a cap l(hl:l.length=32)(hb:Bs (w.alloc (.cells zv 308)) a cap l) :
  (Builtin.copy_ #[29,29] 3 #[.slice (some (zp w.heap.size)) 32 32,.slice a 32 cap]).run prog (w.alloc (.cells zv 308))=.ok (zi 32) (w.alloc (.cells (aL l) 308)):=by
 have h:=nj (P:=prog) (w.alloc (.cells zv 308)) 29 29 3 underlying29 aT (dCap:=32) (g:=w.heap.size) (t:=308) (off:=0) (z:=af 32) (l:=l) (by rw[hl,ag];decide) (zu w (af 32) _) hb;rw[hl]at h;rw[h,Nb _ _ (by rw[hl,ag])];unfold fj;rw[World.setRow_alloc_new];rfl
theorem Ev(w:World) l:(w.alloc (.cells (aL l) 308)).rangeAt w.heap.size 0 (l.map (Value.int .u8)):=by intro j v hv;rw[qAl,qAD _ _ j _ _ (0,0) (qAB w _)];simpa[aL]using hv
theorem rB(w:World) o x(t:TypeId):∀j u,([x]:List Value)[j]?=some u->((w.alloc o).alloc (.cells #[x] t)).cell? (Addr.add ⟨w.heap.size+1,0,none⟩ j)=some u:=by
 intro j u hj;cases j with
 | zero =>simp at hj;subst hj;rw[addr_add,qAD _ _ _ _ _ (0,0) (heap_alloc2_new w o _)];simp
 | succ j=>simp at hj
theorem KT x:∀u∈([zi x]:List Value),u.oneCell'=true:=zm1
section
variable {w:World} {p sb bm:Nat} {pv:Value} {S:Nat->Prop} {D:DS}
theorem KC i a cap l(h:bU w p sb bm pv S D)(hi:i<D.secs.length)(hb:Bs w a cap l)(hl:l.length=32)(hn:∀x,a=some x->¬S x.block) c(hc:D.mem.lookup i=some c) :
  zC 165 #[zq p,zi i,.slice a 32 cap] w (zr (.tuple #[]) fun w'=>(∃pv' S',bU w' p sb bm pv' S' (D.put i l)/\au S S' w w')):=by
 have hlen:=h.ok.len;have c1:=h.c1;have lC:=(h.ok.mem _ (gQ hc)).2;have cN:=h.mem.look (E:=308) underlying3 underlying149 (uX w) true (i:=i) Sg;have CZ:tG D.mem i=c:=zgZ;rw[CZ,hc]at cN;simp only[if_true,qDB]at cN;unfold sv at cN;have bW:(aL c).size=32:=by rw[cf];exact lC.1
 have eF:=rP w c lC.1;have l9:=Qh (w.alloc (.cells (aL c) 308)) a cap l hl (hb.cQ ((au.alloc S _ _).trans (au.alloc S _ _)) hn);rw[size_alloc]at l9;have gw:au S S w ((w.alloc (.cells (aL c) 308)).alloc (.cells (aL l) 308)):=(au.alloc S _ _).trans (au.alloc S _ _);have h2:=(h.alloc (.cells (aL c) 308)).alloc (.cells (aL l) 308);obtain⟨w3,hup,Pr,rp⟩:=h2.drew.mem.store (E:=308) underlying3 underlying149 h.ok.ki (i:=i) Sg hl;have zpZ:Sem.run prog (Instr.mapUpdate 149 (.map (some bm)) (zi i) (.agg (l.map (Value.int .u8)).toArray)) (World.drew ((w.alloc (.cells (aL c) 308)).alloc (.cells (aL l) 308)))=.ok () w3:=hup;have c1':=h2.c1;have hrg:((w.alloc (.cells (aL c) 308)).alloc (.cells (aL l) 308)).rangeAt (w.heap.size+1) 0 (l.map (Value.int .u8)):=by have:=Ev (w.alloc (.cells (aL c) 308)) l;rwa[size_alloc]at this
 have hu:=underlying308;have fu:(prog.info? 308).map (·.size)=some (l.map (Value.int .u8)).length:=by rw[zLm,hl];exact vk
 have hll:(l.map (Value.int .u8)).length=32:=by rw[zLm,hl]
 have hon:=ed l;have c13:=(qAJ (a:=⟨p,1,none⟩) (rp.grown.block p (h2.drew.lt _ h2.mq) (fun e=>h2.npm.symm (zOi e)))).trans c1';have rg3:=fun j v hv=>(qAJ (a:=⟨w.heap.size+1,0+j,none⟩) (rp.grown.block (w.heap.size+1) Sk (fun e=>by have:=h.lt bm h.O4;have:=zOi e;omega))).trans (hrg j v hv)
 have H:=ae h2;have HT:=ae gw;have HC:=ae hc;have HM:=ae Pr;have HU:=ae rp;go_enter func165,ntmps165
 go_wp2_with fail
 go_region_held3 (fun w'=>w'.cell? (zw p 1)=some (.map (some bm))/\w'.rangeAt (w.heap.size+1) 0 (l.map (Value.int .u8))) (first | go_keep_ranges | exact⟨c13,rg3⟩) (fail)
 go_end0
 have h2:=aa H;refine⟨rfl,pv,S,?_,HT.trans ((au.drew S _).trans (au.map HU h2.O4))⟩;exact h2.drew.zgp (by rw[aa HC];rfl) hi ⟨hl,hb.1⟩ HM HU
theorem KD i a cap l(h:bU w p sb bm pv S D)(hi:i<D.secs.length)(hb:Bs w a cap l)(hl:l.length=32)(hn:∀x,a=some x->¬S x.block)(hc:D.mem.lookup i=none) :
  zC 165 #[zq p,zi i,.slice a 32 cap] w (zr (.tuple #[]) fun w'=>(∃pv' S',bU w' p sb bm pv' S' (D.put i l)/\au S S' w w')):=by
 have hlen:=h.ok.len;have tM:=h.ok.ki;have c1:=h.c1;have cN:=h.mem.look (E:=308) underlying3 underlying149 (uX w) true (i:=i) Sg;have CZ:tG D.mem i=af 32:=zgZ;rw[CZ,hc]at cN;simp only[if_true,qDA]at cN;unfold sv at cN;generalize hzz:af 32=zz at cN;have vK:zz.length=32:=by rw[<-hzz];exact ag 32
 have bW:(aL zz).size=32:=by rw[cf];exact vK
 have eF:=rP w zz vK;clear hzz vK;have h1:=(h.alloc (.cells (aL zz) 308));have c2:=h1.c2;obtain⟨i0,dU,cO,cU,cV⟩:=qAO vJ;have eV:=(h1.alloc (.cells #[zi (i:Int)] 3)).pen;have mS:au S S w ((w.alloc (.cells (aL zz) 308)).alloc (.cells #[zi (i:Int)] 3)):=(au.alloc S _ _).trans (au.alloc S _ _);have H:=ae h;have HT:=ae mS;have HC:=ae hc;have HO:=ae eV;clear h hc CZ h1 mS eV;go_enter func165,ntmps165
 go_wp2_with (at_builtin;refine wpList_append_own_at _ rfl _ _ 88 rfl 0 3 i0 (zi 0) 1 8 underlying88 dU cO cU cV rfl Si _ _ _ rfl HO ⟨w.heap.size+1,0,none⟩ 1 1 [zi (i:Int)] rfl rfl (rB _ _ _ _) (KT _) Ts Sg Sg ?_)
 intro v0 w2 fL iS yH Pv;obtain⟨vg,vc,rfl⟩:∃vg vc,v0=.slice (zo vg) (D.mem.length+1) vc:=by
  rcases fL.2 with ⟨_,h0⟩|⟨g,vc,cur,h0,_⟩
  ·omega
  ·exact⟨g,vc,h0⟩
 have h:=aa H;have gw:au S S w w2:=HT.trans (au.grown iS (fun k hk=>h.inv k hk));have Zv:w2.heap[p]?=some (.cells (dW sb D.secs.length bm pv D.left D.down) 151 (0,0)):=by rw[iS.block p (by have:=h.lt p h.mq;simp;omega) (fun e=>h.nvp e.symm)];exact((h.alloc _).alloc _).str
 have gN:w2.heap[sb]?=w.heap[sb]?:=by rw[iS.block sb (by have:=h.lt sb h.ins;simp;omega) (fun e=>h.nvs e.symm)];exact(qAb _ _ (by have:=h.lt sb h.ins;simp;omega)).trans (qAb _ _ (h.lt sb h.ins))
 have kz:w2.heap[bm]?=w.heap[bm]?:=by rw[iS.block bm (by have:=h.lt bm h.O4;simp;omega) (fun e=>h.nvm e.symm)];exact(qAb _ _ (by have:=h.lt bm h.O4;simp;omega)).trans (qAb _ _ (h.lt bm h.O4))
 have hvp:(Value.slice (zo vg) (D.mem.length+1) vc).ownBlock≠some p:=by
  intro e;rcases Pv with h1|h1
  ·exact h.nvp zeT
  ·rw[h1]at e;have:=zOi e;exact zev
 have hvm:(Value.slice (zo vg) (D.mem.length+1) vc).ownBlock≠some bm:=by
  intro e;rcases Pv with h1|h1
  ·exact h.nvm zeT
  ·rw[h1]at e;have:=zOi e;have:=h.lt bm h.O4;omega
 have Ji:(Value.slice (zo vg) (D.mem.length+1) vc).ownBlock=pv.ownBlock\/∃g,(Value.slice (zo vg) (D.mem.length+1) vc).ownBlock=some g/\w.heap.size<=g:=by
  rcases Pv with h1|h1
  ·exact .inl h1
  ·exact .inr ⟨_,h1,Sg⟩
 have c22:w2.cell? (zw p 2)=some pv:=by rw[qAD _ _ _ _ _ _ Zv];simp[dW]
 have f22:w2.frozen? (zw p 2)=false:=qAd _ _ _ _ _ Zv;have hz3:(w2.setCell (zw p 2) (.slice (zo vg) (D.mem.length+1) vc)).heap.size=w2.heap.size:=Sk;have hp3:(w2.setCell (zw p 2) (.slice (zo vg) (D.mem.length+1) vc)).heap[p]?=some (.cells (dW sb D.secs.length bm (.slice (zo vg) (D.mem.length+1) vc) D.left D.down) 151 (0,0)):=by rw[qAI _ _ _ _ _ _ Zv];simp[dW]
 have xF:(w2.setCell (zw p 2) (.slice (zo vg) (D.mem.length+1) vc)).heap[sb]?=w.heap[sb]?:=(qAV _ _ _ _ h.nps.symm).trans gN;have Pr:(w2.setCell (zw p 2) (.slice (zo vg) (D.mem.length+1) vc)).heap[bm]?=w.heap[bm]?:=(qAV _ _ _ _ h.npm).trans kz;have xi:(w2.setCell (zw p 2) (.slice (zo vg) (D.mem.length+1) vc)).ownsRow 0 3 1 (.slice (zo vg) (D.mem.length+1) vc) (D.mem.length+1) (fB D.mem++[zi (i:Int)]) :=bJ fL (fun g hg=>qAV _ _ _ _ (fun e=>hvp VV));have rp:au S S w (w2.setCell (zw p 2) (.slice (zo vg) (D.mem.length+1) vc)):=gw.trans (au.setCell _ _ h.mq);have hzw:w.heap.size<=w2.heap.size:=gw.size;have G9:=h.lt p h.mq;have hls:=h.lt sb h.ins;have Jj:=h.lt bm h.O4;have l9:=Qh (w2.setCell (zw p 2) (.slice (zo vg) (D.mem.length+1) vc)) a cap l hl ((hb.cQ rp hn).below (zBr.alloc zNr _));have vM:au S S w ((w2.setCell (zw p 2) (.slice (zo vg) (D.mem.length+1) vc)).alloc (.cells (aL l) 308)):=rp.trans (au.alloc S _ _);have ziC:kn prog 3 (World.drew ((w2.setCell (zw p 2) (.slice (zo vg) (D.mem.length+1) vc)).alloc (.cells (aL l) 308))) bm D.mem:=h.mem.same ((qAb _ _ (by rw[hz3];omega)).trans Pr);obtain⟨w5,hup,hm5,Pk⟩:=ziC.store (E:=308) underlying3 underlying149 tM (i:=i) Sg hl;have zpZ:Sem.run prog (Instr.mapUpdate 149 (.map (some bm)) (zi i) (.agg (l.map (Value.int .u8)).toArray)) (World.drew ((w2.setCell (zw p 2) (.slice (zo vg) (D.mem.length+1) vc)).alloc (.cells (aL l) 308)))=.ok () w5:=hup;have hp4:((w2.setCell (zw p 2) (.slice (zo vg) (D.mem.length+1) vc)).alloc (.cells (aL l) 308)).heap[p]?=some (.cells (dW sb D.secs.length bm (.slice (zo vg) (D.mem.length+1) vc) D.left D.down) 151 (0,0)):=(qAb _ _ (by rw[hz3];omega)).trans hp3;have c14:((w2.setCell (zw p 2) (.slice (zo vg) (D.mem.length+1) vc)).alloc (.cells (aL l) 308)).cell? (zw p 1)=some (.map (some bm)):=by rw[qAD _ _ _ _ _ _ hp4];simp[dW]
 have hrg:=Ev (w2.setCell (zw p 2) (.slice (zo vg) (D.mem.length+1) vc)) l;have hp5:w5.heap[p]?=some (.cells (dW sb D.secs.length bm (.slice (zo vg) (D.mem.length+1) vc) D.left D.down) 151 (0,0)) :=(Pk.grown.block p (by show p<(World.alloc _ _).heap.size;rw[size_alloc,hz3];omega) (fun e=>h.npm.symm (zOi e))).trans hp4;have c15:w5.cell? (zw p 1)=some (.map (some bm)):=by rw[qAD _ _ _ _ _ _ hp5];simp[dW]
 have il:w5.heap[(w2.setCell (zw p 2) (.slice (zo vg) (D.mem.length+1) vc)).heap.size]?=((w2.setCell (zw p 2) (.slice (zo vg) (D.mem.length+1) vc)).alloc (.cells (aL l) 308)).heap[(w2.setCell (zw p 2) (.slice (zo vg) (D.mem.length+1) vc)).heap.size]?:=Pk.grown.block _ (by show _<(World.alloc _ _).heap.size;rw[size_alloc];omega) (fun e=>by have:=zOi e;rw[hz3]at this;omega);have rg5:=fun j v hv=>(qAJ (a:=⟨(w2.setCell (zw p 2) (.slice (zo vg) (D.mem.length+1) vc)).heap.size,0+j,none⟩) il).trans (hrg j v hv)
 have hs5:=(Pk.grown.block sb (by show sb<(World.alloc _ _).heap.size;rw[size_alloc,hz3];omega) (fun e=>h.nsm.symm (zOi e))).trans ((qAb _ _ (by rw[hz3];omega)).trans xF);have ho5:=bJ xi (fun g hg=>by have aB:=(xi.lt g hg).2;exact(Pk.grown.block g (by show g<(World.alloc _ _).heap.size;rw[size_alloc];omega) (fun e=>hvm VV)).trans (qAb _ _ aB));have ht6:=vM.trans ((au.drew S _).trans (au.map Pk h.O4));have kP:=h.zgq HC hi ⟨hl,hb.1⟩ hp5 hs5 hm5 ho5 ht6.size Ji;have HF:=ae kP;have HT6:=ae ht6;rw[hz3]at l9 hrg rg5;have hu:=underlying308;have fu:(prog.info? 308).map (·.size)=some (l.map (Value.int .u8)).length:=by rw[zLm,hl];exact vk
 have hll:(l.map (Value.int .u8)).length=32:=by rw[zLm,hl]
 have hon:=ed l;go_wp2_with fail
 go_region_held3 (fun w'=>w'.cell? (zw p 1)=some (.map (some bm))/\w'.rangeAt w2.heap.size 0 (l.map (Value.int .u8))) (first | go_keep_ranges | exact⟨c15,rg5⟩) (fail)
 go_end0
 exact⟨rfl,(Value.slice (zo vg) (D.mem.length+1) vc),_,HF.1,HT6.os,HT6.tape,HT6.output,HT6.size,HT6.block,HF.2⟩
end
section
variable {w:World} {p:Nat} {S:Nat->Prop} {D:DS}
theorem KE i a cap l(h:bU w p sb bm pv S D)(hi:i<D.secs.length)(hb:Bs w a cap l)(hl:l.length=32)(hn:∀x,a=some x->¬S x.block) :
  zC 165 #[zq p,zi i,.slice a 32 cap] w (zr (.tuple #[]) fun w'=>(∃pv' S',bU w' p sb bm pv' S' (D.put i l)/\au S S' w w')):=by
 cases hc:D.mem.lookup i with
 | none=>exact KD i a cap l h hi hb hl hn hc
 | some c=>exact KC i a cap l h hi hb hl hn c hc
theorem Xj i a cap l(h:td w p S D)(hb:Bs w a cap l)(hn:l≠[]->∀x,a=some x->¬S x.block) :
  zC 117 #[zq p,zi i,.slice a l.length cap] w (zr (bc (D.bN i l)) fun w'=>(∃S',td w' p S' (D.write i l)/\au S S' w w')):=by
 obtain⟨sb,bm,pv,h⟩:=h;have hlen:=hb.2.2.1;have c4:=h.c4;have iR:=Az i h;unfold DS.bN DS.write;by_cases h1:i<0\/(D.secs.length:Int)<=i
 ·rw[zy h1,zy (by rcases h1 with h1 | h1;exact .inl h1;exact .inr (.inl h1))];have hf:hasB D.secs.length i=false:=qAG Sg;rw[hf]at iR;have H:=ae h;have HH:=ae iR;clear h iR h1 hf c4;exact wM
 ·rw[zn h1];have hf:hasB D.secs.length i=true:=qAE Sg;rw[hf]at iR;obtain⟨k,rfl⟩:∃k:Nat,i=k:=⟨i.toNat,Sg⟩;have hk:k<D.secs.length:=by omega
  have HH:=ae iR;by_cases h2:l.length≠32
  ·rw[zy h2,zy (.inr (.inr (.inl h2)))];have my:¬(l.length:Int)=32:=by omega
   have H:=ae h;clear h iR h1 hf c4 h2;exact wM
  ·rw[zn h2];have my:=qAM h2;by_cases h3:D.down=true
   ·rw[zy h3,zy (.inr (.inr (.inr h3)))];rw[h3]at c4;have H:=ae h;rw[my];exact wM
   ·have Rt:D.down=false:=by simpa using h3
    have Wm:¬((k:Int)<0\/(D.secs.length:Int)<=(k:Int)\/l.length≠32\/D.down=true):=by
     rintro (h4|h4|h4|h4)
     ·omega
     ·omega
     ·exact h4 my
     ·exact h3 h4
    rw[zn h3,zn Wm];rw[Rt]at c4;have hr:=KE k a cap l h hk hb my (hn (by intro e;rw[e]at my;cases my));have HR:=ae hr;obtain⟨E,hE⟩:∃E:Int,(if D.left=0 then (9:Int)else 0)=E:=⟨_,rfl⟩;have eF:∀w1 pv' S',bU w1 p sb bm pv' S' (D.put k l)->zC 166 #[zq p] w1 (zr (bc E) fun w'=>bU w' p sb bm pv' S' (D.put k l).step/\au S' S' w1 w'):=by intro w1 pv' S' h';rw[<-hE];exact D4 h'
    have fP:=ae eF;rw[hE];rw[my];go_enter func117,ntmps117
    go_wp2_with fail
    refine HH.m ?_;rintro w1 rfl;go_wp2_with fail
    refine HR.m ?_;rintro w1 ⟨pv',S',h',ht⟩;go_wp2_with fail
    refine(fP w1 pv' S' h').m ?_;rintro w2 ⟨h'',ht'⟩;go_wp2;go_ret;exact⟨rfl,S',⟨sb,bm,pv',h''⟩,ht.trans ht'⟩
theorem xN{s:LI}(hs:kC s)(hb:kC b):b.take 32++s.drop 32=b:=by rw[qAP (by rw[hb.1];exact zNr),qAr (by rw[hs.1];exact zNr),qAh]
theorem zd0(h:bU w p sb bm pv S D)(h1:D.down=false)(h2:¬D.left=0) :
  zC 118 #[zq p] w (zr .nilIface fun w'=>(∃S',td w' p S' D.step.flush/\au S S' w w')):=by
 have c4:=h.c4;rw[h1]at c4;have eF:=D4 h;rw[zn h2]at eF;have HS:=ae eF;have jB:=h.ok;go_enter func118,ntmps118
 go_wp2_with fail
 refine HS.m ?_;rintro w1 ⟨h',ht⟩;rw[aC];have c2:=h'.c2;have H:=ae h';have HT:=ae ht;have tM:=h'.ok.ki;rcases h'.vy with ⟨rfl,ry⟩|⟨g,cap,rfl,ma,Rr,bf⟩
 ·have lF:D.step.flush={ D.step with mem:=[]}:=by unfold DS.flush;rw[ry];rfl
  go_wp2_with fail
  go_loop [21] (fun v=>v=zi 0) (fun _=>0)
  case atStart=>rfl
  case round =>
   subst hrel;go_wp2_with fail
   refine(mV H).m ?_;rintro w2 ⟨my,gw⟩;go_wp2;go_ret;exact⟨rfl,S,⟨sb,bm,_,by rw[lF];exact my⟩,HT.trans gw⟩
 ·unfold maxLen at Rr;go_wp2_with fail
  go_loopw [21] (fun v wr=>∃k:Nat,k<=D.step.mem.length/\v=zi k/\bU wr p sb bm (.slice (zo g) D.step.mem.length cap) S { D.step with secs:=flushK D.step.secs D.step.mem k }/\au S S w wr) (fun v _=>D.step.mem.length-(intOf v).toNat)
  case atStart=>exact⟨0,qAH _,rfl,H,HT⟩
  case round =>
   obtain⟨k,hk,rfl,hd,o4⟩:=hrel;by_cases aB:k<D.step.mem.length
   ·obtain⟨ky,bd,uk⟩:∃ky bd,D.step.mem.getD k (0,[])=(ky,bd):=⟨_,_,rfl⟩;have hpc:=hd.wV k aB;have sh:D.step.mem.getD k (0,[])∈D.step.mem:=jN aB;have Ct:=xf hd.ok.apart aB;have jS:flushK D.step.secs D.step.mem (k+1)=(flushK D.step.secs D.step.mem k).set (D.step.mem.getD k (0,[])).1 (D.step.mem.getD k (0,[])).2:=rfl;simp only[uk]at hpc sh Ct jS;have hq:=hd.ok.mem _ sh;have Jt:=xA ky 32 bd hd hq.1 zNr Ct;have dL:flushK D.step.secs D.step.mem (k+1)=(flushK D.step.secs D.step.mem k).set ky (bd.take 32++((flushK D.step.secs D.step.mem k).getD ky []).drop 32):=by rw[xN (cZ hd.ok.sec hq.1) hq.2];exact jS
    have HB:=ae Jt;have HS:=ae dL;have Ht:=ae o4;exact lQ
   ·obtain rfl:k=D.step.mem.length:=by omega
    go_wp2_with fail
    refine(mV hd).m ?_;rintro w2 ⟨my,gw⟩;go_wp2;go_ret;exact⟨rfl,S,⟨sb,bm,_,my⟩,o4.trans gw⟩
theorem Z0(h:td w p S D) :
  zC 118 #[zq p] w (zr (bc D.cG) fun w'=>(∃S',td w' p S' D.ba/\au S S' w w')):=by
 obtain⟨sb,bm,pv,h⟩:=h;unfold DS.cG DS.ba;by_cases h1:D.down=true
 ·rw[zy h1,zy h1];have c4:=h.c4;rw[h1]at c4;have H:=ae h;go_enter func118,ntmps118
  go_wp2;go_ret;exact⟨rfl,S,⟨sb,bm,pv,H⟩,au.refl _ _⟩
 ·rw[zn h1,zn h1];have vS:D.down=false:=by simpa using h1
  by_cases h2:D.left=0
  ·rw[zy h2,zy h2];have c4:=h.c4;rw[vS]at c4;have eF:=D4 h;rw[zy h2]at eF;have he:D.step={ D with down:=true }:=by unfold DS.step;rw[zy h2]
   rw[he]at eF;have HS:=ae eF;go_enter func118,ntmps118
   go_wp2_with fail
   refine HS.m ?_;rintro w1 ⟨h',ht⟩;rw[aF 9 Si];go_wp2;go_ret;exact⟨rfl,S,⟨sb,bm,pv,h'⟩,ht⟩
  ·rw[zn h2,zn h2];exact zd0 h vS h2
end
def Bls(w:World)(a:OA)(cap:Nat)(l:List Bool):Prop :=l.length<=cap/\l.length<=140737488351232/\(l≠[]->∃b off,a=some ⟨b,off,none⟩/\∀i,i<l.length->w.cell? ⟨b,off+i,none⟩=some (.bool (l.getD i false)))
def jW(c:Int):Nat:=(min (max c 0) 32).toNat
theorem WN c:jW c<=32:=by unfold jW;omega
theorem WO c:min (max c 0) 32=(jW c:Int):=by unfold jW;omega
theorem jd(l:List (LI)) i:l.set i (l.getD i [])=l:=by
 by_cases h:i<l.length
 ·have:l.getD i []=l[i]:=by simp[List.getD,h]
  rw[this];exact List.set_getElem_self h
 ·exact List.set_eq_of_length_le Sg
section
variable {w:World} {p:Nat} {S:Nat->Prop} {D:DS}
theorem wk{secs}{mem} keep aZ cut k ky bd(h:mem.getD k (0,[])=(ky,bd)) :
  dA secs mem keep aZ cut (k+1)=(dA secs mem keep aZ cut k).set ky (one keep aZ cut k ((dA secs mem keep aZ cut k).getD ky []) bd):=by
 show(dA secs mem keep aZ cut k).set (mem.getD k (0,[])).1 (one keep aZ cut k ((dA secs mem keep aZ cut k).getD (mem.getD k (0,[])).1 []) (mem.getD k (0,[])).2)=_
 rw[h]
theorem UC b off cap keep aZ cut(h:bU w p sb bm pv S D)(hk:keep.length<=140737488351232)(hc:∀i,i<keep.length->w.cell? ⟨b,off+i,none⟩=some (.bool (keep.getD i false)))(hn:¬S b) :
  zC 156 #[zq p,.slice (some ⟨b,off,none⟩) keep.length cap,zi aZ,zi cut] w fun e w'=>e=.returned (zi D.mem.length)/\(∃S',td w' p S' (D.bX keep aZ (jW cut))/\au S S' w w'):=by
 have c2:=h.c2;have tM:=h.ok.ki;have H:=ae h;obtain⟨m,hm⟩:∃m:Int,(if cut<0 then (0:Int)else cut)=m:=⟨_,rfl⟩;have kz:(if 32<m then (32:Int)else m)=(jW cut:Int):=by rw[<-WO,<-hm];omega
 have zkS:=WN cut;generalize jW cut=c at*;rcases h.vy with ⟨rfl,ry⟩|⟨g,pc,rfl,ma,Rr,bf⟩
 ·have He:D.bX keep aZ c={ D with mem:=[],down:=false,left:=-1 }:=by unfold DS.bX;rw[ry];rfl
  have oz:D.mem.length=0:=by rw[ry];rfl
  have RI:=ae He;have HL0:=ae oz;go_enter func156,ntmps156
  go_wp2_with fail
  go_loop [20] (fun v=>v=zi 0) (fun _=>0)
  case atStart=>rfl
  case round =>
   subst hrel;go_wp2_with fail
   refine(mV H).mono ?_;rintro e w2 ⟨rfl,h2,gw⟩;have c4:=h2.c4;have f4:=h2.fr 4;have h3:=h2.zh false;have c3:=h3.c3;have f3:=h3.fr 3;have h4:=h3.wN (-1) Si;have H4:=ae h4;have HI:=ae h2.mq;go_wp2;go_ret;exact⟨by rw[aa HL0];rfl,S,⟨sb,bm,_,by rw[aa RI];exact H4⟩,gw.trans ((au.setCell _ _ HI).trans (au.setCell _ _ HI))⟩
 ·unfold maxLen at Rr;have Ha:0<keep.length->b<w.heap.size:=fun h0=>qAA (hc 0 h0)
  go_enter func156,ntmps156
  go_wp2_with fail
  go_loopw [20] (fun v wr=>∃k:Nat,k<=D.mem.length/\v=zi k/\bU wr p sb bm (.slice (some (zp g)) D.mem.length pc) S { D with secs:=dA D.secs D.mem keep aZ c k }/\au S S w wr) (fun v _=>D.mem.length-(intOf v).toNat)
  case atStart=>exact⟨0,qAH _,rfl,H,au.refl _ _⟩
  case round =>
   obtain⟨k,tP,rfl,hd,o4⟩:=hrel;clear hm kz c2;by_cases aB:k<D.mem.length
   ·obtain⟨ky,bd,uk⟩:∃ky bd,D.mem.getD k (0,[])=(ky,bd):=⟨_,_,rfl⟩;have hpc:=hd.wV k aB;have sh:D.mem.getD k (0,[])∈D.mem:=jN aB;have Ct:=xf hd.ok.apart aB;have jS:=wk (secs:=D.secs) keep aZ c k ky bd uk;simp only[uk]at hpc sh Ct;have hq:=hd.ok.mem _ sh;by_cases h1:(k:Int)=aZ
    ·have iB:∀s,one keep aZ c k s bd=bd.take c++s.drop c:=fun s=>by unfold one;rw[zy h1];rfl
     rw[iB]at jS;have Jt:=xA ky c bd hd hq.1 zkS Ct;have HB:=ae Jt;have HS:=ae jS;have Ht:=ae o4;clear Jt jS o4 hd sh Ct hq uk H iB hc;subst h1;go_wp2_with fail
     refine HB.mono ?_;rintro e w2 ⟨rfl,Wl,gw⟩;go_wp2;go_roundw
     case rel=>exact⟨k+1,Sg,Tc,by rw[aa HS];exact Wl,Ht.trans gw⟩
     case measure=>exact Te
    ·by_cases h2:k<keep.length
     ·have hkc:wr.cell? ⟨b,off+k,none⟩=some (.bool (keep.getD k false)):=(qAJ (a:=⟨b,off+k,none⟩) (o4.block b (Ha Sg) hn)).trans (hc k h2);have my:(k:Int)<(keep.length:Int):=by omega
      by_cases h3:keep.getD k false=true
      ·have iB:∀s,one keep aZ c k s bd=bd:=fun s=>by unfold one;rw[zn h1,zy h3]
       rw[iB]at jS;rw[h3]at hkc;have Jt:=xA ky 32 bd hd hq.1 zNr Ct;rw[xN (cZ hd.ok.sec hq.1) hq.2]at Jt;have HB:=ae Jt;have HS:=ae jS;have Ht:=ae o4;clear Jt jS o4 hd sh Ct hq uk H iB hc h3;go_wp2_with fail
       refine HB.mono ?_;rintro e w2 ⟨rfl,Wl,gw⟩;go_wp2;go_roundw
       case rel=>exact⟨k+1,Sg,Tc,by rw[aa HS];exact Wl,Ht.trans gw⟩
       case measure=>exact Te
      ·have Rt:keep.getD k false=false:=by simpa using h3
       have iB:∀s,one keep aZ c k s bd=s:=fun s=>by unfold one;rw[zn h1,zn h3]
       rw[iB,jd]at jS;rw[Rt]at hkc;have HS:=ae jS;have Ht:=ae o4;have HD:=ae hd;clear jS o4 hd sh Ct hq uk H iB hc h3 Rt;go_wp2;go_roundw
       case rel=>exact⟨k+1,Sg,Tc,by rw[aa HS];exact HD,Ht⟩
       case measure=>exact Te
     ·have Rt:keep.getD k false=false:=by simp[List.getD,qAY (by omega:keep.length<=k)]
      have my:¬(k:Int)<(keep.length:Int):=Sg
      have iB:∀s,one keep aZ c k s bd=s:=fun s=>zpI
      rw[iB,jd]at jS;have HS:=ae jS;have Ht:=ae o4;have HD:=ae hd;clear jS o4 hd sh Ct hq uk H iB hc Rt;go_wp2;go_roundw
      case rel=>exact⟨k+1,Sg,Tc,by rw[aa HS];exact HD,Ht⟩
      case measure=>exact Te
   ·obtain rfl:k=D.mem.length:=by omega
    have c2':=hd.c2;clear H hc;go_wp2_with fail
    refine(mV hd).mono ?_;rintro e w2 ⟨rfl,h2,gw⟩;have c4:=h2.c4;have f4:=h2.fr 4;have h3:=h2.zh false;have c3:=h3.c3;have f3:=h3.fr 3;have h4:=h3.wN (-1) Si;have H4:=ae h4;have HI:=ae h2.mq;clear h2 h3 h4 hd;go_wp2;go_ret;exact⟨rfl,S,⟨sb,bm,_,H4⟩,o4.trans (gw.trans ((au.setCell _ _ HI).trans (au.setCell _ _ HI)))⟩
theorem zak a cap aZ cut(h:bU w p sb bm pv S D) :
  zC 156 #[zq p,.slice a 0 cap,zi aZ,zi cut] w fun e w'=>e=.returned (zi D.mem.length)/\(∃S',td w' p S' (D.bX ([]:List Bool) aZ (jW cut))/\au S S' w w'):=by
 have c2:=h.c2;have tM:=h.ok.ki;have H:=ae h;obtain⟨m,hm⟩:∃m:Int,(if cut<0 then (0:Int)else cut)=m:=⟨_,rfl⟩;have kz:(if 32<m then (32:Int)else m)=(jW cut:Int):=by rw[<-WO,<-hm];omega
 have zkS:=WN cut;generalize jW cut=c at*;rcases h.vy with ⟨rfl,ry⟩|⟨g,pc,rfl,ma,Rr,bf⟩
 ·have He:D.bX ([]:List Bool) aZ c={ D with mem:=[],down:=false,left:=-1 }:=by unfold DS.bX;rw[ry];rfl
  have oz:D.mem.length=0:=by rw[ry];rfl
  have RI:=ae He;have HL0:=ae oz;go_enter func156,ntmps156
  go_wp2_with fail
  go_loop [20] (fun v=>v=zi 0) (fun _=>0)
  case atStart=>rfl
  case round =>
   subst hrel;go_wp2_with fail
   refine(mV H).mono ?_;rintro e w2 ⟨rfl,h2,gw⟩;have c4:=h2.c4;have f4:=h2.fr 4;have h3:=h2.zh false;have c3:=h3.c3;have f3:=h3.fr 3;have h4:=h3.wN (-1) Si;have H4:=ae h4;have HI:=ae h2.mq;go_wp2;go_ret;exact⟨by rw[aa HL0];rfl,S,⟨sb,bm,_,by rw[aa RI];exact H4⟩,gw.trans ((au.setCell _ _ HI).trans (au.setCell _ _ HI))⟩
 ·clear h bf;unfold maxLen at Rr;go_enter func156,ntmps156
  go_wp2_with fail
  go_loopw [20] (fun v wr=>∃k:Nat,k<=D.mem.length/\v=zi k/\bU wr p sb bm (.slice (some (zp g)) D.mem.length pc) S { D with secs:=dA D.secs D.mem ([]:List Bool) aZ c k }/\au S S w wr) (fun v _=>D.mem.length-(intOf v).toNat)
  case atStart=>exact⟨0,qAH _,rfl,H,au.refl _ _⟩
  case round =>
   obtain⟨k,tP,rfl,hd,o4⟩:=hrel;clear hm kz c2;by_cases aB:k<D.mem.length
   ·obtain⟨ky,bd,uk⟩:∃ky bd,D.mem.getD k (0,[])=(ky,bd):=⟨_,_,rfl⟩;have hpc:=hd.wV k aB;have sh:D.mem.getD k (0,[])∈D.mem:=jN aB;have Ct:=xf hd.ok.apart aB;have jS:=wk (secs:=D.secs) ([]:List Bool) aZ c k ky bd uk;simp only[uk]at hpc sh Ct;have hq:=hd.ok.mem _ sh;by_cases h1:(k:Int)=aZ
    ·have iB:∀s,one ([]:List Bool) aZ c k s bd=bd.take c++s.drop c:=fun s=>by unfold one;rw[zy h1];rfl
     rw[iB]at jS;have Jt:=xA ky c bd hd hq.1 zkS Ct;have HB:=ae Jt;have HS:=ae jS;have Ht:=ae o4;clear Jt jS o4 hd sh Ct hq uk H iB;subst h1;go_wp2_with fail
     refine HB.mono ?_;rintro e w2 ⟨rfl,Wl,gw⟩;go_wp2;go_roundw
     case rel=>exact⟨k+1,Sg,Tc,by rw[aa HS];exact Wl,Ht.trans gw⟩
     case measure=>exact Te
    ·have Rt:([]:List Bool).getD k false=false:=rfl;have my:¬(k:Int)<0:=by omega
     have iB:∀s,one ([]:List Bool) aZ c k s bd=s:=fun s=>zpI
     rw[iB,jd]at jS;have HS:=ae jS;have Ht:=ae o4;have HD:=ae hd;clear jS o4 hd sh Ct hq uk H iB Rt;go_wp2;go_roundw
     case rel=>exact⟨k+1,Sg,Tc,by rw[aa HS];exact HD,Ht⟩
     case measure=>exact Te
   ·obtain rfl:k=D.mem.length:=by omega
    have c2':=hd.c2;clear H;go_wp2_with fail
    refine(mV hd).mono ?_;rintro e w2 ⟨rfl,h2,gw⟩;have c4:=h2.c4;have f4:=h2.fr 4;have h3:=h2.zh false;have c3:=h3.c3;have f3:=h3.fr 3;have h4:=h3.wN (-1) Si;have H4:=ae h4;have HI:=ae h2.mq;clear h2 h3 h4 hd;go_wp2;go_ret;exact⟨rfl,S,⟨sb,bm,_,H4⟩,o4.trans (gw.trans ((au.setCell _ _ HI).trans (au.setCell _ _ HI)))⟩
theorem zal a cap keep aZ cut(h:td w p S D)(hb:Bls w a cap keep)(hn:keep≠[]->∀x,a=some x->¬S x.block) :
  zC 156 #[zq p,.slice a keep.length cap,zi aZ,zi cut] w (zr (zi D.mem.length) fun w'=>(∃S',td w' p S' (D.bX keep aZ (jW cut))/\au S S' w w')):=by
 obtain⟨sb,bm,pv,h⟩:=h;by_cases h0:keep=[]
 ·subst h0;exact zak a cap aZ cut h
 ·obtain⟨b,off,rfl,hc⟩:=hb.2.2 h0;exact UC b off cap keep aZ cut h hb.2.1 hc (hn h0 _ rfl)
end
theorem Ze:(prog.info? 308).map (fun i=>(i.zero,i.size,i.bytes))=some (some (sv (af 32)),32,32):=SQ
theorem IF off l(hl:l.length=32)(h:kY w g t z)(hz:(z.drop off).take 32=l):w.rangeAt g off (l.map (Value.int .u8)):=by
 intro j v hv;have hj:j<32:=by
  rcases qBT j 32 with h1|h1
  ·exact h1
  ·rw[qAY (by rw[zLm,hl];exact h1)]at hv;cases hv
 have h3:off+j<z.length:=by
  have:((z.drop off).take 32).length=32:=by rw[hz];exact hl
  simp at this;omega
 have h2:(aL l)[j]?=some v:=by simpa[aL]using hv
 rw[qX l j Sg]at h2;rw[h.cell _ h3,<-h2,<-hz];exact zay
section
variable {w:World} {p:Nat} {S:Nat->Prop} {D:DS}
theorem Ld(h:td w p S D) :
  zC 71 #[zq p] w (zr (zi D.secs.length) fun w'=>w=w'):=by
 obtain⟨sb,bm,pv,h⟩:=h;have c0:=h.c0;have hl:=h.ok.len;go_enter func71,ntmps71
 exact Tt
theorem VB i(h:td w p S D)(he:D.ue i≠0) :
  zC 269 #[zq p,zi i] w (zr (.tuple #[.slice none 0 0,bc (D.ue i)]) fun w'=>w=w'):=by
 obtain⟨sb,bm,pv,h⟩:=h;have c4:=h.c4;have iR:=Az i h;unfold DS.ue at*;by_cases h1:i<0\/(D.secs.length:Int)<=i
 ·rw[zy h1];have hf:hasB D.secs.length i=false:=qAG Sg;rw[hf]at iR;have HH:=ae iR;exact MZ
 ·rw[zn h1]at he ⊢;have hf:hasB D.secs.length i=true:=qAE Sg;rw[hf]at iR;by_cases h3:D.down=true
  ·rw[zy h3];rw[h3]at c4;have HH:=ae iR;clear h iR h1 hf he;exact MZ
  ·rw[zn h3]at he;exact absurd rfl he
theorem zb1 i(h:bU w p sb bm pv S D)(hi:i<D.secs.length)(hd:D.down=false) c(hc:D.mem.lookup i=some c) :
  zC 269 #[zq p,zi i] w fun e w'=>∃g,e=zt #[.slice (zo g) 32 32,.nilIface]/\w.heap.size<=g/\gz w' g (D.rd i)/\zB w w':=by
 have hlen:=h.ok.len;have c1:=h.c1;have c4:=h.c4;rw[hd]at c4;have iR:=Az (i:Int) h;have hf:hasB D.secs.length i=true:=qAE Sg;rw[hf]at iR;have lC:=(h.ok.mem _ (gQ hc)).2;have cN:=h.mem.look (E:=308) underlying3 underlying149 (uX w) true (i:=i) Sg;have CZ:tG D.mem i=c:=zgZ;rw[CZ,hc]at cN;simp only[if_true,qDB]at cN;unfold sv at cN;have qx:D.rd i=c:=by unfold DS.rd;rw[hc];rfl
 rw[qx];have bW:(aL c).size=32:=by rw[cf];exact lC.1
 have eF:=rP w c lC.1;have aH:Bs (w.alloc (.cells (aL c) 308)) (some (zp w.heap.size)) 32 c:=zpz;have l9:=fun w1 h5 h6=>zpA
 obtain⟨i0,dU,cO,cU,cV⟩:=qAO dw;have HH:=ae iR;have HB:=ae aH;go_enter func269,ntmps269
 go_wp2_with fail
 refine HH.m ?_;rintro w1 rfl;go_wp2_with (at_make;refine bV rfl _ _ 29 rfl i0 underlying29 dU cO cU cV _ _ _ _ 32 rfl rfl rfl rfl Sg ?_)
 exact zpL
theorem zb0 i(h:bU w p sb bm pv S D)(hi:i<D.secs.length)(hd:D.down=false)(hc:D.mem.lookup i=none) :
  zC 269 #[zq p,zi i] w fun e w'=>∃g,e=zt #[.slice (zo g) 32 32,.nilIface]/\w.heap.size<=g/\gz w' g (D.rd i)/\zB w w':=by
 have hlen:=h.ok.len;have c1:=h.c1;have c4:=h.c4;rw[hd]at c4;have iR:=Az (i:Int) h;have hf:hasB D.secs.length i=true:=qAE Sg;rw[hf]at iR;have cN:=h.mem.look (E:=308) underlying3 underlying149 (uX w) true (i:=i) Sg;have CZ:tG D.mem i=af 32:=zgZ;rw[CZ,hc]at cN;simp only[if_true,qDA]at cN;unfold sv at cN;generalize hzz:af 32=zz at cN;have vK:zz.length=32:=by rw[<-hzz];exact ag 32
 have bW:(aL zz).size=32:=by rw[cf];exact vK
 have eF:=rP w zz vK;have qx:D.rd i=D.secs.getD i []:=by unfold DS.rd;rw[hc];rfl
 rw[qx];obtain⟨c,Gy⟩:∃c,D.secs.getD i []=c:=⟨_,rfl⟩;have lC:kC c:=by rw[<-Gy];exact cZ h.ok.sec hi
 have h1:=h.alloc (.cells (aL zz) 308);have c0:=h1.c0;have zdv:∀s∈D.secs,s.length=32:=fun s hs=>(h.ok.sec s hs).1
 have hrg:(w.alloc (.cells (aL zz) 308)).rangeAt sb (i*32) (c.map (Value.int .u8)):=IF (i*32) c lC.1 h1.sec (by rw[BW _ _ zdv hi,Gy]);have hu:=underlying308;have fu:(prog.info? 308).map (·.size)=some (c.map (Value.int .u8)).length:=by rw[zLm,lC.1];exact vk
 have kS:=lC.1;have xE:(storeCells (zp w.heap.size) (c.map (Value.int .u8)) 0).run prog (w.alloc (.cells (aL zz) 308))=.ok () (w.alloc (.cells (aL c) 308)) :=run_storeCells_new w 308 (aL zz) (aL c) (by rw[cf,lC.1];exact vk) (by rw[cf,cf,lC.1,vK]) (lD c);rw[Gy];have aH:Bs (w.alloc (.cells (aL c) 308)) (some (zp w.heap.size)) 32 c:=zpz;have l9:=fun w1 h5 h6=>zpA
 obtain⟨i0,dU,cO,cU,cV⟩:=qAO dw;have HH:=ae iR;have HB:=ae aH;go_enter func269,ntmps269
 go_wp2_with fail
 refine HH.m ?_;rintro w1 rfl;go_wp2_with (first|(refine wpList_load_mid rfl 308 (.tmp 35) rfl sb (i*32) rfl (c.map (Value.int .u8)) _ hrg hu rfl fu ?_)|(at_make;refine bV rfl _ _ 29 rfl i0 underlying29 dU cO cU cV _ _ _ _ 32 rfl rfl rfl rfl Sg ?_))
 exact zpL
theorem NS i(h:td w p S D)(hi:i<D.secs.length)(hd:D.down=false) :
  zC 269 #[zq p,zi i] w fun e w'=>∃g,e=zt #[.slice (zo g) 32 32,.nilIface]/\w.heap.size<=g/\gz w' g (D.rd i)/\zB w w':=by
 obtain⟨sb,bm,pv,h⟩:=h;cases hc:D.mem.lookup i with
 | none=>exact zb0 i h hi hd hc
 | some c=>exact zb1 i h hi hd c hc
theorem Fy n:(List.replicate n (List.replicate 32 (0:Int))).flatten=af (n*32):=by
 induction n with
 | zero=>rfl
 | succ n ih =>rw[List.replicate_succ,List.flatten_cons,ih];unfold af;rw[show(n+1)*32=32+n*32 from Sg,List.replicate_append_replicate]
theorem B8 n i:(af n).getD i 0=0:=by unfold af;rw[qAC,qBx];split <;> rfl
theorem zfs j(hj:j<32):(aL (af 32))[j]! = .int .u8 0:=by
 have h:(aL (af 32))[j]?=some (.int .u8 0):=by rw[qX _ _ (by rw[ag];exact hj),B8]
 rw[getElem!_def,h]
theorem YX n:madeCells (sv (af 32)).cells (n*32)=aL (af (n*32)):=by
 have hz:(sv (af 32)).cells=aL (af 32):=rfl;rw[hz];unfold madeCells;apply Array.ext
 ·rw[Array.size_map,Array.size_range,cf,ag]
 ·intro i h1 h2;have h3:i<n*32:=by rwa[cf,ag]at h2
  have h4:=qX (af (n*32)) i (by rw[ag];exact h3);rw[qBX h2,B8]at h4;rw[zOi h4,Array.getElem_map,Array.getElem_range,cf,ag,zfs _ (Nat.mod_lt _ Si)]
theorem rM(hg:o.guard=none) l c(t e:TypeId)(sW:o.op=Op.makeSlice t l c)(i:TypeInfo)(h1:P.underlying t=some (.slice e))(h2:P.info? e=some i)(h3:i.zero=some (sv (af 32)))(h4:i.size=32)(h5:i.bytes=32) kl kc L C(n:Nat)(hl:a.eval l=.int kl L)(hc:a.eval c=.int kc C)(hL:L=(n:Int))(hC:C=(n:Int))(b2:n<=300)(hK:wpList P ops Q rest (a.put o.dst (.slice (some (zp w.heap.size)) n n)) (w.alloc (.cells (aL (af (n*32))) e))) :
  wpList P ops Q (o::rest) a w:=by
 refine wpList_plain hg fun K hK'=>?_
 have cF:=run_make (P:=P) w t e i _ h1 h2 h3 kl kc n n Sg Sg Xu Sg;subst hL;subst hC;rw[h4,YX]at cF;exact zpB
theorem zgE(n:Nat) w(h1:1<=n)(h2:n<=300) :
  zC 43 #[zi n] w fun e w'=>∃p S,e=zt #[zq p,.nilIface]/\td w' p S (DS.new n)/\(∀k,S k->w.heap.size<=k)/\zB w w':=by
 have e2:¬300<(n:Int):=Sg;have Jg:=@run_makeMap prog;obtain⟨i0,dU,cO,cU,cV⟩:=qAO Ze;go_enter func43,ntmps43
 go_wp2_with (at_make;refine rM rfl _ _ 148 308 rfl i0 underlying148 dU cO cU cV _ _ _ _ n rfl rfl rfl rfl h2 ?_)
 go_ret2;refine⟨w.heap.size+1+1,rfl,fun k=>w.heap.size<=k/\k<w.heap.size+3,⟨w.heap.size,w.heap.size+1,.slice none 0 0,?_⟩,fun k hk=>hk.1,?_⟩
 ·have hn:(List.replicate n (List.replicate 32 (0:Int))).length=n:=by simp
  have hA:((w.alloc (.cells (aL (af (n*32))) 308)).alloc (.map #[] 0)).heap.size=w.heap.size+1+1:=Sk;refine⟨DS.KU n h2,?_,?_,?_,qBp _ _ _ _,⟨Sg,Sg⟩,⟨Sg,Sg⟩,⟨Sg,Sg⟩,fun g hg=>Zl,fun k hk=>(by have h9:=hk.2;simp;omega),Sg,fun e=>TB,fun e=>TB⟩
  ·have:=qAB ((w.alloc (.cells (aL (af (n*32))) 308)).alloc (.map #[] 0)) (.cells (dW w.heap.size n (w.heap.size+1) (.slice none 0 0) (-1) false) 151);rw[hA]at this
   show _=some (Obj.cells (dW w.heap.size (List.replicate n (List.replicate 32 (0:Int))).length (w.heap.size+1) (.slice none 0 0) (-1) false) _ _)
   rw[hn];exact this
  ·show kY _ _ _ (List.replicate n (List.replicate 32 (0:Int))).flatten
   rw[Fy];exact((zu w (af (n*32)) 308).same (qAb _ _ Sk)).same (qAb _ _ Tb)
  ·have:=Tx (P:=prog) (K:=3) (w.alloc (.cells (aL (af (n*32))) 308));rw[size_alloc]at this;exact this.same (qAb _ _ Sk)
 ·exact((zBr.alloc zNr _).alloc Sk _).alloc Tb _
end
def gE(l:LI):Array Value:=(l.map (Value.int .i64)).toArray
def uH(w:World)(g:Nat)(l:LI):Prop:=w.heap[g]?=some (.cells (gE l) 3 (0,0))
def p9(m:List (Nat×LI)):LI:=m.map fun q=>(q.1:Int)
theorem zT m:(p9 m).length=m.length:=by simp[p9]
theorem TC n:madeCells (Value.int .i64 0).cells n=gE (af n):=by
 apply Array.ext
 ·simp[madeCells,af,gE]
 ·intro i h1 h2;simp[madeCells,af,gE,Value.cells,Nat.mod_one]
theorem rN(hg:o.guard=none) l c(t:TypeId)(sW:o.op=Op.makeSlice t l c)(i:TypeInfo)(h1:P.underlying t=some (.slice 3))(h2:P.info? 3=some i)(h3:i.zero=some (zi 0))(h4:i.size=1)(h5:i.bytes=8) kl kc L C(n:Nat)(hl:a.eval l=.int kl L)(hc:a.eval c=.int kc C)(hL:L=(n:Int))(hC:C=(n:Int))(b2:n<=281474976)(hK:wpList P ops Q rest (a.put o.dst (.slice (some (zp w.heap.size)) n n)) (w.alloc (.cells (gE (af n)) 3))) :
  wpList P ops Q (o::rest) a w:=by
 refine wpList_plain hg fun K hK'=>?_
 have cF:=run_make (P:=P) w t 3 i _ h1 h2 h3 kl kc n n Sg Sg Xu Sg;subst hL;subst hC;rw[h4,qCN,TC]at cF;exact zpB
structure Live (w0 w:World) (p:Nat) (S:Nat->Prop) (D:DS):Prop where
 dev:td w p S D
 F7:zB w0 w
 base:∀k,S k->w0.heap.size<=k
section
variable {w0 w w':World} {p:Nat} {S S':Nat->Prop} {D D':DS}
theorem Live.cQ(h:Live w0 w p S D)(hd:td w' p S' D')(ht:au S S' w w'):Live w0 w' p S' D' :=
 ⟨hd,h.F7.trans (ht.below h.base h.F7.size),fun k hk=>by
  rcases qBT k w.heap.size with h1|h1
  ·exact h.base k (ht.bA k h1 hk)
  ·exact qAF h.F7.size h1⟩
theorem Live.below(h:Live w0 w p S D)(hb:zB w w'):Live w0 w' p S D:=⟨h.dev.below hb,h.F7.trans (hb.mono h.F7.size),h.base⟩
theorem Live.write(h:Live w0 w p S D) i{a}(hb:Bs w a cap l/\(l≠[]->∀x,a=some x->¬S x.block)) :
  zC 117 #[zq p,zi i,.slice a l.length cap] w (zr (bc (D.bN i l)) fun w'=>(∃S',Live w0 w' p S' (D.write i l)/\au S S' w w') ):=
 (Xj i a cap l h.dev hb.1 hb.2).mono fun e w' ⟨he,S',hd,ht⟩=>⟨he,S',h.cQ hd ht,ht⟩
theorem Live.flush(h:Live w0 w p S D) :
  zC 118 #[zq p] w (zr (bc D.cG) fun w'=>(∃S',Live w0 w' p S' D.ba/\au S S' w w') ):=
 (Z0 h.dev).mono fun e w' ⟨he,S',hd,ht⟩=>⟨he,S',h.cQ hd ht,ht⟩
theorem Live.fail(h:Live w0 w p S D) n(hn:-9223372036854775808<=n/\n<=9223372036854775807) :
  zC 101 #[zq p,zi n] w (zr (.tuple #[]) fun w'=>(∃S',Live w0 w' p S' { D with left:=n }/\au S S' w w')):=by
 obtain⟨sb,bm,pv,hd⟩:=h.dev;exact(zd7 n hn hd).mono fun e w' ⟨he,hd,ht⟩=>⟨he,S,h.cQ ⟨sb,bm,pv,hd⟩ ht,ht⟩
theorem Live.bX(h:Live w0 w p S D) aZ cut{a}{keep}(hb:Bls w a cap keep/\(keep≠[]->∀x,a=some x->¬S x.block)) :
  zC 156 #[zq p,.slice a keep.length cap,zi aZ,zi cut] w (zr (zi D.mem.length) fun w'=>(∃S',Live w0 w' p S' (D.bX keep aZ (jW cut))/\au S S' w w') ):=
 (zal a cap keep aZ cut h.dev hb.1 hb.2).mono fun e w' ⟨he,S',hd,ht⟩=>⟨he,S',h.cQ hd ht,ht⟩
theorem Live.down(h:Live w0 w p S D) :
  zC 150 #[zq p] w (zr (.bool D.down) fun w'=>w=w'):=by
 obtain⟨sb,bm,pv,hd⟩:=h.dev;exact Qa hd
theorem Live.read(h:Live w0 w p S D) i(hi:i<D.secs.length)(hd:D.down=false) :zC 269 #[zq p,zi i] w fun e w'=>∃g,e=zt #[.slice (zo g) 32 32,.nilIface]/\w.heap.size<=g/\gz w' g (D.rd i)/\zB w w':=NS i h.dev hi hd
theorem zcy(n:Nat) w0 w(hb:zB w0 w)(h1:1<=n)(h2:n<=300) :
  zC 43 #[zi n] w fun e w'=>∃p S,e=zt #[zq p,.nilIface]/\Live w0 w' p S (DS.new n)/\(∀k,S k->w.heap.size<=k)/\zB w w' :=
 (zgE n w h1 h2).mono fun e w' ⟨p,S,he,hd,hS,aK⟩=>⟨p,S,he,⟨hd,hb.trans (aK.mono hb.size),fun k hk=>qAF hb.size (hS k hk)⟩,hS,aK⟩
end
def uq(X:List (LI))(left:Int):DS:=⟨X,[],left,false⟩
def lK(n:Nat):List (LI):=List.replicate n (List.replicate 32 0)
theorem Lc n:(lK n).length=n:=by simp[lK]
def AX(w:World)(S:Nat->Prop)(t n:Nat)(F:Nat->LI)(m:Nat):Prop :=∃cur:Array Value,w.heap[t]?=some (.cells cur 29 (0,0))/\cur.size=n/\¬S t/\∀i,i<m->∃g,cur[i]?=some (.slice (zo g) 32 32)/\gz w g (F i)/\¬S g
section
variable {w w':World} {S S':Nat->Prop} {t n m:Nat} {F:Nat->LI}
theorem AX.lt(h:AX w S t n F m):t<w.heap.size:=by obtain⟨cur,h1,_⟩:=h;exact(zAg h1).1
theorem gz.same(h:gz w g l)(e:w'.heap[g]?=w.heap[g]?):gz w' g l:=by unfold gz at h ⊢;rw[e];exact h
theorem AX.cQ(h:AX w S t n F m)(ht:au S S' w w'):AX w' S' t n F m:=by have aB:=h.lt;obtain⟨cur,h1,h2,h3,h4⟩:=h;refine⟨cur,(ht.block t aB h3).trans h1,h2,fun hs=>h3 (ht.bA t aB hs),fun i hi=>?_⟩;obtain⟨g,h5,h6,h7⟩:=h4 i hi;exact⟨g,h5,h6.same (ht.block g h6.lt h7),fun hs=>h7 (ht.bA g h6.lt hs)⟩
theorem AX.below(h:AX w S t n F m)(hb:zB w w'):AX w' S t n F m:=h.cQ (au.aI hb)
theorem AX.room(h:AX w S t n F m) i(hi:i<n):∃v,w.cell? (zw t i)=some v:=by obtain⟨cur,h1,h2,h3,h4⟩:=h;exact⟨cur[i]'(Sg),zmD⟩
theorem AX.fr(h:AX w S t n F m) i:w.frozen? (zw t i)=false:=by obtain⟨cur,h1,_⟩:=h;exact qAd _ _ _ _ _ h1
theorem AX.put(h:AX w S t n F m)(hm:m<n)(hg:gz w g (F m))(hn:¬S g):AX (w.setCell (zw t m) (.slice (zo g) 32 32)) S t n F (m+1):=by
 obtain⟨cur,h1,h2,h3,h4⟩:=h;have aG:∀g' l,gz w g' l->g'≠t:=by intro g' l hb e;subst e;unfold gz at hb;rw[h1]at hb;simp at hb
 refine⟨cur.setIfInBounds m (.slice (zo g) 32 32),qAI _ _ _ _ _ _ h1,by simp[h2],h3,fun i hi=>?_⟩;by_cases e:i=m
 ·subst e;exact⟨g,by rw[Array.getElem?_setIfInBounds_self_of_lt Sg],hg.same (qAV _ _ _ _ (aG g _ hg)),hn⟩
 ·obtain⟨g',h5,h6,h7⟩:=h4 i Sg;refine⟨g',?_,h6.same (qAV _ _ _ _ (aG g' _ h6)),h7⟩;rw[Array.getElem?_setIfInBounds_ne (fun e'=>e e'.symm)];exact h5
end
theorem Live.setOther{w0:World}{p}{D}(h:Live w0 w p S D){a}(hn:¬S a.block)(hb:w0.heap.size<=a.block):Live w0 (w.setCell a v) p S D :=⟨h.dev.same Sk (fun k hk=>qAV _ _ _ _ (fun e=>hn (e▸hk))),h.F7.setCell hb v,h.base⟩
theorem E8:(prog.info? 29).map (fun i=>(i.zero,i.size,i.bytes))=some (some (.slice none 0 0),1,24):=SQ
theorem CQ(hg:o.guard=none) l c(t:TypeId)(sW:o.op=Op.makeSlice t l c)(i:TypeInfo)(h1:P.underlying t=some (.slice 29))(h2:P.info? 29=some i)(h3:i.zero=some (.slice none 0 0))(h4:i.size=1)(h5:i.bytes=24) kl kc L C(n:Nat)(hl:a.eval l=.int kl L)(hc:a.eval c=.int kc C)(hL:L=(n:Int))(hC:C=(n:Int))(b2:n<=300)(hK:∀w',(∀S F,¬S w.heap.size->AX w' S w.heap.size n F 0)->zB w w'->wpList P ops Q rest (a.put o.dst (.slice (some (zp w.heap.size)) n n)) w') :
  wpList P ops Q (o::rest) a w:=by
 refine wpList_plain hg fun K hK'=>?_
 have cF:=run_make (P:=P) w t 29 i _ h1 h2 h3 kl kc n n Sg Sg Xu Sg;subst hL;subst hC;unfold Oper.wp;simp[execOp,sW,hl,hc,cF,Result.andThen];refine hK' _ _ (hK _ (fun S F hS=>⟨_,qAB _ _,by rw[size_madeCells,h4,qCN],hS,fun i hi=>absurd hi (qAX i)⟩) (zBr.alloc zNr _))
theorem AI{a}(hb:Bs w a cap l) n:Bs (w.drewN n) a cap l:=hb
theorem rC(h:gz w g l)(hs:kC l):Bs w (zo g) 32 l:=by have:=h.bs hs.2 (by rw[hs.1];decide);rwa[hs.1]at this
