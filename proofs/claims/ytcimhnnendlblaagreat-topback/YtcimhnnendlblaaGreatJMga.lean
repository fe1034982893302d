/-
  Parts of the proofs.
-/
import Derived.Maps.RangeWalk
import Derived.Lib.SlMapMerge
import Derived.Lib.SlMapFilter
import Derived.Shelf.SlMaps.Clone
import Derived.Shelf.SlIter.Nil
import Derived.Shelf.SlMaps.DeleteFunc
import Derived.Shelf.SlicesE.IndexFunc
import Derived.Ground.SlmcProg
import Derived.Ground.SlmdProg
import Derived.Test.YtcimhnnendlblaaGreatJVws
import Derived.Lib.SlKeysI
import Derived.Shelf.SlMaps.Copy
import Derived.Shelf.SlicesE.DeleteFunc
import Derived.Sort.Walk0
import Derived.Test.YtcimhnnendlblaaGreatJRtp
import Derived.Test.YtcimhnnendlblaaGreatJCi
set_option maxRecDepth 100000
set_option maxHeartbeats 16000000
set_option linter.all false
namespace Go.Proofs.YtcimhnnendlblaaGreat
open Go.RowKit
section
open Go.MapKept
open Go.ChangeMaps
open Go.Maps (Keyed)
structure MK (κ α:Type) where
 tk:TypeId
 te:TypeId
 tm:TypeId
 kv:κ->Value
 kl:κ->Lit
 vA:κ->Prop
 ev:α->Value
 R:Value->Option (DataW Unit×List MemPlace)
 z:α
 hK:Keyed Tryz.prog tk
 hm:Tryz.prog.underlying tm=some (.map tk te)
 dt:∀ k,vA k->keyOf Tryz.prog tk (kv k)=some (kl k)
 AK:∀ k k',kl k=kl k'->k=k'
 PQ:∀ v v',ev v=ev v'->v=v'
 hRi:∀ v v' d ps ps',R v=some (d,ps)->R v'=some (d,ps')->v=v'
 hz:∀ w,(zeroValue te).run Tryz.prog w=.ok (ev z) w
 hzo:∃ d,R (ev z)=some (d,[])
def MK.Eok{κ α:Type}(M:MK κ α)(v:α):Prop:=∃ d,M.R (M.ev v)=some (d,[])
def Mp{κ α:Type}(M:MK κ α)(w:World)(g n:Nat)(F:κ->Option α):Prop :=∃ D:DataW Unit,w.ownsMap Tryz.prog M.tk M.R g n D/\∀ k,Maps.has D (M.kl k)=(F k).isSome/\∀ v,F k=some v->∃ d,M.R (M.ev v)=some (d,[])/\∀ zd,D.atKey (M.kl k) zd=d
def tQ{κ α:Type} [DecidableEq κ](F:κ->Option α)(k:κ)(v:Option α):κ->Option α:=fun j=>if j=k then v else F j
section
variable {κ α:Type} {M:MK κ α} {w w':World} {g n:Nat} {F:κ->Option α}
theorem Mp.lt(h:Mp M w g n F):g<w.heap.size:=by obtain⟨D,h1,_⟩:=h;exact h1.lt
theorem Mp.same(h:Mp M w g n F)(hs:w'.heap[g]?=w.heap[g]?):Mp M w' g n F:=by obtain⟨D,⟨es,clock,hb,r⟩,h2⟩:=h;exact⟨D,⟨es,clock,hs.trans hb,r⟩,h2⟩
theorem Mp.below(h:Mp M w g n F)(hb:Below w.heap.size w w'):Mp M w' g n F:=h.same (hb.block g h.lt)
theorem Mp.zfr{B:Nat}(h:Mp M w g n F)(hb:Below B w w')(hg:g<B):Mp M w' g n F:=h.same (hb.block g hg)
theorem Mp.grown{row:Option Nat}(h:Mp M w g n F)(hg:w.grownBy w' row)(aO:some g≠row):Mp M w' g n F:=h.same (hg.block g h.lt aO)
theorem Mp.mono(h:Mp M w g n F){m:Nat}(hm:n<=m):Mp M w g m F:=by obtain⟨D,h1,h2⟩:=h;exact⟨D,h1.mono hm,h2⟩
theorem Mp.isMap(h:Mp M w g n F):∃ es clock,w.heap[g]?=some (.map es clock):=by obtain⟨D,⟨es,clock,hb,_⟩,_⟩:=h;exact⟨es,clock,hb⟩
theorem Mp.made(M:MK κ α)(w:World):Mp M (w.alloc (.map #[] 0)) w.heap.size 0 (fun _=>none):=⟨.map [],World.ownsMap_made w _ _ _,fun k=>⟨rfl,fun v hv=>by cases hv⟩⟩
theorem Mp.eok(h:Mp M w g n F){k:κ}{v:α}(hv:F k=some v):M.Eok v:=by obtain⟨D,_,h2⟩:=h;obtain⟨d,h3,_⟩:=(h2 k).2 v hv;exact⟨d,h3⟩
theorem Mp.val{D:DataW Unit}(h2:∀ k,Maps.has D (M.kl k)=(F k).isSome/\∀ v,F k=some v->∃ d,M.R (M.ev v)=some (d,[])/\∀ zd,D.atKey (M.kl k) zd=d)(k:κ){zd:DataW Unit}(Z2:M.R (M.ev M.z)=some (zd,[])){v:Value}{ps:List MemPlace}(hv:M.R v=some (D.atKey (M.kl k) zd,ps)):v=M.ev ((F k).getD M.z):=by
 cases hm:F k with
 | none =>
  have gI:Maps.has D (M.kl k)=false:=by rw [(h2 k).1,hm];rfl
  rw [Maps.atKey_of_not_has gI] at hv;exact M.hRi _ _ _ _ _ hv Z2
 | some b =>obtain⟨d,h3,h4⟩:=(h2 k).2 b hm;rw [h4] at hv;exact M.hRi _ _ _ _ _ hv h3
theorem Mp.look(h:Mp M w g n F){k:κ}(hk:M.vA k):(Instr.lookup M.tm (.map (some g)) (M.kv k) false).run Tryz.prog w=.ok (M.ev ((F k).getD M.z)) w:=by obtain⟨D,h1,h2⟩:=h;obtain⟨zd,Z2⟩:=M.hzo;obtain⟨v,ps,bw,hv⟩:=h1.lookup M.hK M.hm (M.hz w) Z2 (M.dt k hk);rw [bw,Mp.val h2 k Z2 hv]
theorem Mp.zcI(h:Mp M w g n F){k:κ}(hk:M.vA k):(Instr.lookup M.tm (.map (some g)) (M.kv k) true).run Tryz.prog w=.ok (.tuple #[M.ev ((F k).getD M.z),.bool (F k).isSome]) w:=by obtain⟨D,h1,h2⟩:=h;obtain⟨zd,Z2⟩:=M.hzo;obtain⟨v,ps,bw,hv⟩:=h1.look_ok M.hK M.hm (M.hz w) Z2 (M.dt k hk);rw [bw,Mp.val h2 k Z2 hv,(h2 k).1]
theorem Mp.store [DecidableEq κ](h:Mp M w g n F)(hn:n<maxLen){k:κ}(hk:M.vA k){v:α}(hv:M.Eok v) :
  ∃ w',(Instr.mapUpdate M.tm (.map (some g)) (M.kv k) (M.ev v)).run Tryz.prog w=.ok () w'/\Mp M w' g (n+1) (tQ F k (some v))/\w.mapTurned w' g:=by
 obtain⟨D,h1,h2⟩:=h;obtain⟨d,hd⟩:=hv;obtain⟨w',bw,az,ht⟩:=h1.store M.hK M.hm hn (M.dt k hk) hd;have jM:WideAt.IsKeyLit (M.kl k):=M.hK.key (M.dt k hk);refine⟨w',bw,⟨_,az,fun j=>?_⟩,ht⟩;unfold tQ;by_cases e:j=k
 ·subst e;rw [if_pos rfl,Maps.has_put_same h1.isMap jM];refine⟨rfl,fun u hu=>?_⟩;obtain rfl:=zOi hu;exact⟨d,hd,fun zd=>Maps.atKey_put_same h1.isMap jM _ _⟩
 ·have aO:M.kl j≠M.kl k:=fun e2=>e (M.AK _ _ e2)
  rw [if_neg e,Maps.has_put_other aO];refine⟨(h2 j).1,fun u hu=>?_⟩;obtain⟨d',h3,h4⟩:=(h2 j).2 u hu;exact⟨d',h3,fun zd=>by rw [Maps.atKey_put_other aO];exact h4 zd⟩
theorem Mp.drop [DecidableEq κ](h:Mp M w g n F){k:κ}(hk:M.vA k)(ty:TypeId) :
  ∃ w',(Builtin.delete_ #[M.tm,M.tk] ty #[.map (some g),M.kv k]).run Tryz.prog w=.ok (.tuple #[]) w'/\Mp M w' g n (tQ F k none)/\w.mapTurned w' g:=by
 obtain⟨D,h1,h2⟩:=h;obtain⟨w',bw,az,ht⟩:=h1.drop M.hK M.hm (M.dt k hk) ty;refine⟨w',bw,⟨_,az,fun j=>?_⟩,ht⟩;unfold tQ;by_cases e:j=k
 ·subst e;rw [if_pos rfl,Maps.has_del_same];exact⟨rfl,fun u hu=>by cases hu⟩
 ·have aO:M.kl j≠M.kl k:=fun e2=>e (M.AK _ _ e2)
  rw [if_neg e,Maps.has_del_other aO];refine⟨(h2 j).1,fun u hu=>?_⟩;obtain⟨d',h3,h4⟩:=(h2 j).2 u hu;exact⟨d',h3,fun zd=>by rw [Maps.atKey_del_other aO];exact h4 zd⟩
def jP(F G:κ->Option α):κ->Option α:=fun k=>if (G k).isSome then G k else F k
theorem Mp.over{G:κ->Option α}{Dd Ds Dout:DataW Unit}{m:Nat}(hd:∀ k,Maps.has Dd (M.kl k)=(F k).isSome/\∀ v,F k=some v->∃ d,M.R (M.ev v)=some (d,[])/\∀ zd,Dd.atKey (M.kl k) zd=d)
  (hs:∀ k,Maps.has Ds (M.kl k)=(G k).isSome/\∀ v,G k=some v->∃ d,M.R (M.ev v)=some (d,[])/\∀ zd,Ds.atKey (M.kl k) zd=d) {left:Lit->Bool} (hM:Maps.Merged Dout Dd Ds left) (hl:∀ k,left k=false) (ho:w.ownsMap Tryz.prog M.tk M.R g m Dout):Mp M w g m (jP F G):=by
 refine⟨Dout,ho,fun k=>?_⟩;have e1:=hM.1 (M.kl k);have e2:=hM.2 (M.kl k);rw [hl,(hd k).1,(hs k).1] at e1;simp only [hl,(hs k).1] at e2;unfold jP;cases hg:G k with
 | none =>rw [hg] at e1 e2;simp only [Option.isSome_none,Bool.false_and,Bool.or_false] at e1 e2;refine⟨by rw [e1];rfl,fun v hv=>?_⟩;obtain⟨d,h3,h4⟩:=(hd k).2 v hv;exact⟨d,h3,fun zd=>by rw [e2 zd];exact h4 zd⟩
 | some b =>
  rw [hg] at e1 e2;simp only [Option.isSome_some,Bool.true_and,Bool.not_false,Bool.or_true,if_true] at e1 e2;refine⟨by rw [e1];rfl,fun v hv=>?_⟩;obtain⟨d,h3,h4⟩:=(hs k).2 b hg;obtain rfl:b=v:=by simpa using hv
  exact⟨d,h3,fun zd=>by rw [e2 zd];exact h4 zd⟩
def gY(F:κ->Option α)(p:κ->α->Bool):κ->Option α:=fun k=>(F k).filter fun v=>!p k v
end
end
section
open Go.Maps
open Go.Sort
open Go.Shelf
def zbl:Ren:={ f:=fun | 5=>108 | 7=>174 | n=>n,t:=fun | 23=>108 | 25=>3 | 3=>102 | 4=>4 | 20=>20 | n=>n,g:=fun n=>n }
theorem mcO:SlLaysW.n5 Tryz.prog zbl:={ mixed:=by kernel_rfl,f5:=⟨ "maps.Clone[map[int]vaultkeel/merge.object,int,vaultkeel/merge.object]",by decide,Tryz.func108.trans rfl⟩,f7:=Tryz.func174.trans rfl,t4:=Tryz.underlying4,a4:=Tryz.isAgg4,z4:=Tryz.sizeOf4,v4:=Tryz.zeroValue4,t20:=Tryz.underlying20,a20:=Tryz.isAgg20,z20:=Tryz.sizeOf20,v20:=Tryz.zeroValue20,t23:=Tryz.underlying108,a23:=Tryz.isAgg108,z23:=Tryz.sizeOf108,v23:=Tryz.zeroValue108 }
def zbk:Ren:={ f:=fun | 5=>114 | 7=>174 | n=>n,t:=fun | 23=>112 | 25=>9 | 3=>3 | 4=>4 | 20=>20 | n=>n,g:=fun n=>n }
theorem mcS:SlLaysW.n5 Tryz.prog zbk:={ mixed:=by kernel_rfl,f5:=⟨ "maps.Clone[map[string]int,string,int]",by decide,Tryz.func114.trans rfl⟩,f7:=Tryz.func174.trans rfl,t4:=Tryz.underlying4,a4:=Tryz.isAgg4,z4:=Tryz.sizeOf4,v4:=Tryz.zeroValue4,t20:=Tryz.underlying20,a20:=Tryz.isAgg20,z20:=Tryz.sizeOf20,v20:=Tryz.zeroValue20,t23:=Tryz.underlying112,a23:=Tryz.isAgg112,z23:=Tryz.sizeOf112,v23:=Tryz.zeroValue112 }
def DE:Ren:={ f:=fun | 7=>228 | 10=>254 | n=>n,t:=fun | 23=>108 | 26=>3 | 3=>102 | 28=>290 | 0=>0 | 27=>289 | 33=>120 | 4=>4 | n=>n,g:=fun n=>n }
theorem zcK:SlLaysZI.n7 Tryz.prog DE:={ mixed:=by kernel_rfl,f7:=⟨ "maps.Keys[map[int]vaultkeel/merge.object,int,vaultkeel/merge.object]",by decide,Tryz.func228.trans rfl⟩,f10:=⟨ "maps.Keys[map[int]vaultkeel/merge.object,int,vaultkeel/merge.object]$1",by decide,Tryz.func254.trans rfl⟩,t0:=Tryz.underlying0,a0:=Tryz.isAgg0,z0:=Tryz.sizeOf0,v0:=Tryz.zeroValue0,t4:=Tryz.underlying4,a4:=Tryz.isAgg4,z4:=Tryz.sizeOf4,v4:=Tryz.zeroValue4,t23:=Tryz.underlying108,a23:=Tryz.isAgg108,z23:=Tryz.sizeOf108,v23:=Tryz.zeroValue108,t26:=Tryz.underlying3,a26:=Tryz.isAgg3,z26:=Tryz.sizeOf3,v26:=Tryz.zeroValue3,t27:=Tryz.underlying289,a27:=Tryz.isAgg289,z27:=Tryz.sizeOf289,v27:=Tryz.zeroValue289,t28:=Tryz.underlying290,a28:=Tryz.isAgg290,z28:=Tryz.sizeOf290,v28:=Tryz.zeroValue290,t33:=Tryz.underlying120,a33:=Tryz.isAgg120,z33:=Tryz.sizeOf120,v33:=Tryz.zeroValue120 }
def DC:Ren:={ f:=fun | 7=>230 | 10=>257 | n=>n,t:=fun | 23=>112 | 26=>9 | 3=>3 | 28=>294 | 0=>0 | 27=>293 | 33=>194 | 4=>4 | n=>n,g:=fun n=>n }
theorem zcJ:SlLaysZ.n7 Tryz.prog DC:={ mixed:=by kernel_rfl,f7:=⟨ "maps.Keys[map[string]int,string,int]",by decide,Tryz.func230.trans rfl⟩,f10:=⟨ "maps.Keys[map[string]int,string,int]$1",by decide,Tryz.func257.trans rfl⟩,t0:=Tryz.underlying0,a0:=Tryz.isAgg0,z0:=Tryz.sizeOf0,v0:=Tryz.zeroValue0,t4:=Tryz.underlying4,a4:=Tryz.isAgg4,z4:=Tryz.sizeOf4,v4:=Tryz.zeroValue4,t23:=Tryz.underlying112,a23:=Tryz.isAgg112,z23:=Tryz.sizeOf112,v23:=Tryz.zeroValue112,t26:=Tryz.underlying9,a26:=Tryz.isAgg9,z26:=Tryz.sizeOf9,v26:=Tryz.zeroValue9,t27:=Tryz.underlying293,a27:=Tryz.isAgg293,z27:=Tryz.sizeOf293,v27:=Tryz.zeroValue293,t28:=Tryz.underlying294,a28:=Tryz.isAgg294,z28:=Tryz.sizeOf294,v28:=Tryz.zeroValue294,t33:=Tryz.underlying194,a33:=Tryz.isAgg194,z33:=Tryz.sizeOf194,v33:=Tryz.zeroValue194 }
def xG:Ren:={ f:=fun | 6=>229 | 8=>255 | 9=>256 | 11=>272 | 13=>271 | 12=>273 | 23=>284 | 24=>285 | 14=>286 | 15=>287 | 16=>288 | 17=>289 | 18=>290 | 19=>291 | 20=>292 | 21=>293 | 22=>294 | 25=>308 | 26=>304 | 27=>305 | 28=>309 | 29=>310 | 30=>311 | 31=>316 | n=>n,t:=fun | 26=>9 | 28=>294 | 24=>113 | 0=>0 | 3=>3 | 37=>329 | 48=>341 | 50=>343 | 4=>4 | 40=>335 | 39=>334 | 45=>156 | 5=>5 | 9=>9 | 51=>355 | 55=>359 | 57=>365 | 58=>304 | 33=>194 | n=>n,g:=fun n=>n }
theorem zaA:SlLaysZ.n6 Tryz.prog xG:={ mixed:=by kernel_rfl,f6:=⟨ "slices.Sorted[string]",by decide,Tryz.func229.trans rfl⟩,f8:=⟨ "slices.Collect[string]",by decide,Tryz.func255.trans rfl⟩,f11:=⟨ "slices.AppendSeq[[]string,string]",by decide,Tryz.func272.trans rfl⟩,t0:=Tryz.underlying0,a0:=Tryz.isAgg0,z0:=Tryz.sizeOf0,v0:=Tryz.zeroValue0,t24:=Tryz.underlying113,a24:=Tryz.isAgg113,z24:=Tryz.sizeOf113,v24:=Tryz.zeroValue113,t26:=Tryz.underlying9,a26:=Tryz.isAgg9,z26:=Tryz.sizeOf9,v26:=Tryz.zeroValue9,t28:=Tryz.underlying294,a28:=Tryz.isAgg294,z28:=Tryz.sizeOf294,v28:=Tryz.zeroValue294,i26:=by kernel_rfl }
def Q3:Ren:={ f:=fun | 6=>256 | 8=>271 | 9=>273 | 19=>284 | 20=>285 | 21=>286 | 22=>287 | 23=>288 | 24=>289 | 25=>290 | 26=>291 | 27=>292 | 28=>293 | 29=>294 | 36=>308 | 31=>304 | 32=>305 | 37=>309 | 38=>310 | 39=>311 | 41=>316 | n=>n,t:=fun | 27=>113 | 29=>9 | 3=>3 | 32=>329 | 26=>113 | 0=>0 | 44=>341 | 46=>343 | 4=>4 | 36=>335 | 35=>334 | 41=>156 | 5=>5 | 9=>9 | 53=>355 | 57=>359 | 63=>365 | 64=>304 | n=>n,g:=fun n=>n }
theorem zcy:SlLaysM.n6 Tryz.prog Q3:={ mixed:=by kernel_rfl,f6:=⟨ "slices.Sort[[]string,string]",by decide,Tryz.func256.trans rfl⟩,f8:=Tryz.func271.trans rfl,f9:=⟨ "slices.pdqsortOrdered[string]",by decide,Tryz.func273.trans rfl⟩,f19:=Tryz.func284.trans rfl,f20:=Tryz.func285.trans rfl,f21:=⟨ "slices.insertionSortOrdered[string]",by decide,Tryz.func286.trans rfl⟩,f22:=⟨ "slices.heapSortOrdered[string]",by decide,Tryz.func287.trans rfl⟩,f23:=⟨ "slices.breakPatternsOrdered[string]",by decide,Tryz.func288.trans rfl⟩,f24:=⟨ "slices.choosePivotOrdered[string]",by decide,Tryz.func289.trans rfl⟩,f25:=⟨ "slices.reverseRangeOrdered[string]",by decide,Tryz.func290.trans rfl⟩,f26:=⟨ "slices.partialInsertionSortOrdered[string]",by decide,Tryz.func291.trans rfl⟩,f27:=⟨ "cmp.Less[string]",by decide,Tryz.func292.trans rfl⟩,f28:=⟨ "slices.partitionEqualOrdered[string]",by decide,Tryz.func293.trans rfl⟩,f29:=⟨ "slices.partitionOrdered[string]",by decide,Tryz.func294.trans rfl⟩,f31:=Tryz.func304.trans rfl,f32:=Tryz.func305.trans rfl,f36:=⟨ "slices.siftDownOrdered[string]",by decide,Tryz.func308.trans rfl⟩,f37:=⟨ "slices.medianAdjacentOrdered[string]",by decide,Tryz.func309.trans rfl⟩,f38:=⟨ "slices.medianOrdered[string]",by decide,Tryz.func310.trans rfl⟩,f39:=⟨ "cmp.isNaN[string]",by decide,Tryz.func311.trans rfl⟩,f41:=⟨ "slices.order2Ordered[string]",by decide,Tryz.func316.trans rfl⟩,t0:=Tryz.underlying0,a0:=Tryz.isAgg0,z0:=Tryz.sizeOf0,v0:=Tryz.zeroValue0,t3:=Tryz.underlying3,a3:=Tryz.isAgg3,z3:=Tryz.sizeOf3,v3:=Tryz.zeroValue3,t4:=Tryz.underlying4,a4:=Tryz.isAgg4,z4:=Tryz.sizeOf4,v4:=Tryz.zeroValue4,t5:=Tryz.underlying5,a5:=Tryz.isAgg5,z5:=Tryz.sizeOf5,v5:=Tryz.zeroValue5,t9:=Tryz.underlying9,a9:=Tryz.isAgg9,z9:=Tryz.sizeOf9,v9:=Tryz.zeroValue9,t26:=Tryz.underlying113,a26:=Tryz.isAgg113,z26:=Tryz.sizeOf113,v26:=Tryz.zeroValue113,t27:=Tryz.underlying113,a27:=Tryz.isAgg113,z27:=Tryz.sizeOf113,v27:=Tryz.zeroValue113,t29:=Tryz.underlying9,a29:=Tryz.isAgg9,z29:=Tryz.sizeOf9,v29:=Tryz.zeroValue9,t32:=Tryz.underlying329,a32:=Tryz.isAgg329,z32:=Tryz.sizeOf329,v32:=Tryz.zeroValue329,t35:=Tryz.underlying334,a35:=Tryz.isAgg334,z35:=Tryz.sizeOf334,v35:=Tryz.zeroValue334,t36:=Tryz.underlying335,a36:=Tryz.isAgg335,z36:=Tryz.sizeOf335,v36:=Tryz.zeroValue335,t41:=Tryz.underlying156,a41:=Tryz.isAgg156,z41:=Tryz.sizeOf156,v41:=Tryz.zeroValue156,t44:=Tryz.underlying341,a44:=Tryz.isAgg341,z44:=Tryz.sizeOf341,v44:=Tryz.zeroValue341,t46:=Tryz.underlying343,a46:=Tryz.isAgg343,z46:=Tryz.sizeOf343,v46:=Tryz.zeroValue343,t53:=Tryz.underlying355,a53:=Tryz.isAgg355,z53:=Tryz.sizeOf355,v53:=Tryz.zeroValue355,t57:=Tryz.underlying359,a57:=Tryz.isAgg359,z57:=Tryz.sizeOf359,v57:=Tryz.zeroValue359,t63:=Tryz.underlying365,a63:=Tryz.isAgg365,z63:=Tryz.sizeOf365,v63:=Tryz.zeroValue365,t64:=Tryz.underlying304,a64:=Tryz.isAgg304,z64:=Tryz.sizeOf304,v64:=Tryz.zeroValue304 }
def zbj:Ren:={ f:=fun | 5=>56 | n=>n,t:=fun | 23=>112 | 26=>9 | 24=>3 | 27=>118 | 0=>0 | 4=>4 | n=>n,g:=fun n=>n }
theorem mdS:SlLaysDf.n5 Tryz.prog zbj:={ mixed:=by kernel_rfl,f5:=⟨ "maps.DeleteFunc[map[string]int,string,int]",by decide,Tryz.func56.trans rfl⟩,t0:=Tryz.underlying0,a0:=Tryz.isAgg0,z0:=Tryz.sizeOf0,v0:=Tryz.zeroValue0,t4:=Tryz.underlying4,a4:=Tryz.isAgg4,z4:=Tryz.sizeOf4,v4:=Tryz.zeroValue4,t23:=Tryz.underlying112,a23:=Tryz.isAgg112,z23:=Tryz.sizeOf112,v23:=Tryz.zeroValue112,a24:=Tryz.isAgg3,z24:=Tryz.sizeOf3,a26:=Tryz.isAgg9,z26:=Tryz.sizeOf9,t27:=Tryz.underlying118,a27:=Tryz.isAgg118,z27:=Tryz.sizeOf118,v27:=Tryz.zeroValue118 }
def zb9:Ren:={ f:=fun | 8=>106 | 6=>173 | n=>n,t:=fun | 22=>182 | 23=>30 | 25=>184 | 4=>4 | 3=>3 | 0=>0 | n=>n,g:=fun n=>n }
theorem cfB:SlLaysH.n8 Tryz.prog zb9:={ mixed:=by kernel_rfl,f6:=⟨ "slices.IndexFunc[[][]byte,[]byte]",by decide,Tryz.func173.trans rfl⟩,f8:=⟨ "slices.ContainsFunc[[][]byte,[]byte]",by decide,Tryz.func106.trans rfl⟩,t0:=Tryz.underlying0,a0:=Tryz.isAgg0,z0:=Tryz.sizeOf0,v0:=Tryz.zeroValue0,t3:=Tryz.underlying3,a3:=Tryz.isAgg3,z3:=Tryz.sizeOf3,v3:=Tryz.zeroValue3,t4:=Tryz.underlying4,a4:=Tryz.isAgg4,z4:=Tryz.sizeOf4,v4:=Tryz.zeroValue4,t22:=Tryz.underlying182,a22:=Tryz.isAgg182,z22:=Tryz.sizeOf182,v22:=Tryz.zeroValue182,a23:=Tryz.isAgg30,z23:=Tryz.sizeOf30,t25:=Tryz.underlying184,a25:=Tryz.isAgg184,z25:=Tryz.sizeOf184,v25:=Tryz.zeroValue184 }
theorem zdB(m:Nat):AnyZ.SortsIn Tryz.prog xG Fence.wide m :=⟨fun lT off cap ss W hH hblk cL=>callsIn_wide.2 (AnyM.slices_Sort_string zcy lT off cap ss W hH hblk cL),fun p cap W=>callsIn_wide.2 (AnyM.slices_Sort_string_none zcy p cap W)⟩
end
def bL(s t:ByteArray):Bool:=Go.Op.bytesLess s.toList t.toList
theorem oD:∀ x:List UInt8,Go.Op.bytesLess x x=false
 | []=>rfl
 | a :: x=>by simp only [Go.Op.bytesLess,oD x];simp
theorem pQ:∀ {x y z:List UInt8},Go.Op.bytesLess x y=true->Go.Op.bytesLess y z=true->Go.Op.bytesLess x z=true
 | _,[],_,h,_=>by simp [Go.Op.bytesLess] at h
 | [],_ :: _,[],_,h=>by simp [Go.Op.bytesLess] at h
 | [],_ :: _,_ :: _,_,_=>by simp [Go.Op.bytesLess]
 | _ :: _,_ :: _,[],_,h=>by simp [Go.Op.bytesLess] at h
 | a :: x,b :: y,c :: z,h1,h2=>by
  simp only [Go.Op.bytesLess,Bool.or_eq_true,decide_eq_true_eq,Bool.and_eq_true,beq_iff_eq] at h1 h2 ⊢;rcases h1 with h1 | ⟨rfl,h1⟩
  ·rcases h2 with h2 | ⟨rfl,h2⟩
   ·exact .inl (UInt8.lt_trans h1 h2)
   ·exact .inl h1
  ·rcases h2 with h2 | ⟨rfl,h2⟩
   ·exact .inl h2
   ·exact .inr ⟨rfl,pQ h1 h2⟩
theorem pR:∀ {x y:List UInt8},Go.Op.bytesLess x y=false->Go.Op.bytesLess y x=false->x=y
 | [],[],_,_=>rfl
 | [],_ :: _,h,_=>by simp [Go.Op.bytesLess] at h
 | _ :: _,[],_,h=>by simp [Go.Op.bytesLess] at h
 | a :: x,b :: y,h1,h2=>by
  simp only [Go.Op.bytesLess,Bool.or_eq_false_iff,decide_eq_false_iff_not,Bool.and_eq_false_iff,beq_eq_false_iff_ne] at h1 h2;have hab:a=b:=by
   have n1:¬ a.toNat<b.toNat:=fun h=>h1.1 (UInt8.lt_iff_toNat_lt.2 h)
   have n2:¬ b.toNat<a.toNat:=fun h=>h2.1 (UInt8.lt_iff_toNat_lt.2 h)
   exact UInt8.toNat_inj.1 (by omega)
  subst hab;have h3:Go.Op.bytesLess x y=false:=by
   rcases h1.2 with h | h
   ·exact absurd rfl h
   ·exact h
  have h4:Go.Op.bytesLess y x=false:=by
   rcases h2.2 with h | h
   ·exact absurd rfl h
   ·exact h
  rw [pR h3 h4]
theorem oG(s:ByteArray):bL s s=false:=oD _
theorem vk{s t u:ByteArray}(h1:bL s t=true)(h2:bL t u=true):bL s u=true:=pQ h1 h2
theorem KB{s t:ByteArray}(h1:bL s t=false)(h2:bL t s=false):s=t:=by have:=pR h1 h2;exact tR.1 (by rw [this];exact beq_self_eq_true _)
def By(l:List ByteArray):Prop:=l.Pairwise fun s t=>bL s t=true
theorem By.nodup{l:List ByteArray}(h:By l):l.Nodup:=h.imp (fun {a b} hab e=>by subst e;rw [oG] at hab;cases hab)
def insN:List ByteArray->ByteArray->List ByteArray
 | [],s=>[s]
 | x :: l,s=>if bL s x=true then s :: x :: l else if s=x then x :: l else x :: insN l s
theorem qH{s x:ByteArray}:∀ {l:List ByteArray},x∈insN l s ↔ x=s\/x∈l
 | []=>by simp [insN]
 | y :: l=>by
  unfold insN;by_cases h1:bL s y=true
  ·rw [if_pos h1];simp
  ·rw [if_neg h1];by_cases h2:s=y
   ·rw [if_pos h2];subst h2;simp
   ·rw [if_neg h2,List.mem_cons,qH,List.mem_cons];constructor
    ·rintro (h | h | h)
     ·exact .inr (.inl h)
     ·exact .inl h
     ·exact .inr (.inr h)
    ·rintro (h | h | h)
     ·exact .inr (.inl h)
     ·exact .inl h
     ·exact .inr (.inr h)
theorem uC{s:ByteArray}:∀ {l:List ByteArray},By l->By (insN l s)
 | [],_=>by unfold insN;exact List.pairwise_singleton _ _
 | y :: l,h=>by
  obtain⟨a1,a2⟩:=List.pairwise_cons.1 h;unfold insN;by_cases h1:bL s y=true
  ·rw [if_pos h1];refine List.pairwise_cons.2 ⟨fun z hz=>?_,h⟩;rcases zMc hz with rfl | hz
   ·exact h1
   ·exact vk h1 (a1 z hz)
  ·rw [if_neg h1];by_cases h2:s=y
   ·rw [if_pos h2];exact h
   ·rw [if_neg h2];refine List.pairwise_cons.2 ⟨fun z hz=>?_,uC a2⟩;rcases qH.1 hz with rfl | hz
    ·cases hq:bL y z with
     | true=>rfl
     | false=>exact absurd (KB (by simpa using h1) hq) h2
    ·exact a1 z hz
def WN(ns:List ByteArray):List ByteArray:=ns.foldl insN []
theorem wG:∀ (ns l:List ByteArray),By l->By (ns.foldl insN l)/\∀ x,x∈ns.foldl insN l ↔ x∈l\/x∈ns
 | [],l,h=>⟨h,fun x=>by simp⟩
 | s :: ns,l,h=>by
  obtain⟨h1,h2⟩:=wG ns (insN l s) (uC h);refine⟨h1,fun x=>?_⟩
  show x∈ns.foldl insN (insN l s) ↔ _
  rw [h2 x,qH,List.mem_cons];constructor
  ·rintro ((h | h) | h)
   ·exact .inr (.inl h)
   ·exact .inl h
   ·exact .inr (.inr h)
  ·rintro (h | h | h)
   ·exact .inl (.inr h)
   ·exact .inl (.inl h)
   ·exact .inr h
theorem Aw(ns:List ByteArray):By (WN ns):=(wG ns [] List.Pairwise.nil).1
theorem qI{ns:List ByteArray}{x:ByteArray}:x∈WN ns ↔ x∈ns:=by have:=(wG ns [] List.Pairwise.nil).2 x;unfold WN;simpa using this
section
open Go.MapKept
open Go.ChangeMaps
open Go.Sort
open Go.Shelf
open Go.Maps (Keyed)
abbrev OV:=Int×Option Addr×Nat×Nat
def oP(x:OV):Value:=.agg #[.int .i64 x.1,.slice x.2.1 x.2.2.1 x.2.2.2]
def Z1(n:Int):DataW Unit:=.lit (.int .i64 n)
def obRd:Value->Option (DataW Unit×List MemPlace)
 | .agg cs=>match cs.toList with
  | [.int .i64 s,.slice none n c]=>some (.agg [Z1 s,Z1 n,Z1 c],[])
  | [.int .i64 s,.slice (some ⟨b,off,none⟩) n c]=>some (.agg [Z1 s,Z1 n,Z1 c,Z1 b,Z1 off],[])
  | _=>none
 | _=>none
theorem za3(v v':Value)(d:DataW Unit)(ps ps':List MemPlace)(h:obRd v=some (d,ps))(h':obRd v'=some (d,ps')):v=v':=by
 unfold obRd at h h';split at h
 ·rename_i cs
  split at h
  ·rename_i s n c e
   split at h'
   ·rename_i cs'
    split at h'
    ·rename_i s' n' c' e'
     simp only [Option.some.injEq,Prod.mk.injEq] at h h';have:=h.1.trans h'.1.symm;simp [Z1] at this;obtain⟨rfl,h1,h2⟩:=this;obtain rfl:n=n':=by omega
     obtain rfl:c=c':=by omega
     rw [<- e'] at e
     congr 1
     exact Array.ext' e
    ·rename_i s' b' o' n' c' e'
     simp only [Option.some.injEq,Prod.mk.injEq] at h h';have:=h.1.trans h'.1.symm;simp at this
    ·cases h'
   ·cases h'
  ·rename_i s b o n c e
   split at h'
   ·rename_i cs'
    split at h'
    ·rename_i s' n' c' e'
     simp only [Option.some.injEq,Prod.mk.injEq] at h h';have:=h.1.trans h'.1.symm;simp at this
    ·rename_i s' b' o' n' c' e'
     simp only [Option.some.injEq,Prod.mk.injEq] at h h';have:=h.1.trans h'.1.symm;simp [Z1] at this;obtain⟨rfl,h1,h2,h3,h4⟩:=this;obtain rfl:n=n':=by omega
     obtain rfl:c=c':=by omega
     obtain rfl:b=b':=by omega
     obtain rfl:o=o':=by omega
     rw [<- e'] at e
     congr 1
     exact Array.ext' e
    ·cases h'
   ·cases h'
  ·cases h
 ·cases h
theorem zab(w:World):(zeroValue 102).run Tryz.prog w=.ok (oP (0,none,0,0)) w:=by
 have h:(Tryz.prog.info? 102).map (fun i=>i.zero)=some (some (oP (0,none,0,0))):=by kernel_rfl
 cases hi:Tryz.prog.info? 102 with
 | none=>rw [hi] at h;cases h
 | some i =>rw [hi] at h;simp at h;simp [zeroValue,typeInfo,hi,h]
theorem zaU(v v':OV)(h:oP v=oP v'):v=v':=by obtain⟨t,a,n,c⟩:=v;obtain⟨t',a',n',c'⟩:=v';simp only [oP,Value.agg.injEq,Array.mk.injEq,List.cons.injEq,Value.int.injEq,Value.slice.injEq,true_and,and_true] at h;obtain⟨rfl,rfl,rfl,rfl⟩:=h;rfl
def fI:MK Int OV where
 tk:=3
 te:=102
 tm:=108
 kv:=Value.int .i64
 kl:=Lit.int .i64
 vA:=fun z=>-9223372036854775808<=z/\z<=9223372036854775807
 ev:=oP
 R:=obRd
 z:=(0,none,0,0)
 hK:=Maps.int_keyed zu3
 hm:=zu108
 dt:=fun k hk=>Maps.keyOf_int_mk zu3 (WalkArith.wf_i64 hk)
 AK:=fun k k' h=>by simpa using h
 PQ:=zaU
 hRi:=za3
 hz:=zab
 hzo:=⟨_,rfl⟩
theorem zero_le(w:World):(zeroValue 3).run Tryz.prog w=.ok (.int .i64 0) w:=by obtain⟨i0,eP,cY,dw,dz⟩:=info_parts kI;simp [zeroValue,typeInfo,eP,cY]
def inR:Value->Option (DataW Unit×List MemPlace)
 | .int .i64 a=>if -9223372036854775808<=a/\a<=9223372036854775807 then some (.lit (.int .i64 a),[]) else none
 | _=>none
theorem Py{a:Int}(h:-9223372036854775808<=a/\a<=9223372036854775807):inR (.int .i64 a)=some (.lit (.int .i64 a),[]):=if_pos h
theorem uF{v:Value}{y:DataW Unit×List MemPlace}(h:inR v=some y):∃ a,v=.int .i64 a/\y=(.lit (.int .i64 a),[])/\-9223372036854775808<=a/\a<=9223372036854775807:=by
 unfold inR at h;split at h
 ·rename_i a
  split at h
  ·rename_i ha
   exact⟨a,rfl,(zOi h).symm,ha⟩
  ·cases h
 ·cases h
def fY:MK ByteArray Int where
 tk:=9
 te:=3
 tm:=112
 kv:=Value.string
 kl:=fun s=>Lit.string s.data.toList
 vA:=fun s=>s.size<=maxLen
 ev:=Value.int .i64
 R:=inR
 z:=0
 hK:=Maps.string_keyed zu9
 hm:=zu112
 dt:=fun k hk=>WideMaps.keyOf_string_mk zu9 hk
 AK:=fun k k' h=>by simp only [Lit.string.injEq] at h;exact str_inj h
 PQ:=fun v v' h=>by simpa using h
 hRi:=fun v v' d ps ps' h h'=>by obtain⟨a,rfl,h1,_⟩:=uF h;obtain⟨a',rfl,h2,_⟩:=uF h';have e:=(Prod.mk.inj h1).1.symm.trans (Prod.mk.inj h2).1;simp at e;rw [e]
 hz:=zero_le
 hzo:=⟨_,Py (by decide)⟩
theorem zef{v:Int}(h:-9223372036854775808<=v/\v<=9223372036854775807):fY.Eok v:=⟨_,Py h⟩
theorem zdY{w:World}{a:Option Addr}{c:Nat}{l:List Int}(t:Int)(hb:Bs w a c l)(hl:l≠[]):fI.Eok (t,a,l.length,c):=by obtain⟨b,off,rfl,_⟩:=hb.2.2.2.2 hl;exact⟨_,rfl⟩
end
section
open Go.Maps
open Go.Shelf
theorem YU(g n:Nat)(F:Int->Option OV)(w:World)(h:Mp fI w g n F) :
  Calls Tryz.prog 108 #[.map (some g)] w fun e w'=>∃ gE,e=.returned (.map (some gE))/\w.heap.size<=gE/\Mp fI w' gE n F/\Below w.heap.size w w':=by
 obtain⟨D,h1,h2⟩:=h;have c:=AnyW.maps_Clone_owns mcO (fI).tk (fI).R g n D w h1;change Calls Tryz.prog 108 _ _ _ at c;refine c.mono ?_;rintro e w' ⟨rfl,o1,o2,hb⟩;exact⟨_,rfl,zNr,⟨D,o1,h2⟩,hb⟩
theorem RJ{v:Value}{y:DataW Unit×List MemPlace}(h:obRd v=some y):∃ x:OV,v=oP x:=by
 unfold obRd at h;split at h
 ·rename_i cs
  split at h
  ·rename_i s n c e
   exact⟨(s,none,n,c),by rw [oP];congr 1;exact Array.ext' e⟩
  ·rename_i s b o n c e
   exact⟨(s,some ⟨b,o,none⟩,n,c),by rw [oP];congr 1;exact Array.ext' e⟩
  ·cases h
 ·cases h
theorem zi6(bd bs nd ns:Nat)(F G:Int->Option OV)(w:World)(hd:Mp fI w bd nd F)(hs:Mp fI w bs ns G)(aO:bd≠bs)(su:nd+ns<=100000) :
  Calls Tryz.prog 175 #[.map (some bd),.map (some bs)] w fun e w'=>e=.returned (.tuple #[])/\Mp fI w' bd (nd+ns) (jP F G)/\w.grownBy w' (some bd):=by
 obtain⟨Dd,o1,h1⟩:=hd;obtain⟨Ds,o2,h2⟩:=hs;have Ub:=af h1;have HF2:=af h2;have o1:w.ownsMap Tryz.prog 3 obRd bd nd Dd:=o1;have o2:w.ownsMap Tryz.prog 3 obRd bs ns Ds:=o2;have cL:=o2.size_le;have sE:=o1.lt;have aX:=o2.lt;have hmx:nd+ns<maxLen:=by unfold maxLen;omega
 have K:Keyed Tryz.prog 3:=(fI).hK;clear h1 h2;go_enter Tryz.func175,Tryz.ntmps175
 go_wp2_with (first
  | (at_range;refine wpList_range_own _ rfl _ 108 rfl 3 102 K zu108 obRd bs ns _ rfl o2 ?_;intro w0 zeu hg0 hs0)
  | go_in)
 go_frame
 go_loopw [4,5] (fun _ _ wr=>∃ (left:Lit->Bool) (GV:Nat) (Dout:DataW Unit),wr.ranges Tryz.prog 3 obRd bs w.heap.size ns Ds left GV/\GV<=Maps.size Ds /\
   wr.ownsMap Tryz.prog 3 obRd bd (nd+(Maps.size Ds-GV)) Dout/\Hid (Merged Dout Dd Ds left)/\w.grownBy wr (some bd))
  (fun _ _ wr=>wr.rangeLeft bs w.heap.size)
 case atStart =>exact⟨_,_,Dd,zeu,zNr,(o1.kept hg0 (by simp)).mono (by omega),af (merged_start Dd Ds),hg0.but _⟩
 case round =>
  obtain⟨left,GV,Dout,PE,jS,iA,HM,hgw⟩:=hrel;go_wp2_with (first
   | (at_next;refine wpList_next_ranges _ rfl _ rfl 3 K obRd id oP (fun key _ _=>⟨key,rfl⟩) (fun v _ h=>RJ h) bs w.heap.size ns _ _ _ rfl PE ?_ ?_)
   | go_in)
  ·intro Cm tl;go_wp2
   go_end0
   subst Cm;refine⟨rfl,Mp.mono (Mp.over (M:=fI) (ae Ub) (ae HF2) (ae HM) tl (show wr.ownsMap Tryz.prog (fI).tk (fI).R bd _ Dout from iA)) (by omega),hgw⟩
  ·intro x ct ca cn cc kl yd yp w1 cnt1 dt hlx hv wO zet aM JO gP fc;have DW:=iA.kept JO (fun e=>by have:=zOi e;omega);dsimp only [oP,id] at *;have hgA:w1.grownBy (w1.alloc (.cells #[.int .i64 ct,.slice ca cn cc] 102)) none:=World.grownBy_alloc w1 _ _;have zhW:=DW.kept hgA (by simp);have zkY:=zet.kept hgA (by simp) (by simp);go_wp2_with (first
    | (at_mapUpdate;refine wpList_mapUpdate_own _ rfl _ _ _ 108 rfl 3 102 K zu108 obRd bd _ _ rfl zhW (by omega) _ _ _ rfl rfl dt yd yp hv ?_;intro w2 Xv qg;go_frame)
    | go_in)
   have Xq:=zkY.kept qg (fun e=>aO (zOi e).symm) (fun e=>by have:=zOi e;omega);go_roundw
   case rel =>exact⟨_,cnt1,_,Xq,by omega,Xv.mono (by omega),af (merged_step (ae HM) iA.isMap (K.key dt) wO),((hgw.andThen JO (fun j hj=>.inl (by cases hj;exact zNr))).andThen (hgA.but _) (fun j hj=>.inr hj)).andThen qg (fun j hj=>.inr hj)⟩
   case measure=>rw [Xq.left_eq,PE.left_eq];exact aM
end
def Rw(w:World)(g T:Nat)(xs:List Value):Prop:=w.heap[g]?=some (.cells xs.toArray T (0,0))
section
variable {w w':World} {g T:Nat} {xs:List Value}
theorem Rw.lt(h:Rw w g T xs):g<w.heap.size:=(zAg h).1
theorem Rw.same(h:Rw w g T xs)(hs:w'.heap[g]?=w.heap[g]?):Rw w' g T xs:=hs.trans h
theorem Rw.cell(h:Rw w g T xs){i:Nat}{v:Value}(hx:xs[i]?=some v):w.cell? ⟨g,i,none⟩=some v:=by rw [cell_of_row _ _ _ _ _ _ h];simpa using hx
theorem Rw.has(h:Rw w g T xs){i:Nat}(hi:i<xs.length):∃ v,w.cell? ⟨g,i,none⟩=some v:=⟨xs[i],h.cell (zLg hi)⟩
theorem Rw.frozen(h:Rw w g T xs)(i:Nat):w.frozen? ⟨g,i,none⟩=false:=frozen_of_row w g i _ T h
theorem Rw.set(h:Rw w g T xs)(i:Nat)(v:Value):Rw (w.setCell ⟨g,i,none⟩ v) g T (xs.set i v):=by unfold Rw;rw [heap_setCell_same w g i xs.toArray T v h];simp
theorem Rw.row(h:Rw w g T xs)(ys:List Value):Rw (w.setRow g ys.toArray) g T ys:=setRow_heap w g _ _ T _ h
end
theorem tY(w:World)(dT e ty:TypeId)(z:Value)(hu:Tryz.prog.underlying dT=some (.slice e))(hz:∀ w,(zeroValue e).run Tryz.prog w=.ok z w)(jS:z.cells=#[z])(h1:z.oneCell'=true)(g off n c:Nat)(xs:List Value)(h0:0<n)(dc:off+n<=xs.length)(hg:Rw w g e xs) :
  (Builtin.clear_ #[dT] ty #[.slice (some ⟨g,off,none⟩) n c]).run Tryz.prog w=.ok (.tuple #[]) (w.setRow g (splice xs off (List.replicate n z)).toArray):=by
 have jw:=run_storeCells_at Tryz.prog g off e (List.replicate n z) 0 xs.toArray w hg (by simp;omega) (fun v hv=>by rw [(List.mem_replicate.1 hv).2];exact h1);have hzc:(Builtin.zeroCells z.cells n).toList=List.replicate n z:=by
  rw [jS];simp [Builtin.zeroCells];apply List.ext_getElem
  ·simp
  ·intro i h1 h2;simp [Nat.mod_one]
 obtain⟨m,rfl⟩:∃ m,n=m+1:=⟨n-1,by omega⟩;have Xj:(storeCells ⟨g,off,none⟩ (List.replicate (m+1) z)).run Tryz.prog w=.ok () (w.setRow g (splice xs off (List.replicate (m+1) z)).toArray):=by simpa [splice] using jw
 simp only [Builtin.clear_,run_underlying hu,hz,hzc,Xj,Sem.run_bind,Sem.run_pure,Result.andThen,List.getElem?_toArray,List.getElem?_cons_zero]
theorem mO{κ:Type}{l:List κ}{xs:List Value}{f:κ->Value}(h:∀ (i:Nat) x,l[i]?=some x->xs[i]?=some (f x)):xs.take l.length=l.map f:=by
 apply List.ext_getElem?;intro i;rw [List.getElem?_take,List.getElem?_map];by_cases hi:i<l.length
 ·rw [if_pos hi,zLg hi,h i _ (zLg hi)];rfl
 ·rw [if_neg hi,List.getElem?_eq_none (by omega)];rfl
theorem Er{α:Type}{xs:List α}{n:Nat}{v:α}(h:n<xs.length):(xs.drop n).set 0 v=v :: xs.drop (n+1):=by rw [List.drop_eq_getElem_cons h];rfl
theorem xE{α:Type}{xs l:List α}{n off:Nat}(h:n<=off)(hf:off<=xs.length):(splice xs off l).take n=xs.take n:=by unfold splice;rw [List.take_append_of_le_length (by rw [zLt];omega),List.take_take,Nat.min_eq_left h]
theorem zH{α:Type}{xs l:List α}{off:Nat}(h:off+l.length<=xs.length):(splice xs off l).length=xs.length:=by simp [splice];omega
theorem dK(w:World)(v:Value)(T:Nat):(w.alloc (.cells #[v] T)).cell? ⟨w.heap.size,0,none⟩=some v:=by rw [cell_of_row _ _ _ _ _ _ (heap_alloc_new w _)];rfl
theorem cC{w:World}{a:Addr}{v:Value}(o:Obj)(h:w.cell? a=some v):(w.alloc o).cell? a=some v :=(((Below.refl w.heap.size w).alloc zNr o).cell (block_lt_of_cell h)).trans h
theorem bT.Jh{α:Type}{enc:α->List Value}{k T:Nat}{w:World}{B B':Nat}{v:Value}{l:List α}(h:bT enc k T w B v l)(hB:B'<=B):bT enc k T w B' v l:=by
 refine⟨h.1,?_⟩;rcases h.2 with h0 | ⟨g,cap,cur,e,hb,r⟩
 ·exact .inl h0
 ·exact .inr ⟨g,cap,cur,e,Nat.le_trans hB hb,r⟩
def Ih(s:ByteArray):List Value:=[.string s]
theorem Fi(s:ByteArray):(Ih s).length=1:=rfl
theorem P0(l:List Int):l.flatMap kY=l.map (Value.int .i64):=by
 induction l with
 | nil=>rfl
 | cons x r ih=>rw [List.flatMap_cons,List.map_cons,ih];rfl
theorem PZ(l:List ByteArray):l.flatMap Ih=l.map Value.string:=by
 induction l with
 | nil=>rfl
 | cons x r ih=>rw [List.flatMap_cons,List.map_cons,ih];rfl
theorem UE(w:World):(zeroValue 9).run Tryz.prog w=.ok (.string ByteArray.empty) w:=by
 have h:(Tryz.prog.info? 9).map (fun i=>i.zero)=some (some (.string ByteArray.empty)):=by kernel_rfl
 cases hi:Tryz.prog.info? 9 with
 | none=>rw [hi] at h;cases h
 | some i =>rw [hi] at h;simp at h;simp [zeroValue,typeInfo,hi,h]
section
open Go.Shelf
def KJ(w:World)(B:Nat)(f:Nat)(lb:Array Value)(l:List Int)(p:Int->Bool):Prop :=∀ (W:World) (x:Int),x∈l->Below B w W->Calls Tryz.prog f (#[(Value.int .i64) x]++lb) W fun e w'=>e=.returned (.bool (p x))/\Below W.heap.size W w'
theorem zkN(f:Nat)(lb:Array Value)(p:Int->Bool)(l:List Int)(B g o c:Nat)(w:World)(xs:List Value)(eg:∀ args w,(callFunc f args).run Tryz.prog w=.ok (.enter f args) w)(hp:KJ w B f lb l p)(hB:B<=w.heap.size)(hg:Rw w g 3 xs)(hx:∀ (i:Nat) x,l[i]?=some x->xs[o+i]?=some ((Value.int .i64) x))(hl:l.length<=1000) :
  Calls Tryz.prog 178 #[.slice (some ⟨g,o,none⟩) l.length c,.func (.func f) #[] lb] w fun e w'=>∃ z:Int,e=.returned (.int .i64 z)/\Below w.heap.size w w'/\((z=-1/\∀ x∈l,p x=false)\/∃ k:Nat,z=k/\k<l.length/\(∀ (j:Nat) x,j<k->l[j]?=some x->p x=false)/\∃ x,l[k]?=some x/\p x=true):=by
 have HP:=af hp;have HG:=af hg;have HX:=af hx;clear hp hg hx;go_enter Tryz.func178,Tryz.ntmps178
 go_wp2;go_loopw [5,8] (fun _ iv wr=>∃ k:Nat,k<=l.length/\iv=.int .i64 k/\Hid (∀ (j:Nat) x,j<k->l[j]?=some x->p x=false)/\Below w.heap.size w wr) (fun _ iv _=>l.length-(intOf iv).toNat)
 case atStart=>exact⟨0,Nat.zero_le _,rfl,af (fun j x hj _=>absurd hj (Nat.not_lt_zero _)),zBr⟩
 case round =>
  obtain⟨k,hk,rfl,HK,hb⟩:=hrel;by_cases aM:k<l.length
  ·obtain⟨x,hxk⟩:∃ x,l[k]?=some x:=⟨l[k],zLg aM⟩;have bk:=((ae HG).same (hb.block g (ae HG).lt)).cell (ae HX k x hxk);have dj:=ae HP wr x (List.mem_of_getElem? hxk) (hb.mono hB);have HXK:=af hxk;have kz:=af hb;clear hxk hb;cases hq:p x with
   | false =>
    rw [hq] at dj;go_wp2_with (go_at_fn f;refine dj.mono ?_;rintro e w1 ⟨rfl,ay⟩)
    go_roundw
    case rel=>exact⟨k+1,by omega,by go_num,af (fun j y hj hy=>by
     by_cases e:j=k
     ·subst e;have:=(ae HXK).symm.trans hy;rw [<- zOi this];exact hq
     ·exact ae HK j y (by omega) hy),zTs kz ay⟩
    case measure=>simp [intOf];omega
   | true =>
    rw [hq] at dj;go_wp2_with (go_at_fn f;refine dj.mono ?_;rintro e w1 ⟨rfl,ay⟩)
    go_ret;exact⟨(k:Int),rfl,zTs kz ay,.inr ⟨k,rfl,aM,ae HK,x,ae HXK,hq⟩⟩
  ·have tJ:¬ ((k:Int)<(l.length:Int)):=by omega
   have kz:=af hb;clear hb;go_wp2;go_ret;exact⟨-1,rfl,ae kz,.inl ⟨rfl,fun x BK=>by obtain⟨j,hj⟩:=List.mem_iff_getElem?.1 BK;have:=(zLs hj).1;exact ae HK j x (by omega) hj⟩⟩
theorem YI(f:Nat)(lb:Array Value)(p:Int->Bool)(l:List Int)(B g o c:Nat)(w:World)(xs0:List Value)(eg:∀ args w,(callFunc f args).run Tryz.prog w=.ok (.enter f args) w)(hp:KJ w B f lb l p)(hB:B<=w.heap.size)(XI:B<=g)(ho:o=0)(hg:Rw w g 3 xs0)(hx:∀ (i:Nat) x,l[i]?=some x->xs0[o+i]?=some ((Value.int .i64) x))(hl:l.length<=1000)(hc:l.length<=c)(hxl:xs0.length=c) :
  Calls Tryz.prog 112 #[.slice (some ⟨g,o,none⟩) l.length c,.func (.func f) #[] lb] w fun e w'=>e=.returned (.slice (some ⟨g,o,none⟩) (l.filter fun x=>!p x).length c)/\∃ xs,Rw w' g 3 xs/\xs.length=c/\xs.take (l.filter fun x=>!p x).length=(l.filter fun x=>!p x).map (Value.int .i64)/\Below B w w':=by
 have HI:=af (zkN f lb p l B g o c w xs0 eg hp hB hg hx hl);have HP:=af hp;have HG:=af hg;have HX:=af hx;have xZ:=hg.lt;have HF:Hid ((l.filter fun x=>!p x)=(l.take l.length).filter fun x=>!p x):=af (by rw [List.take_length]);have Xs:∀ i,i<l.length->∃ x,l[i]?=some x:=fun i hi=>⟨l[i],zLg hi⟩
 have zfy:=af Xs;have HO:=af ho;have T5:=af hxl;clear hp hg hx Xs ho hxl;go_enter Tryz.func112,Tryz.ntmps112
 go_wp2_with fail
 refine(ae HI).mono ?_;rintro e w1 ⟨z,rfl,ay,hz⟩;have aL:=af ay;clear ay HI;rcases hz with ⟨rfl,bB⟩ | ⟨k0,rfl,hk0,XW,x0,DO,GP⟩
 ·have Nk:(l.filter fun x=>!p x)=l:=List.filter_eq_self.2 (fun x BK=>by rw [bB x BK];rfl);have BE:=af Nk;have oJ:=af bB;clear Nk bB HF;go_wp2;go_ret;refine⟨by rw [ae BE];rfl,xs0,(ae HG).same ((ae aL).block g xZ),ae T5,?_,(ae aL).mono hB⟩;rw [ae BE];exact mO (fun i x h=>by have:=ae HX i x h;rw [ae HO,Nat.zero_add] at this;exact this)
 ·have zfI:=af XW;have HX0:=af DO;have Zt:=af GP;clear XW DO GP;have zk9:((k0:Int) == -1)=false:=beq_eq_false_iff_ne.2 (by omega);have qh:Hid ((l.take (k0+1)).filter (fun x=>!p x)=l.take k0):=af (by rw [List.take_add_one,ae HX0];simp only [Option.toList_some,List.filter_append,List.filter_cons,ae Zt,Bool.not_true,if_neg Bool.false_ne_true,List.filter_nil,List.append_nil];refine List.filter_eq_self.2 (fun x BK=>?_);obtain⟨j,hj⟩:=List.mem_iff_getElem?.1 BK;have mG:=(zLs hj).1;rw [zLt] at mG;rw [List.getElem?_take,if_pos (by omega)] at hj;rw [ae zfI j x (by omega) hj];rfl);have HKL:Hid ((l.take k0).length=k0):=af (by rw [zLt];omega);go_wp2_with fail
  go_loopw [5,6,7] (fun iv jv _ wr=>∃ (j:Nat) (K:List Int) (xs:List Value),j<=l.length/\K.length<j/\iv=.int .i64 (K.length:Int)/\jv=.int .i64 (j:Int)/\Hid (K=(l.take j).filter fun x=>!p x)/\Hid (xs=K.map (Value.int .i64)++xs0.drop K.length)/\Rw wr g 3 xs/\Below B w wr) (fun _ jv _ _=>l.length-(intOf jv).toNat)
  case atStart=>exact⟨k0+1,l.take k0,xs0,by omega,by rw [ae HKL];omega,by rw [ae HKL],by go_num,af (ae qh).symm,af (by have:=mO (l:=l) (xs:=xs0) (f:=(Value.int .i64)) (fun i x h=>by have:=ae HX i x h;rw [ae HO,Nat.zero_add] at this;exact this);rw [ae HKL,List.map_take,<- this,List.take_take,Nat.min_eq_left (by omega),List.take_append_drop]),(ae HG).same ((ae aL).block g xZ),(ae aL).mono hB⟩
  case round =>
   obtain⟨j,K,xs,hj,hKj,rfl,rfl,HK,Zm,rP,hb⟩:=hrel;have Ay:xs.length=xs0.length:=by rw [ae Zm,zLa,zLm,zLd];have:=ae T5;omega
   have hxc:=ae T5;have ho0:=ae HO;have KM:=af (Ay.trans hxc);by_cases aM:j<l.length
   ·obtain⟨x,PA⟩:=ae zfy j aM;have bk:=rP.cell (i:=o+j) (v:=(Value.int .i64) x) (by have h1:=ae HX j x PA;rw [ae HO,Nat.zero_add] at h1 ⊢;rw [ae Zm,List.getElem?_append_right (by rw [zLm];omega),zLm,List.getElem?_drop,show K.length+(j-K.length)=j by omega];exact h1);obtain⟨VR,hold⟩:=rP.has (i:=o+K.length) (by omega);have hfz:=rP.frozen (o+K.length);have dj:=ae HP wr x (List.mem_of_getElem? PA) hb;have xY:=rP.lt;have Zo:=af rP;have kz:=af hb;have HXJ:=af PA;have zeB:(j:Int)<(l.length:Int):=by omega
    have BR:K.length<l.length:=by omega
    have nK:Hid ((l.take (j+1)).filter (fun x=>!p x)=K++(if p x=true then [] else [x])):=af (by rw [List.take_add_one,ae HXJ,ae HK];simp only [Option.toList_some,List.filter_append,List.filter_cons,List.filter_nil];cases p x <;> rfl);generalize PT:K.length=N at *;have sM:=af PT;clear rP hb PA PT Ay hxc ho0;cases hq:p x with
    | true =>
     rw [hq] at dj;go_wp2_with (go_at_fn f;refine dj.mono ?_;rintro e w2 ⟨rfl,aK⟩)
     go_roundw
     case rel=>exact⟨j+1,K,xs,by omega,by rw [ae sM];omega,by rw [ae sM],by go_num,af (by rw [ae nK,if_pos hq,List.append_nil]),by rw [ae sM];exact Zm,(ae Zo).same (aK.block g xY),(ae kz).trans (aK.mono (ae kz |>.size |> Nat.le_trans hB))⟩
     case measure=>simp [intOf];omega
    | false =>
     rw [hq] at dj;go_wp2_with (go_at_fn f;refine dj.mono ?_;rintro e w2 ⟨rfl,aK⟩;rw [<- aK.cell (p:=⟨g,o+N,none⟩) xY] at hold;rw [<- aK.frozen (p:=⟨g,o+N,none⟩) xY] at hfz)
     have zes:=(ae Zo).same (aK.block g xY);go_roundw
     case rel=>exact⟨j+1,K++[x],xs.set (o+N) ((Value.int .i64) x),by omega,by rw [zLa,ae sM];simp;omega,by rw [zLa,ae sM];go_num,by go_num,af (by rw [ae nK,if_neg (by rw [hq];simp)]),af (by
      rw [ae Zm,ae HO,Nat.zero_add,zLa,List.length_singleton,ae sM,List.map_append,List.set_append_right _ _ (by rw [zLm,ae sM];omega),zLm,ae sM,Nat.sub_self,List.append_assoc]
      congr 1
      rw [Er (by have:=ae T5;omega)];rfl),zes.set _ _,((ae kz).trans (aK.mono (ae kz |>.size |> Nat.le_trans hB))).setCell XI _⟩
     case measure=>simp [intOf];omega
   ·obtain rfl:j=l.length:=by omega
    have zeB:¬ (l.length:Int)<(l.length:Int):=by omega
    have hNc:K.length<=c:=by omega
    have hKF:K=l.filter fun x=>!p x:=(ae HK).trans (ae HF).symm
    have HKF:=af hKF;clear hKF;have mH:∀ ty,(Builtin.clear_ #[44] ty #[.slice (some ⟨g,o+K.length,none⟩) (l.length-K.length) (c-K.length)]).run Tryz.prog wr=.ok (.tuple #[]) (wr.setRow g (splice xs (o+K.length) (List.replicate (l.length-K.length) (.int .i64 0))).toArray) :=fun ty=>tY wr 44 3 ty (.int .i64 0) zu44 zero_le rfl rfl g (o+K.length) (l.length-K.length) (c-K.length) xs (by omega) (by omega) rP
    have Zo:=af rP;have kz:=af hb;have xY:=rP.lt;generalize PT:K.length=N at *;have sM:=af PT;clear rP hb PT Ay hxc ho0;have zle:N<=l.length:=by omega
    go_wp2;go_ret;refine⟨by rw [<- ae HKF,ae sM];rfl,splice xs (o+N) (List.replicate (l.length-N) (.int .i64 0)),(ae Zo).row _,?_,?_,below_setRow (ae kz) XI _⟩
    ·have q1:=ae KM;have q2:=ae HO;rw [zH (by rw [List.length_replicate];omega)];exact q1
    ·rw [<- ae HKF,ae sM,ae HO,Nat.zero_add,xE zNr (by have:=ae KM;omega),ae Zm,List.take_append_of_le_length (by rw [zLm,ae sM];omega),List.take_of_length_le (by rw [zLm,ae sM];omega)]
theorem W4(f:Nat)(lb:Array Value)(w:World):Calls Tryz.prog 178 #[.slice none 0 0,.func (.func f) #[] lb] w fun e w'=>e=.returned (.int .i64 (-1))/\Below w.heap.size w w':=by
 go_enter Tryz.func178,Tryz.ntmps178
 go_wp2;refine wp_loop_rounds 1 ?_;rw [rounds_succ];go_wp2;go_ret;exact⟨rfl,zBr⟩
theorem YK(f:Nat)(lb:Array Value)(w:World):Calls Tryz.prog 112 #[.slice none 0 0,.func (.func f) #[] lb] w fun e w'=>e=.returned (.slice none 0 0)/\Below w.heap.size w w':=by
 have HI:=af (W4 f lb w);go_enter Tryz.func112,Tryz.ntmps112
 go_wp2_with fail
 refine(ae HI).mono ?_;rintro e w1 ⟨rfl,ay⟩;have aL:=af ay;clear ay HI;go_wp2;go_ret;exact⟨rfl,ae aL⟩
theorem zi3(f:Nat)(lb:Array Value)(p:Int->Bool)(l:List Int)(B:Nat)(v:Value)(w:World)(eg:∀ args w,(callFunc f args).run Tryz.prog w=.ok (.enter f args) w)(hp:KJ w B f lb l p)(hB:B<=w.heap.size)(hv:bT kY 1 3 w B v l)(hl:l.length<=1000) :
  Calls Tryz.prog 112 #[v,.func (.func f) #[] lb] w fun e w'=>∃ v',e=.returned v'/\bT kY 1 3 w' B v' (l.filter fun x=>!p x)/\Below B w w':=by
 obtain⟨hq,hv | ⟨g,cap,cur,rfl,XI,hc,h3,h4,h5,h6⟩⟩:=hv
 ·obtain⟨rfl,h0⟩:=hv;have pw:l=[]:=List.eq_nil_of_length_eq_zero h0;subst pw;refine(YK f lb w).mono ?_;rintro e w' ⟨rfl,hb⟩;exact⟨_,rfl,bT.nil _ _,hb.mono hB⟩
 ·rw [Nat.mul_one] at h5 h6;have rP:Rw w g 3 cur.toList:=by unfold Rw;rw [hc]
  have e6:cur.toList.take l.length=l.map (Value.int .i64):=by rw [h6];exact P0 l
  refine(YI f lb p l B g 0 cap w cur.toList eg hp hB XI rfl rP (fun i x hi=>?_) hl h3 (by simpa using h5)).mono ?_
  ·have h7:(cur.toList.take l.length)[i]?=some ((Value.int .i64) x):=by rw [e6,List.getElem?_map,hi];rfl
   rw [List.getElem?_take,if_pos (zLs hi).1] at h7;rw [Nat.zero_add];exact h7
  ·rintro e w' ⟨rfl,xs,hr,hxl,ht,hb⟩;refine⟨_,rfl,⟨by rw [P0,zLm,Nat.mul_one],.inr ⟨g,cap,xs.toArray,rfl,XI,hr,?_,h4,by simpa using hxl,?_⟩⟩,hb⟩
   ·exact Nat.le_trans (List.length_filter_le _ _) h3
   ·rw [Nat.mul_one,P0];exact ht
end
section
open Go.Sort
open Go.Shelf
def Cy(l:List Int):Prop:=l.Pairwise (·<·)
theorem zbu{w:World}{g n:Nat}{F:Int->Option OV}{D:DataW Unit}{ks:List Int}(az:w.ownsMap Tryz.prog 3 obRd g n D)(hD:∀ k,Maps.has D (.int .i64 k)=(F k).isSome)(sC:Cy ks)(hm:∀ k,k∈ks ↔ (F k).isSome=true):ks.Perm (intKeys D):=by
 refine CollectedI.perm (left:=fun _=>false) ⟨?_,fun z=>?_⟩ az (Maps.int_keyed zu3) zu3 (fun _=>rfl)
 ·exact sC.imp (fun {a b} h e=>by omega)
 ·rw [hD,hm];simp
theorem zg0{w:World}{g n:Nat}{F:Int->Option OV}{D:DataW Unit}{ks:List Int}(az:w.ownsMap Tryz.prog 3 obRd g n D)(hp:ks.Perm (intKeys D)):Maps.size D=ks.length:=by have h1:=hp.length_eq;obtain⟨es,clock,_,_,_,e⟩:=az;rw [e] at h1 ⊢;unfold intKeys at h1;rw [zLm] at h1;exact h1.symm
theorem zaB(gm n:Nat)(D0:DataW Unit)(ks:List Int)(W:World)(az:W.ownsMap Tryz.prog 3 obRd gm n D0)(lq:ks.Perm (intKeys D0))(hr:Cy ks)(hl:ks.length<=1000) :
  Calls Tryz.prog 227 #[.func (.func 254) #[] #[.pointer (some ⟨W.heap.size,0,none⟩)]] (W.alloc (.cells #[.map (some gm)] 108)) fun e w' =>∃ v,e=.returned v/\bT kY 1 3 w' W.heap.size v ks/\Below W.heap.size W w':=by
 have cL:Maps.size D0<=1000:=by rw [zg0 (F:=fun _=>none) az lq];exact hl
 have F8:Maps.size D0<=maxLen:=by unfold maxLen;omega
 have tn:Maps.size D0 * 8<=140737488355328:=by omega
 have iq:=az.lt;have M7:SeqGives Fence.wide 2 Tryz.prog 254 #[.pointer (some ⟨W.heap.size,0,none⟩)] encZ (fun ss=>ss.Perm (intKeys D0)) (Maps.size D0) (W.alloc (.cells #[.map (some gm)] 108)) :=AnyZI.keys_gives (ρ:=DE) { zcK with } Fence.wide _ trivial rfl (by omega) W.heap.size gm n D0 _ (by simp) (by simp) (by obtain⟨es,clock,hb,Ft,hs,hD⟩:=az;exact⟨es,clock,(Below.heap_alloc _ _ gm iq).trans hb,Ft,hs,hD⟩);have cS:=AnyZI.sorted_in Fg Fence.wide 5 trivial trivial trivial trivial rfl (by omega) (LI _) (enters_of Tryz.func253 (by kernel_rfl) rfl) 254 #[.pointer (some ⟨W.heap.size,0,none⟩)] trivial (enters_of Tryz.func254 (by kernel_rfl) rfl) _ _ F8 tn _ M7;change CallsIn _ _ Tryz.prog 227 _ _ _ at cS;refine((callsIn_wide).1 cS).mono ?_;rintro e w' ⟨dv,ss,rfl,hS,bn,pw,hb⟩;have rP:=ownsRow_base_a (base':=W.heap.size) bn (by simp);have Z3:=hS.trans lq.symm;refine⟨dv,rfl,?_,((Below.refl _ W).alloc zNr _).trans (hb.mono (by simp))⟩;have e:ss.mergeSort (fun x y=>decide (x<=y))=ks:=(mergeSort_of_perm_i Z3).trans (List.mergeSort_of_pairwise (hr.imp (fun {a b} h=>by simp only [decide_eq_true_eq];omega)));unfold bT;rw [P0,<- Z3.length_eq];rw [e] at rP;exact rP
theorem O6(g n:Nat)(F:Int->Option OV)(U:List Int)(w:World)(h:Mp fI w g n F)(hU:Cy U)(eQ:∀ k,(F k).isSome=true->k∈U)(hn:U.length<=1000) :
  Calls Tryz.prog 176 #[.map (some g)] w fun e w'=>∃ v,e=.returned v/\bT kY 1 3 w' w.heap.size v (U.filter fun k=>(F k).isSome)/\Below w.heap.size w w':=by
 obtain⟨D,az,hD⟩:=h;have hr:Cy (U.filter fun k=>(F k).isSome):=List.Pairwise.filter _ hU;have hm:∀ k,k∈(U.filter fun k=>(F k).isSome) ↔ (F k).isSome=true:=fun k=>by rw [List.mem_filter];exact⟨fun h=>h.2,fun h=>⟨eQ k h,h⟩⟩
 have hp:=zbu (F:=F) az (fun k=>(hD k).1) hr hm;have HS:=af (zaB g n D _ w az hp hr (Nat.le_trans (List.length_filter_le _ _) hn));have HK:Hid (Calls Tryz.prog 228 #[.map (some g)] w fun e w'=>e=.returned (.func (.func 254) #[] #[.pointer (some ⟨w.heap.size,0,none⟩)])/\w'=w.alloc (.cells #[.map (some g)] 108)):=af ((callsIn_wide (n:=5)).1 (AnyZI.keys_in zcK Fence.wide 5 trivial rfl (some g) w));clear az hD hr hm hp eQ hU;go_enter Tryz.func176,Tryz.ntmps176
 go_wp2_with fail
 refine(ae HK).mono ?_;rintro e w1 ⟨rfl,rfl⟩;go_wp2_with fail
 refine(ae HS).mono ?_;rintro e w2 ⟨v,rfl,hl,hb⟩;have HL:=af hl;have HB:=af hb;obtain⟨a,m,c,rfl⟩:=hl.shape;clear hl hb HS HK;go_wp2;go_ret;exact⟨_,rfl,ae HL,ae HB⟩
end
section
open Go.Shelf
theorem zkG(k:Int)(pi pa pb ga gb na nb:Nat)(Fa Fb:Int->Option OV)(r:Bool)(w:World)(ci:w.cell? ⟨pi,0,none⟩=some (.func (.func 53) #[] #[]))(ca:w.cell? ⟨pa,0,none⟩=some (.map (some ga)))(cb:w.cell? ⟨pb,0,none⟩=some (.map (some gb)))(hA:Mp fI w ga na Fa)(hB:Mp fI w gb nb Fb)(hk:(fI).vA k)
  (hs:Calls Tryz.prog 53 #[oP ((Fa k).getD (fI).z),oP ((Fb k).getD (fI).z)] w fun e w'=>e=.returned (.bool r)/\Below w.heap.size w w') :
  Calls Tryz.prog 177 #[(Value.int .i64) k,.pointer (some ⟨pi,0,none⟩),.pointer (some ⟨pa,0,none⟩),.pointer (some ⟨pb,0,none⟩)] w fun e w'=>e=.returned (.bool r)/\Below w.heap.size w w':=by
 have l1:(Instr.lookup 108 (.map (some ga)) ((Value.int .i64) k) false).run Tryz.prog w=.ok (oP ((Fa k).getD (fI).z)) w:=hA.look hk;have l2:(Instr.lookup 108 (.map (some gb)) ((Value.int .i64) k) false).run Tryz.prog w=.ok (oP ((Fb k).getD (fI).z)) w:=hB.look hk;generalize oP ((Fa k).getD (fI).z)=va at *;generalize oP ((Fb k).getD (fI).z)=vb at *;have HS:=af hs;clear hA hB hs hk;go_enter Tryz.func177,Tryz.ntmps177
 go_wp2_with (go_at_call 53;refine(ae HS).mono ?_;rintro e w1 ⟨rfl,hb⟩)
 go_ret;exact⟨rfl,hb⟩
theorem Wl(ga gb na nb:Nat)(Fa Fb:Int->Option OV)(U:List Int)(p:Int->Bool)(w:World)(hA:Mp fI w ga na Fa)(hB:Mp fI w gb nb Fb)(hU:Cy U)(Ga:∀ k,(Fa k).isSome=true->k∈U)(F9:∀ k,(Fb k).isSome=true->k∈U)(dy:∀ k∈U,(fI).vA k)(hl:U.length<=1000)(hn:na<=20000/\nb<=20000)
  (hs:∀ k∈U,∀ W,Below w.heap.size w W->Calls Tryz.prog 53 #[oP ((Fa k).getD (fI).z),oP ((Fb k).getD (fI).z)] W fun e w'=>e=.returned (.bool (p k))/\Below W.heap.size W w')
  (GP:∀ k∈U,Fa k=none->Fb k=none->p k=true) :
  Calls Tryz.prog 110 #[.map (some ga),.map (some gb),.func (.func 53) #[] #[]] w fun e w'=>∃ v,e=.returned v/\bT kY 1 3 w' w.heap.size v (U.filter fun k=>!p k)/\Below w.heap.size w w':=by
 have gy:Below w.heap.size w (((w.alloc (.cells #[.map (some ga)] 108)).alloc (.cells #[.map (some gb)] 108)).alloc (.cells #[.func (.func 53) #[] #[]] 111)):=((zBr.alloc zNr _).alloc (by simp) _).alloc (by simp;omega) _;have c1:(((w.alloc (.cells #[.map (some ga)] 108)).alloc (.cells #[.map (some gb)] 108)).alloc (.cells #[.func (.func 53) #[] #[]] 111)).cell? ⟨w.heap.size,0,none⟩=some (.map (some ga)):=cC _ (cC _ (dK _ _ _));have c2:(((w.alloc (.cells #[.map (some ga)] 108)).alloc (.cells #[.map (some gb)] 108)).alloc (.cells #[.func (.func 53) #[] #[]] 111)).cell? ⟨w.heap.size+1,0,none⟩=some (.map (some gb)):=cC _ (by have:=dK (w.alloc (.cells #[.map (some ga)] 108)) (.map (some gb)) 108;rwa [aH] at this);have c3:(((w.alloc (.cells #[.map (some ga)] 108)).alloc (.cells #[.map (some gb)] 108)).alloc (.cells #[.func (.func 53) #[] #[]] 111)).cell? ⟨w.heap.size+1+1,0,none⟩=some (.func (.func 53) #[] #[]):=by have:=dK ((w.alloc (.cells #[.map (some ga)] 108)).alloc (.cells #[.map (some gb)] 108)) (.func (.func 53) #[] #[]) 111;rwa [aH,aH] at this
 have s0:(((w.alloc (.cells #[.map (some ga)] 108)).alloc (.cells #[.map (some gb)] 108)).alloc (.cells #[.func (.func 53) #[] #[]] 111)).heap.size=w.heap.size+1+1+1:=by rw [aH,aH,aH]
 have HC:=af (YU ga na Fa _ (hA.below gy));have iw:=af gy;have mC:=af c1;have vH:=af c2;have HC3:=af c3;have zl:=af s0;have HMA:=af hA;have HMB:=af hB;have PO:=hA.lt;have AM:=hB.lt;have HU:=af hU;have HIA:=af Ga;have HIB:=af F9;have yx:=af dy;have HS:=af hs;have Zt:=af GP;obtain⟨B0,mJ⟩:∃ B0,B0=w.heap.size:=⟨_,rfl⟩;have Ld:=af mJ;clear gy c1 c2 c3 s0 hA hB hU Ga F9 dy hs GP mJ;go_enter Tryz.func110,Tryz.ntmps110
 go_wp2_with fail
 refine(ae HC).mono ?_;rintro e w1 ⟨gE,rfl,hgE,uO,ay⟩;rw [ae zl] at hgE ay;have dm:Below w.heap.size w w1:=(ae iw).trans (ay.mono (by omega));have d1:=(ay.cell (p:=⟨w.heap.size,0,none⟩) (by show w.heap.size<_;omega)).trans (ae mC);have d2:=(ay.cell (p:=⟨w.heap.size+1,0,none⟩) (by show w.heap.size+1<_;omega)).trans (ae vH);have d3:=(ay.cell (p:=⟨w.heap.size+1+1,0,none⟩) (by show w.heap.size+1+1<_;omega)).trans (ae HC3);have nF:w.heap.size+1+1+1<=w1.heap.size:=by have:=uO.lt;omega
 have ZI:=af (zi6 gE gb na nb Fa Fb w1 uO ((ae HMB).below dm) (by omega) (by omega));have aL:=af dm;have HD1:=af d1;have HD3:=af d3;clear uO ay dm d1 d3 HC mC vH HC3 iw zl;go_wp2_with fail
 refine(ae ZI).mono ?_;rintro e w2 ⟨rfl,iP,qg⟩;have aK:Below (w.heap.size+1+1+1) w1 w2:=zBr.grown qg nF (fun j hj=>by cases hj;exact hgE);have cD:Below w.heap.size w w2:=(ae aL).trans (aK.mono (by omega));have e1:=(aK.cell (p:=⟨w.heap.size,0,none⟩) (by show w.heap.size<_;omega)).trans (ae HD1);have e2:=(aK.cell (p:=⟨w.heap.size+1,0,none⟩) (by show w.heap.size+1<_;omega)).trans d2;have e3:=(aK.cell (p:=⟨w.heap.size+1+1,0,none⟩) (by show w.heap.size+1+1<_;omega)).trans (ae HD3);have M6:w.heap.size+1+1+1<=w2.heap.size:=by have:=aK.size;omega
 have hov:∀ k,(jP Fa Fb k).isSome=true->k∈U:=fun k hk=>by
  unfold jP at hk;split at hk
  ·rename_i h;exact ae HIB k h
  ·exact ae HIA k hk
 have HR:=af (O6 gE _ _ U w2 iP (ae HU) hov hl);have br:=af cD;have CA:=af e1;have EI:=af e2;have HE3:=af e3;clear iP qg aK cD e1 e2 e3 d2 ZI HD1 HD3 aL hov;go_wp2_with fail
 refine(ae HR).mono ?_;rintro e w3 ⟨v3,rfl,lQ,bR⟩;have j8:Below w.heap.size w w3:=(ae br).trans (bR.mono (by omega));have AA:KJ w3 w2.heap.size 177 #[.pointer (some ⟨w.heap.size+1+1,0,none⟩),.pointer (some ⟨w.heap.size,0,none⟩),.pointer (some ⟨w.heap.size+1,0,none⟩)] (U.filter fun k=>(jP Fa Fb k).isSome) p:=fun W x hx hW=>by have Sw:=(List.mem_filter.1 hx).1;have Gg:Below w2.heap.size w2 W:=bR.trans hW;have Cq:Below w.heap.size w W:=(ae br).trans (Gg.mono (by omega));exact zkG x _ _ _ ga gb na nb Fa Fb (p x) W ((Gg.cell (p:=⟨w.heap.size+1+1,0,none⟩) (by show w.heap.size+1+1<_;omega)).trans (ae HE3)) ((Gg.cell (p:=⟨w.heap.size,0,none⟩) (by show w.heap.size<_;omega)).trans (ae CA)) ((Gg.cell (p:=⟨w.heap.size+1,0,none⟩) (by show w.heap.size+1<_;omega)).trans (ae EI)) ((ae HMA).below Cq) ((ae HMB).below Cq) (ae yx x Sw) (ae HS x Sw W Cq)
 have HD:=af (zi3 177 _ p _ w2.heap.size v3 w3 (enters_of Tryz.func177 (by kernel_rfl) rfl) AA bR.size lQ (Nat.le_trans (List.length_filter_le _ _) hl));have cT:=af j8;have tz:=af lQ;obtain⟨a3,m3,c3,rfl⟩:=lQ.shape;clear AA lQ bR j8 HR CA EI HE3;go_wp2_with fail
 refine(ae HD).mono ?_;rintro e w4 ⟨v4,rfl,tI,dO⟩;have OA:Hid (bT kY 1 3 w4 w.heap.size v4 (U.filter fun k=>!p k)):=af (by
  have hf:(U.filter fun k=>(jP Fa Fb k).isSome).filter (fun x=>!p x)=U.filter fun k=>!p k:=by
   rw [List.filter_filter];refine List.filter_congr (fun k hk=>?_);cases hq:p k with
   | true=>rfl
   | false =>
    show(!false && (jP Fa Fb k).isSome)=!false
    cases ha:Fa k with
    | some x=>unfold jP;rw [ha];cases hb:(Fb k).isSome <;> simp [hb]
    | none =>
     cases hb:Fb k with
     | some y=>unfold jP;rw [hb];rfl
     | none=>have:=ae Zt k hk ha hb;rw [hq] at this;cases this
  rw [hf] at tI;exact bT.Jh tI (by omega))
 have ez:=af ((ae cT).trans (dO.mono (by omega)));obtain⟨a4,m4,c4,rfl⟩:=tI.shape;clear tI dO HD tz;go_wp2;go_ret;exact⟨_,rfl,ae OA,ae ez⟩
end
abbrev IM:=Option Addr×Nat×List Int
def mi(x:IM):Value:=.slice x.1 x.2.2.length x.2.1
def Zl(w:World)(g:Nat)(l:List IM):Prop:=Rw w g 30 (l.map mi)/\∀ x∈l,Bs w x.1 x.2.1 x.2.2
theorem Zl.below{w w':World}{g:Nat}{l:List IM}(h:Zl w g l)(hb:Below w.heap.size w w'):Zl w' g l:=⟨h.1.same (hb.block g h.1.lt),fun x hx=>(h.2 x hx).below hb⟩
theorem Zl.cell{w:World}{g:Nat}{l:List IM}(h:Zl w g l){i:Nat}{x:IM}(hx:l[i]?=some x):w.cell? ⟨g,i,none⟩=some (mi x):=h.1.cell (by rw [List.getElem?_map,hx];rfl)
def mpC(g:Nat):List Value:=[.map (some g)]
theorem Pj(g:Nat):(mpC g).length=1:=rfl
theorem Ph(g:Nat):∀ u∈mpC g,u.oneCell'=true:=by intro u hu;simp [mpC] at hu;subst hu;rfl
theorem WU:(Tryz.prog.info? 108).map (fun i=>(i.zero,i.size,i.bytes))=some (some (.map none),1,8):=by kernel_rfl
theorem WT:(Tryz.prog.info? 112).map (fun i=>(i.zero,i.size,i.bytes))=some (some (.map none),1,8):=by kernel_rfl
theorem MU(t1 t2:Int)(a1 a2:Option Addr)(c1 c2:Nat)(l1 l2:List Int)(w:World)(h1:Bs w a1 c1 l1)(h2:Bs w a2 c2 l2) :
  Calls Tryz.prog 53 #[oP (t1,a1,l1.length,c1),oP (t2,a2,l2.length,c2)] w fun e w'=>e=.returned (.bool (decide (t1=t2) && decide (l1=l2)))/\Below w.heap.size w w':=by
 have hb:Below w.heap.size w ((w.alloc (.cells #[.int .i64 t1,.slice a1 l1.length c1] 102)).alloc (.cells #[.int .i64 t2,.slice a2 l2.length c2] 102)):=(zBr.alloc zNr _).alloc (by simp) _;have HB:=af hb;have HE:=af (nA a1 a2 c1 c2 l1 l2 _ (h1.below hb) (h2.below hb));clear h1 h2 hb;generalize decide (l1=l2)=r at *;generalize l1.length=n1 at *;generalize l2.length=n2 at *;unfold oP;dsimp only;by_cases ht:t1=t2
 ·subst ht;have hte:(t1 == t1)=true:=beq_self_eq_true _;rw [decide_eq_true rfl,Bool.true_and];go_enter Tryz.func53,Tryz.ntmps53
  go_wp2_with (go_at_call 113;refine(ae HE).mono ?_;rintro e w1 ⟨rfl,rfl⟩)
  all_goals (go_ret;exact⟨rfl,ae HB⟩)
 ·have hte:(t1 == t2)=false:=beq_eq_false_iff_ne.2 ht;rw [decide_eq_false ht,Bool.false_and];clear HE;go_enter Tryz.func53,Tryz.ntmps53
  go_wp2
  all_goals (go_ret;exact⟨rfl,ae HB⟩)
theorem WK(x y:Int)(w:World):Calls Tryz.prog 55 #[.int .i64 x,.int .i64 y] w fun e w'=>e=.returned (.bool (x == y))/\Below w.heap.size w w':=by
 go_enter Tryz.func55,Tryz.ntmps55
 go_wp2;go_ret;exact⟨rfl,zBr⟩
structure Pk (N:Nat) (out:List Int) (a:Nat):Prop where
 aV:aB out
 len:out.length=N
 kV:bj out
 lo:288<=a/\a<=N
 ends:∀ k,1<=k->k<=40->aq out k≠0->(ai out k).2.1+(ai out k).2.2.1<=a
 none_:∀ i,i<8->isRoot (rowAt out i)=false
theorem Pk.start{N:Nat}(h1:288<=N)(h2:N<=6400):Pk N (ag N) 288:=by obtain⟨z1,z2,z3⟩:=dV (n:=N) h1 h2;exact⟨z1,aj _,bW _,by omega,fun k k1 k2 ht=>absurd (z2 k) ht,fun i hi=>z3 i hi⟩
def zZ(out:List Int)(a:Nat)(h t:Int)(bs:List Int):List Int:=splice (bP out (h,(a:Int),(bs.length:Int),t)) a bs
theorem Pk.next{N a:Nat}{out:List Int}(o:Pk N out a){h t:Int}{bs:List Int}(hb:bj bs)(h1:1<=h)(h2:h<=40)(h3:aq out h=0)(h4:0<=t)(h5:t<=15)(h6:1<=bs.length)(h7:bs.length<=1000)(h9:a+bs.length<=N) :
  Pk N (zZ out a h t bs) (a+bs.length)/\aD (zZ out a h t bs) h=(t,bs)/\(∀ k,1<=k->k<=40->k≠h->aD (zZ out a h t bs) k=aD out k/\aq (zZ out a h t bs) k=aq out k)/\aq (zZ out a h t bs) h≠0:=by
 have BP:=o.lo;have hlen:=o.len;have he:di out (h,(a:Int),(bs.length:Int),t)=0:=bS.2 ⟨o.aV.cW,aF.2 ⟨h1,h2⟩,h4,h5,by dsimp only;omega,by dsimp only;omega,by dsimp only;omega,by dsimp only;omega⟩;have gI:∀ k,1<=k->k<=40->aq out k≠0->nZ (h,(a:Int),(bs.length:Int),t) (ai out k)=false:=fun k k1 k2 hk=>pq.2 (.inl (o.ends k k1 k2 hk))
 obtain⟨pf,po,pt,pe,pl,ptl⟩:=qz o.aV he h3 gI;obtain⟨qo,qs⟩:=zT o.aV he h3 gI;dsimp only at po pt pe qo qs;have dc:a+bs.length<=(bP out (h,(a:Int),(bs.length:Int),t)).length:=by rw [pl];omega
 obtain⟨lf,ll,le,lo⟩:=nX pf BP.1 dc;have uR:ai (zZ out a h t bs) h=(h,(a:Int),(bs.length:Int),t):=(le _ h1 h2).2.trans pe;have Xh:aq (zZ out a h t bs) h≠0:=by unfold zZ;rw [(le _ h1 h2).1];exact pt
 have JH:∀ k,1<=k->k<=40->k≠h->aq (zZ out a h t bs) k=aq out k/\ai (zZ out a h t bs) k=ai out k:=fun k k1 k2 hk=>⟨(le k k1 k2).1.trans (po k k1 k2 hk).1,(le k k1 k2).2.trans (po k k1 k2 hk).2⟩
 have XA:(zZ out a h t bs).length=N:=ll.trans (pl.trans hlen);have hN:=o.aV.len;refine⟨⟨lf,XA,?_,by omega,fun k k1 k2 hk=>?_,fun i hi=>?_⟩,?_,fun k k1 k2 hk=>⟨?_,(JH k k1 k2 hk).1⟩,Xh⟩
 ·unfold zZ;refine bN ?_ hb;unfold bP;rw [if_pos he];exact bN o.kV (oE _)
 ·by_cases gO:k=h
  ·subst gO;rw [uR];dsimp only;omega
  ·obtain⟨t1,t2⟩:=JH k k1 k2 gO;rw [t1] at hk;rw [t2];have:=o.ends k k1 k2 hk;omega
 ·have:rowAt (zZ out a h t bs) i=rowAt out i:=by
   apply bQ
   ·rw [aS (by omega),aS (by omega)]
   ·intro j hj;rw [aS (by omega)] at hj;rw [bH hj,bH hj];unfold zZ;rw [aY dc (.inl (by omega))];exact ptl _ (by omega)
  rw [this];exact o.none_ i hi
 ·unfold aD gu;rw [if_neg Xh,uR];dsimp only
  congr 1
  unfold cP zZ;rw [zTn,zTn];apply bQ
  ·rw [zLt,zLd,length_splice dc,pl];omega
  ·intro j hj;rw [zLt,zLd,length_splice dc,pl] at hj;have e5:=bY dc (show j<bs.length by omega);have e6:((splice (bP out (h,(a:Int),(bs.length:Int),t)) a bs).drop a |>.take bs.length).getD j 0=(splice (bP out (h,(a:Int),(bs.length:Int),t)) a bs).getD (a+j) 0:=by simp [List.getD,List.getElem?_drop,show j<bs.length by omega]
   rw [e6,e5]
 ·have e1:=lo k k1 k2 (fun BQ=>by rw [(po k k1 k2 hk).1] at BQ;rw [(po k k1 k2 hk).2];left;exact o.ends k k1 k2 BQ);exact e1.trans (qo k k1 k2 hk)
def kF(O:Int->Int×List Int):Nat->Nat
 | 0=>0
 | k+1=>kF O k+if (O ((k:Int)+1)).1<0 then 0 else (O ((k:Int)+1)).2.length
def gp(N:Nat)(O:Int->Int×List Int):Nat->Int×Nat×List Int
 | 0=>(0,288,ag N)
 | k+1=>if (gp N O k).1≠0 then gp N O k else if (O ((k:Int)+1)).1<0 then gp N O k
  else if N<(gp N O k).2.1+(O ((k:Int)+1)).2.length then (4,0,[])
  else (0,(gp N O k).2.1+(O ((k:Int)+1)).2.length,zZ (gp N O k).2.2 (gp N O k).2.1 ((k:Int)+1) (O ((k:Int)+1)).1 (O ((k:Int)+1)).2)
def tx(O:Int->Int×List Int):Prop:=∀ h,1<=h->h<=40->O h=(-1,[])\/(0<=(O h).1/\(O h).1<=15/\1<=(O h).2.length/\(O h).2.length<=1000/\bj (O h).2)
theorem zV{N:Nat}(h1:288<=N)(h2:N<=6400){O:Int->Int×List Int}(hO:tx O):∀ k:Nat,k<=40 ->((gp N O k).1=0 ↔ 288+kF O k<=N)/\((gp N O k).1≠0->gp N O k=(4,0,[]))/\((gp N O k).1=0->Pk N (gp N O k).2.2 (gp N O k).2.1/\(gp N O k).2.1=288+kF O k/\(∀ h:Int,1<=h->h<=(k:Int)->aD (gp N O k).2.2 h=O h)/\∀ h:Int,(k:Int)<h->h<=40->aq (gp N O k).2.2 h=0)
 | 0,_=>by obtain⟨z1,z2,z3⟩:=dV (n:=N) h1 h2;refine⟨⟨fun _=>by show 288+0<=N;omega,fun _=>rfl⟩,fun h=>absurd rfl h,fun _=>⟨Pk.start h1 h2,rfl,fun h a b=>by omega,fun h _ _=>z2 h⟩⟩
 | k+1,hk=>by
  obtain⟨i1,i2,i3⟩:=zV h1 h2 hO k (by omega);have dy:=hO ((k:Int)+1) (by omega) (by omega);have eS:gp N O (k+1)=if (gp N O k).1≠0 then gp N O k else if (O ((k:Int)+1)).1<0 then gp N O k
   else if N<(gp N O k).2.1+(O ((k:Int)+1)).2.length then (4,0,[])
   else (0,(gp N O k).2.1+(O ((k:Int)+1)).2.length,zZ (gp N O k).2.2 (gp N O k).2.1 ((k:Int)+1) (O ((k:Int)+1)).1 (O ((k:Int)+1)).2):=rfl
  have eL:kF O (k+1)=kF O k+if (O ((k:Int)+1)).1<0 then 0 else (O ((k:Int)+1)).2.length:=rfl
  rw [eS,eL];by_cases h0:(gp N O k).1=0
  ·rw [if_neg (fun h=>h h0)];obtain⟨p1,p2,p3,p4⟩:=i3 h0;have hle:=i1.1 h0;by_cases hn:(O ((k:Int)+1)).1<0
   ·rw [if_pos hn,if_pos hn,Nat.add_zero];have AF:O ((k:Int)+1)=(-1,[]):=by
     rcases dy with h | h
     ·exact h
     ·omega
    refine⟨i1,i2,fun _=>⟨p1,p2,fun h a b=>?_,fun h a b=>p4 h (by omega) b⟩⟩;by_cases e:h=(k:Int)+1
    ·subst e;rw [AF,dF (p4 _ (by omega) (by omega))]
    ·exact p3 h a (by omega)
   ·rw [if_neg hn,if_neg hn,p2];rcases dy with hz | ⟨g1,g2,g3,g4,g5⟩
    ·rw [hz] at hn;exact absurd (by decide) hn
    by_cases hf:N<288+kF O k+(O ((k:Int)+1)).2.length
    ·rw [if_pos hf];exact⟨⟨fun h=>absurd h (by decide),fun h=>by omega⟩,fun _=>rfl,fun h=>absurd h (by decide)⟩
    ·rw [if_neg hf];rw [p2] at p1;obtain⟨q1,q2,q3,q4⟩:=p1.next g5 (h:=(k:Int)+1) (t:=(O ((k:Int)+1)).1) (by omega) (by omega) (p4 _ (by omega) (by omega)) g1 g2 g3 g4 (by omega);refine⟨⟨fun _=>by omega,fun _=>rfl⟩,fun h=>absurd rfl h,fun _=>⟨q1,by dsimp only;omega,fun h a b=>?_,fun h a b=>?_⟩⟩
     ·by_cases e:h=(k:Int)+1
      ·subst e;exact q2
      ·dsimp only;rw [(q3 h a (by omega) e).1];exact p3 h a (by omega)
     ·dsimp only;rw [(q3 h (by omega) b (by omega)).2];exact p4 h (by omega) b
  ·rw [if_pos h0];refine⟨⟨fun h=>absurd h h0,fun h=>absurd (i1.2 (by omega)) h0⟩,i2,fun h=>absurd h h0⟩
theorem Pf{L:List Int}(hf:aB L)(hb:bj L):tx (aD L):=fun h h1 h2=>by
 by_cases ht:aq L h=0
 ·exact .inl (dF ht)
 ·obtain⟨e1,e2,e3,e4,e5,e6⟩:=hf.jB h1 h2 ht;have tG:aD L h=((ai L h).2.2.2,cP L (ai L h).2.1 (ai L h).2.2.1):=by unfold aD gu;rw [if_neg ht]
  have hl:(cP L (ai L h).2.1 (ai L h).2.2.1).length=(ai L h).2.2.1.toNat:=by unfold cP;rw [zLt,zLd];omega
  rw [tG];refine .inr ⟨e5,e6,by rw [hl];omega,by rw [hl];omega,fun z hz=>hb z (List.mem_of_mem_drop (List.mem_of_mem_take hz))⟩
theorem zY{L:List Int}(hf:aB L):∀ k:Nat,k<=40->(kF (aD L) k:Int)=dr (entsK L k)
 | 0,_=>rfl
 | k+1,hk=>by
  have ih:=zY hf k (by omega);have e1:entsK L (k+1)=entsK L k++if aq L ((k:Int)+1)=0 then [] else [ai L ((k:Int)+1)]:=rfl
  have eL:kF (aD L) (k+1)=kF (aD L) k+if (aD L ((k:Int)+1)).1<0 then 0 else (aD L ((k:Int)+1)).2.length:=rfl
  rw [e1,eL,iU];by_cases ht:aq L ((k:Int)+1)=0
  ·rw [dF ht,if_pos ht,if_pos (by decide)]
   show((kF (aD L) k+0:Nat):Int)=dr (entsK L k)+0
   omega
  ·obtain⟨g1,g2,g3,g4,g5,g6⟩:=hf.jB (h:=(k:Int)+1) (by omega) (by omega) ht;have tG:aD L ((k:Int)+1)=((ai L ((k:Int)+1)).2.2.2,cP L (ai L ((k:Int)+1)).2.1 (ai L ((k:Int)+1)).2.2.1):=by unfold aD gu;rw [if_neg ht]
   have hl:(cP L (ai L ((k:Int)+1)).2.1 (ai L ((k:Int)+1)).2.2.1).length=(ai L ((k:Int)+1)).2.2.1.toNat:=by unfold cP;rw [zLt,zLd];omega
   rw [if_neg ht,tG];dsimp only;rw [if_neg (by omega),hl]
   show((kF (aD L) k+(ai L ((k:Int)+1)).2.2.1.toNat:Nat):Int)=dr (entsK L k)+((ai L ((k:Int)+1)).2.2.1+0)
   omega
theorem Ma{L:List Int}(hf:aB L):288+kF (aD L) 40<=L.length:=by
 have h0:=zY hf 40 zNr;have h2:=zq hf;have hg:=fh hf;have hl:=hf.len;have h3:=hg.kB.sum hg (by omega);have h4:=(wu (fun r hr=>(hg.kB.ts hg (by omega) r hr).2.1)).1;have h5:dr (dh L)=dr (entsK L 40):=by rw [<- j3,<- j3];exact ni ((iV (L:=L)).map jJ)
 omega
def tU(m a b:List Int)(h:Int):Int×List Int:=if aD m h=aD a h then aD b h else aD a h
def E0(m a b:List Int)(h:Int):Bool:=decide (aD m h≠aD a h) && (decide (aD m h≠aD b h) && decide (aD a h≠aD b h))
theorem zw{m a:List Int}(h:Int):tU m a m h=aD a h/\E0 m a m h=false:=by
 unfold tU E0;refine⟨?_,by simp⟩;split
 ·rename_i e;exact e
 ·rfl
theorem E4{m a b:List Int}(ha:aB a)(nk:bj a)(hb:aB b)(Cn:bj b):tx (tU m a b):=fun h h1 h2=>by
 unfold tU;split
 ·exact Pf hb Cn h h1 h2
 ·exact Pf ha nk h h1 h2
section
open Go.MapKept
open Go.ChangeMaps
def sf(w:World)(F:Int->Option OV)(O:Int->Int×List Int):Prop :=∀ k,(F k=none/\O k=(-1,[]))\/∃ t a c l,F k=some (t,a,l.length,c)/\O k=(t,l)/\Bs w a c l/\l≠[]/\0<=t/\t<=15/\l.length<=1000
def oL(L:List Int)(k:Int):Int×List Int:=if 1<=k/\k<=40 then aD L k else (-1,[])
def Ml(L:List Int)(O:Int->Int×List Int)(e:(Int×Int×Int×Int)):Int->Int×List Int:=fun k=>if k=e.1 then gu L e else O k
def FO(L:List Int)(es:List (Int×Int×Int×Int)):Int->Int×List Int:=es.foldl (Ml L) (fun _=>(-1,[]))
theorem Di(L:List Int)(es:List (Int×Int×Int×Int))(e:(Int×Int×Int×Int)):FO L (es++[e])=Ml L (FO L es) e:=by unfold FO;rw [List.foldl_append];rfl
theorem Dj(L:List Int):∀ K:Nat,FO L (entsK L K)=fun k=>if 1<=k/\k<=(K:Int) then aD L k else (-1,[])
 | 0=>by
  funext k
  show(-1,[])=_
  rw [if_neg (by omega)]
 | K+1=>by
  have ih:=Dj L K;have e1:entsK L (K+1)=entsK L K++if aq L ((K:Int)+1)=0 then [] else [ai L ((K:Int)+1)]:=rfl
  rw [e1];by_cases ht:aq L ((K:Int)+1)=0
  ·rw [if_pos ht,List.append_nil,ih];funext k;by_cases hk:1<=k/\k<=(K:Int)
   ·rw [if_pos hk,if_pos (by omega)]
   ·rw [if_neg hk];by_cases gO:k=(K:Int)+1
    ·subst gO;rw [if_pos (by omega),dF ht]
    ·rw [if_neg (by omega)]
  ·rw [if_neg ht,Di,ih];funext k;unfold Ml;by_cases gO:k=(K:Int)+1
   ·subst gO;rw [if_pos (show(K:Int)+1=(ai L ((K:Int)+1)).1 from rfl),if_pos (by omega)];unfold aD;rw [if_neg ht]
   ·rw [if_neg (show ¬ k=(ai L ((K:Int)+1)).1 from gO)];dsimp only;by_cases hk:1<=k/\k<=(K:Int)
    ·rw [if_pos hk,if_pos (by omega)]
    ·rw [if_neg hk,if_neg (by omega)]
theorem za5(L:List Int):FO L (entsK L 40)=oL L:=Dj L 40
section
variable {w w':World} {F G:Int->Option OV} {O Q:Int->Int×List Int}
theorem sf.zI(h:sf w F O)(k:Int):(F k).isSome=true ↔ O k≠(-1,[]):=by
 rcases h k with ⟨h1,h2⟩ | ⟨t,a,c,l,h1,h2,h3,h4,h5,h6⟩
 ·rw [h1,h2];simp
 ·rw [h1,h2];refine⟨fun _ e=>?_,fun _=>rfl⟩;have:=congrArg Prod.fst e;dsimp only at this;omega
theorem sf.same(hF:sf w F O)(hG:sf w G Q)(k:Int)(W:World)(hW:Below w.heap.size w W) :
  Calls Tryz.prog 53 #[oP ((F k).getD fI.z),oP ((G k).getD fI.z)] W fun e w'=>e=.returned (.bool (decide (O k=Q k)))/\Below W.heap.size W w':=by
 have key:∀ {t1 t2:Int} {a1 a2:Option Addr} {c1 c2:Nat} {l1 l2:List Int} {r:Bool},Bs W a1 c1 l1->Bs W a2 c2 l2->(decide (t1=t2) && decide (l1=l2))=r->Calls Tryz.prog 53 #[oP (t1,a1,l1.length,c1),oP (t2,a2,l2.length,c2)] W fun e w'=>e=.returned (.bool r)/\Below W.heap.size W w':=fun h1 h2 hr=>by rw [<- hr];exact MU _ _ _ _ _ _ _ _ W h1 h2
 rcases hF k with ⟨h1,h2⟩ | ⟨t,a,c,l,h1,h2,h3,h4,h5,h6⟩
 ·rcases hG k with ⟨g1,g2⟩ | ⟨t',a',c',l',g1,g2,g3,g4,g5,g6⟩
  ·rw [h1,g1,h2,g2];exact key (l1:=[]) (l2:=[]) (eC _) (eC _) (by simp)
  ·rw [h1,g1,h2,g2];refine key (l1:=[]) (eC _) (g3.below hW) ?_;rw [decide_eq_false (show ¬ ([]:List Int)=l' from fun e=>g4 e.symm),Bool.and_false,decide_eq_false];intro e;exact g4 (congrArg Prod.snd e).symm
 ·rcases hG k with ⟨g1,g2⟩ | ⟨t',a',c',l',g1,g2,g3,g4,g5,g6⟩
  ·rw [h1,g1,h2,g2];refine key (l2:=[]) (h3.below hW) (eC _) ?_;rw [decide_eq_false h4,Bool.and_false,decide_eq_false];intro e;exact h4 (congrArg Prod.snd e)
  ·rw [h1,g1,h2,g2];refine key (h3.below hW) (g3.below hW) ?_;by_cases e:(t,l)=(t',l')
   ·rw [decide_eq_true e];obtain⟨rfl,rfl⟩:=Prod.mk.inj e;simp
   ·rw [decide_eq_false e,Bool.and_eq_false_iff,decide_eq_false_iff_not,decide_eq_false_iff_not];by_cases e1:t=t'
    ·exact .inr (fun e2=>e (by rw [e1,e2]))
    ·exact .inl e1
end
theorem sf.Hk{w:World}{F:Int->Option OV}{O:Int->Int×List Int}(h:sf w F O){L:List Int}{e:(Int×Int×Int×Int)}{a:Option Addr}{c:Nat}(hb:Bs w a c (gu L e).2)(hl:(gu L e).2≠[])(ht:0<=e.2.2.2/\e.2.2.2<=15)(hn:(gu L e).2.length<=1000):sf w (tQ F e.1 (some (e.2.2.2,a,(gu L e).2.length,c))) (Ml L O e):=fun k=>by
 unfold tQ Ml;by_cases hk:k=e.1
 ·rw [if_pos hk,if_pos hk];exact .inr ⟨e.2.2.2,a,c,_,rfl,rfl,hb,hl,ht.1,ht.2,hn⟩
 ·rw [if_neg hk,if_neg hk];exact h k
def xw(w:World)(L:List Int)(W:World)(g:Nat):Prop:=∃ F,Mp fI W g 40 F/\sf w F (oL L)
theorem zhf(w0:World)(a:Option Addr)(cap:Nat)(L:List Int)(w:World)(SV:Bs w0 a cap L)(hw0:Below w0.heap.size w0 w)(hf:aB L) :
  Calls Tryz.prog 49 #[.slice a L.length cap] w fun e w'=>∃ g,e=.returned (.tuple #[.map (some g),.nilIface])/\w.heap.size<=g/\xw w0 L w' g/\Below w.heap.size w w':=by
 have aX:=SV.below hw0;have HE:=af (fQ a cap L w aX hf.cW);have hlen:=b8 L 40;have iq:=aX.2.2.1;have D1:=@run_makeMap Tryz.prog;have nC:=af SV;have oJ:=af (za5 L);have zlX:Hid (∀ e∈entsK L 40,1<=e.1/\e.1<=40/\288<=e.2.1/\1<=e.2.2.1/\e.2.2.1<=1000/\e.2.1+e.2.2.1<=L.length/\0<=e.2.2.2/\e.2.2.2<=15):=af (fun e he=>by obtain⟨j,hj,ht,rfl⟩:=eO.1 he;obtain⟨g1,g2,g3,g4,g5,g6⟩:=hf.jB (h:=(j:Int)+1) (by omega) (by omega) ht;exact⟨by show 1<=(j:Int)+1;omega,by show(j:Int)+1<=40;omega,g1,g2,g3,g4,g5,g6⟩);have SM:=hf.len;generalize entsK L 40=E at *;clear aX hf SV hw0;go_enter Tryz.func49,Tryz.ntmps49
 go_wp2_with fail
 refine(ae HE).mono ?_;rintro e w1 ⟨v1,rfl,cz,ay⟩;obtain⟨a1,c1,rfl,dL⟩:=cz.kk iI (by omega);have mB:=af dL;have aL:=af ay;have nF:=ay.size;clear cz dL ay HE;go_wp2_with fail
 go_loopw [8,20] (fun _ iv wr=>∃ (k:Nat) (F:Int->Option OV),k<=E.length/\iv=.int .i64 (k:Int)/\Mp fI wr w1.heap.size k F/\Hid (sf w0 F (FO L (E.take k)))/\Below w1.heap.size w1 wr) (fun _ iv _=>E.length-(intOf iv).toNat)
 case atStart=>exact⟨0,fun _=>none,Nat.zero_le _,rfl,Mp.made fI w1,af (fun k=>.inl ⟨rfl,rfl⟩),zBr.alloc zNr _⟩
 case round =>
  obtain⟨k,F,hk,rfl,px,HO,ao⟩:=hrel;by_cases aM:k<E.length
  ·obtain⟨b1,o1,rfl,dR⟩:=((ae mB).below ao).2.2.2 (by intro e;rw [e] at aM;simp at aM);obtain⟨r,hr⟩:∃ r,E[k]?=some r:=⟨E[k],zLg aM⟩;obtain⟨q0,q1,q2,q3⟩:=fG.jB (cap:=0) dR hr;obtain⟨p1,p2,p3,p4,p5,p6,p7,p8⟩:=ae zlX r (List.mem_of_getElem? hr);have nK:Hid (FO L (E.take (k+1))=Ml L (FO L (E.take k)) r):=af (by rw [List.take_add_one,hr];exact Di _ _ _);obtain⟨x,at_,n,t⟩:=r;dsimp only at *;obtain⟨A,rfl⟩:=Int.eq_ofNat_of_zero_le (show 0<=at_ by omega);obtain⟨N,rfl⟩:=Int.eq_ofNat_of_zero_le (show 0<=n by omega);obtain⟨a2,gM,fD⟩:=db (P:=Tryz.prog) (t:=30) zu30 (by kernel_rfl) (ae nC) A (by omega);have K5:(L.drop A).length=L.length-A:=zLd ..;obtain⟨a3,oq,j7⟩:=jm (P:=Tryz.prog) (t:=30) zu30 (by kernel_rfl) fD N (by omega);rw [K5] at oq;have Cg:(gu L (x,(A:Int),(N:Int),t)).2=(L.drop A).take N:=by show cP L A N=_;unfold cP;rw [zTn,zTn]
   have mm:((L.drop A).take N).length=N:=by rw [zLt];omega
   have BW:Hid (sf w0 (tQ F x (some (t,a3,N,cap-A))) (Ml L (FO L (E.take k)) (x,(A:Int),(N:Int),t))):=af (by have:=(ae HO).Hk (L:=L) (e:=(x,(A:Int),(N:Int),t)) (a:=a3) (c:=cap-A) (by rw [Cg];exact j7) (by rw [Cg];intro e;rw [e] at mm;simp at mm;omega) ⟨p7,p8⟩ (by rw [Cg,mm];omega);dsimp only at this;rw [Cg,mm] at this;exact this);have fp:Below wr.heap.size wr (wr.alloc (.cells #[.int .i64 x,.int .i64 (A:Int),.int .i64 (N:Int),.int .i64 t] 125)):=zBr.alloc zNr _;have PQ:fI.Eok (t,a3,N,cap-A):=by have:=zdY t j7 (by intro e;rw [e] at mm;simp at mm;omega);rw [mm] at this;exact this
   obtain⟨w2,jw,iP,j5⟩:=Mp.store (show Mp fI (wr.alloc (.cells #[.int .i64 x,.int .i64 (A:Int),.int .i64 (N:Int),.int .i64 t] 125)).drew w1.heap.size k F from(px.below fp).same rfl) (by unfold maxLen;omega) (k:=x) (show -9223372036854775808<=x/\x<=9223372036854775807 by omega) PQ;have Xj:(Instr.mapUpdate 108 (.map (some w1.heap.size)) (.int .i64 x) (.agg #[.int .i64 t,.slice a3 N (cap-A)])).run Tryz.prog (wr.alloc (.cells #[.int .i64 x,.int .i64 (A:Int),.int .i64 (N:Int),.int .i64 t] 125)).drew=.ok () w2:=jw;have mI:=ao.trans (fp.mono ao.size);have br:Hid (Below w1.heap.size w1 w2):=af (mI.drew.grown j5.grown mI.size (fun j hj=>by cases hj;exact zNr));have EH:=af iP;have g1:=block_lt_of_cell q0;have hwl:=px.lt;have cc:∀ j v,(#[Value.int .i64 x,.int .i64 (A:Int),.int .i64 (N:Int),.int .i64 t]:Array Value)[j]?=some v->(wr.alloc (.cells #[.int .i64 x,.int .i64 (A:Int),.int .i64 (N:Int),.int .i64 t] 125)).cell? ⟨wr.heap.size,j,none⟩=some v:=fun j v hv=>by rw [cell_of_row _ _ _ _ _ _ (heap_alloc_new wr _)];exact hv
   have k0:=cc 0 _ rfl;have k1:=cc 1 _ rfl;have k2:=cc 2 _ rfl;have k3:=cc 3 _ rfl;have cw:∀ j v,(wr.alloc (.cells #[.int .i64 x,.int .i64 (A:Int),.int .i64 (N:Int),.int .i64 t] 125)).cell? ⟨wr.heap.size,j,none⟩=some v->w2.cell? ⟨wr.heap.size,j,none⟩=some v:=fun j v hv=>j5.grown.cell hv (fun e=>by have:=zOi e;dsimp only at this;omega)
   have s0:=cw 0 _ k0;have s1:=cw 1 _ k1;have s2:=cw 2 _ k2;have s3:=cw 3 _ k3;clear dR hr fD j7 K5 Cg mm PQ fp j5 mI px ao iP jw cc cw;go_upto_region 8 with fail
   generalize hwx:wr.alloc (.cells #[.int .i64 x,.int .i64 (A:Int),.int .i64 (N:Int),.int .i64 t] 125)=wx at *;go_region_held3 (fun w'=>w'.cell? ⟨wr.heap.size,0,none⟩=some (.int .i64 x)/\w'.cell? ⟨wr.heap.size,1,none⟩=some (.int .i64 (A:Int))/\w'.cell? ⟨wr.heap.size,2,none⟩=some (.int .i64 (N:Int))/\w'.cell? ⟨wr.heap.size,3,none⟩=some (.int .i64 t)) (first | exact⟨s0,s1,s2,s3⟩ | go_keep | (go_split_ands;refine⟨?_,?_,?_,?_⟩ <;> go_keep))
    (fail)
   clear s0 s1 s2 s3 k0 k1 k2 k3;go_wp2;go_roundw
   case rel=>exact⟨k+1,_,by omega,by go_num,ae EH,af (by rw [ae nK];exact ae BW),ae br⟩
   case measure=>simp [intOf];omega
  ·have AJ:E.take k=E:=List.take_of_length_le (by omega);have HL:Hid (xw w0 L wr w1.heap.size):=af (by have ho:=ae HO;rw [AJ,ae oJ] at ho;exact⟨F,px.mono (by omega),ho⟩);have br:=zTr aL ao;have tJ:¬ ((k:Int)<(E.length:Int)):=by omega
   clear AJ px ao HO;go_wp2;go_ret2;exact⟨_,rfl,nF,ae HL,ae br⟩
end
theorem xw.same{w0 W W':World}{L:List Int}{g:Nat}(h:xw w0 L W g)(hs:W'.heap[g]?=W.heap[g]?):xw w0 L W' g:=by obtain⟨F,h1,h2⟩:=h;exact⟨F,h1.same hs,h2⟩
theorem xw.isMap{w0 W:World}{L:List Int}{g:Nat}(h:xw w0 L W g):∃ es clock,W.heap[g]?=some (.map es clock):=by obtain⟨F,h1,h2⟩:=h;exact h1.isMap
def Zf(w:World)(ims:List IM)(gs:List Nat)(W:World):Prop:=∀ (i:Nat) x y,ims[i]?=some x->gs[i]?=some y->w.heap.size<=y/\xw w x.2.2 W y
theorem ziX(ims:List IM)(g:Nat)(w:World)(h:Zl w g ims)(hf:∀ x∈ims,aB x.2.2)(hl:ims.length<=10) :
  Calls Tryz.prog 48 #[.func (.func 49) #[] #[],.slice (some ⟨g,0,none⟩) ims.length ims.length] w fun e w'=>∃ v gs,e=.returned (.tuple #[v,.nilIface])/\bT mpC 1 108 w' w.heap.size v gs/\gs.length=ims.length/\Zf w ims gs w'/\Below w.heap.size w w':=by
 obtain⟨i0,eP,cY,dw,dz⟩:=info_parts WU;have HI:=af h;have HF:=af hf;clear h hf;go_enter Tryz.func48,Tryz.ntmps48
 go_wp2;go_loopw [6,8,9,10,13] (fun v _ _ _ iv wr=>∃ (k:Nat) (gs:List Nat),k<=ims.length/\gs.length=k/\iv=.int .i64 (k:Int)/\bT mpC 1 108 wr w.heap.size v gs/\Hid (Zf w ims gs wr)/\Below w.heap.size w wr) (fun _ _ _ _ iv _=>ims.length-(intOf iv).toNat)
 case atStart=>exact⟨0,[],Nat.zero_le _,rfl,rfl,bT.nil _ _,af (fun i x y _ hy=>by simp at hy),zBr⟩
 case round =>
  obtain⟨k,gs,hk,hgk,rfl,az,HR,ao⟩:=hrel;obtain⟨va,vm,vc,rfl⟩:=az.shape;by_cases aM:k<ims.length
  ·obtain⟨x,hx⟩:∃ x,ims[k]?=some x:=⟨ims[k],zLg aM⟩;have BK:=List.mem_of_getElem? hx;have bk:=((ae HI).below ao).cell hx;have xx:=af (zhf w x.1 x.2.1 x.2.2 wr ((ae HI).2 x BK) ao (ae HF x BK));have xZ:g<wr.heap.size:=Nat.lt_of_lt_of_le (ae HI).1.lt ao.size;have HX:=af hx;have ki:=af az;have kz:=af ao;obtain⟨xa,xc,xl⟩:=x;unfold mi at bk;dsimp only at *;generalize hxn:xl.length=XN at *;have HXN:=af hxn;clear hx BK az ao hxn;go_wp2_with fail
   refine(ae xx).mono ?_;rintro e w2 ⟨y,rfl,hy,sw,aK⟩;have cD:Below w.heap.size w w2:=zTs kz aK;have bR:Below w2.heap.size w2 (w2.alloc (.cells #[.map (some y)] 108)):=zBr.alloc zNr _;have nB:=af (((ae ki).below aK).below bR);have jK:Hid ((w2.alloc (.cells #[.map (some y)] 108)).heap[w2.heap.size]?=some (.cells (mpC y).toArray 108 (0,0))):=af (heap_alloc_new _ _);have cT:=af (cD.trans (bR.mono cD.size));have Zr:=af sw;have zfL:=af bR;have OF:=af aK;have hsw:=(ae kz).size;have gM:=aK.size;have hyl:y<w2.heap.size:=by obtain⟨es,cl,hm⟩:=sw.isMap;exact(zAg hm).1
   clear sw aK cD bR xx;go_wp2_with (at_builtin;refine gj rfl _ _ 98 rfl w.heap.size i0 (.map none) 8 Tryz.underlying98 eP cY dw dz rfl (by decide) (by decide) _ _ rfl (ae nB) w2.heap.size y rfl (ae jK) rfl (Ph _) (by omega) (by simp;omega) ?_)
   intro v9 w9 aZ mr qP;have mn:∀ j,j<w2.heap.size->(∃ es cl,w2.heap[j]?=some (.map es cl))->w9.heap[j]?=w2.heap[j]?:=fun j hj hm=>by
    obtain⟨es,cl,hm⟩:=hm;have qO:=(ae zfL).block j hj;refine(qP j (by first | omega | (rw [aH];omega)) (fun e=>?_)).trans qO;rcases (ae nB).2 with ⟨e0,_⟩ | ⟨gq,cap,cur,e0,_,hc,_⟩
    ·rw [e0] at e;simp [Value.ownBlock] at e
    ·rw [e0] at e;simp [Value.ownBlock] at e;subst e;rw [qO,hm] at hc;cases hc
   have HR9:Hid (Zf w ims (gs++[y]) w9):=af (fun i x' y' W9 xU=>by
    by_cases hi:i<gs.length
    ·rw [List.getElem?_append_left hi] at xU;obtain⟨h1,h2⟩:=ae HR i x' y' W9 xU;obtain⟨es,cl,hm⟩:=h2.isMap;have JK:=(zAg hm).1;have hs:=(ae OF).block y' JK;exact⟨h1,(h2.same hs).same (mn y' (by omega) ⟨es,cl,hs.trans hm⟩)⟩
    ·rw [List.getElem?_append_right (by omega)] at xU;have eP:i-gs.length=0:=by have:=(zLs xU).1;simp at this;omega
     rw [eP] at xU;simp at xU;subst xU;have hik:i=k:=by omega
     subst hik;have e2:=(ae HX).symm.trans W9;obtain rfl:=zOi e2;exact⟨by omega,(ae Zr).same (mn y hyl (ae Zr).isMap)⟩)
   have pS:=af aZ;have jI:=af ((ae cT).trans mr);obtain⟨a9,m9,c9,rfl⟩:=aZ.shape;clear aZ mr qP mn nB cT jK;go_wp2;go_roundw
   case rel=>exact⟨k+1,gs++[y],by omega,by rw [zLa,hgk];rfl,by go_num,ae pS,HR9,ae jI⟩
   case measure=>simp [intOf];omega
  ·have HO:=af az;have br:=af ao;have tJ:¬ ((k:Int)<(ims.length:Int)):=by omega
   have HKE:Hid (gs.length=ims.length):=af (by omega);clear az ao;go_wp2;go_ret2
   first | exact⟨_,gs,rfl,ae HO,ae HKE,ae HR,ae br⟩ | exact⟨_,rfl,gs,ae HO,ae HKE,ae HR,ae br⟩
section
open Go.Shelf
def il(L:List Int):Int:=if b9 L.length=false then 3 else if yP L=[] then 0 else 6
def ckR:List (List Int)->Int
 | []=>0
 | L :: r=>if il L=0 then ckR r else il L
def Be(n:Nat)(l:List IM):Bool:=l.any fun x=>decide (x.2.2.length≠n)
def lu(n:Nat)(l:List IM):Int:=if Be n l=true then 3 else ckR (l.map (·.2.2))
theorem YY{l:List (List Int)}:∀ {k:Nat} {L:List Int},l[k]?=some L->(∀ M∈l.take k,il M=0)->il L≠0->ckR l=il L:=by
 induction l with
 | nil=>intro k L h;simp at h
 | cons M r ih =>
  intro k L h h0 hL;cases k with
  | zero =>
   simp at h;subst h
   show(if il M=0 then _ else _)=_
   rw [if_neg hL]
  | succ k =>
   show(if il M=0 then _ else _)=_
   rw [if_pos (h0 M (by simp))];exact ih (by simpa using h) (fun N hN=>h0 N (by simp [hN])) hL
theorem Qj{l:List (List Int)}(h:∀ M∈l,il M=0):ckR l=0:=by
 induction l with
 | nil=>rfl
 | cons M r ih =>
  show(if il M=0 then _ else _)=_
  rw [if_pos (h M (by simp))];exact ih (fun N hN=>h N (by simp [hN]))
theorem zb8(x:IM)(B n:Nat)(W:World)(hc:W.cell? ⟨B,0,none⟩=some (.int .i64 n)) :
  FnGives Tryz.prog 107 #[.pointer (some ⟨B,0,none⟩)] #[mi x] (.bool (decide (x.2.2.length≠n))) W:=by
 show Calls Tryz.prog 107 #[mi x,.pointer (some ⟨B,0,none⟩)] W _
 have he:((x.2.2.length:Int) != (n:Int))=decide (x.2.2.length≠n):=by
  by_cases e:x.2.2.length=n
  ·rw [e];simp
  ·rw [decide_eq_true e,bne_iff_ne];omega
 unfold mi;generalize decide (x.2.2.length≠n)=r at *;generalize x.2.2.length=m at *;go_enter Tryz.func107,Tryz.ntmps107
 go_wp2;go_ret;exact⟨rfl,0,rfl⟩
theorem zfm(g B n:Nat)(l:List IM)(w:World)(h:Zl w g l)(hB:B<w.heap.size)(hc:w.cell? ⟨B,0,none⟩=some (.int .i64 n))(hl:l.length<=10) :
  Calls Tryz.prog 106 #[.slice (some ⟨g,0,none⟩) l.length l.length,.func (.func 107) #[] #[.pointer (some ⟨B,0,none⟩)]] w fun e w'=>e=.returned (.bool (Be n l))/\Below w.heap.size w w':=by
 have hp:PredAt Tryz.prog 107 #[.pointer (some ⟨B,0,none⟩)] mi (fun x=>decide (x.2.2.length≠n)) w:=fun W x hb=>zb8 x B n W ((hb.cell (p:=⟨B,0,none⟩) hB).trans hc)
 have c:=AnyE.slices_ContainsFunc cfB mi (fun x=>decide (x.2.2.length≠n)) 107 #[.pointer (some ⟨B,0,none⟩)] (enters_of Tryz.func107 (by kernel_rfl) rfl) g 0 l.length l.length l w hp zNr (by omega) (fun j hj=>by rw [Nat.zero_add];exact h.cell (by rw [getElem!_pos l j hj];exact zLg hj));change Calls Tryz.prog 106 _ _ _ at c;refine c.mono ?_;rintro e w' ⟨rfl,q,rfl⟩;rw [List.take_length];exact⟨rfl,below_drewN' zBr q⟩
theorem TG(g:Nat)(l:List IM)(x0:IM)(w:World)(h:Zl w g l)(h0:l[0]?=some x0)(hl:l.length<=10) :
  Calls Tryz.prog 47 #[.slice (some ⟨g,0,none⟩) l.length l.length] w fun e w'=>e=.returned (aR (lu x0.2.2.length l))/\Below w.heap.size w w':=by
 have jf:0<l.length:=(zLs h0).1;have Cm:=h.cell h0;have ay:Below w.heap.size w (w.alloc (.cells #[.int .i64 (x0.2.2.length:Int)] 3)):=zBr.alloc zNr _;have HC:=af (zfm g w.heap.size x0.2.2.length l _ (h.below ay) (by rw [aH];omega) (dK _ _ _) hl);have HI:=af h;have xZ:=h.1.lt;have aL:=af ay;unfold lu;have HT:=af (fun(k:Nat) (x:IM) (hx:l[k]?=some x) (h:∀ M∈(l.map (·.2.2)).take k,il M=0) (hn:il x.2.2≠0)=>YY (l:=l.map (·.2.2)) (k:=k) (L:=x.2.2) (by rw [List.getElem?_map,hx];rfl) h hn);have HA:=af (fun(h:∀ M∈l.map (·.2.2),il M=0)=>Qj h);generalize ckR (l.map (·.2.2))=CR at *;unfold mi at Cm;obtain⟨a0,c00,l0⟩:=x0;dsimp only at *;generalize l0.length=n0 at *;generalize Be n0 l=CL at *;cases CL with
 | true =>
  rw [if_pos rfl,aC 3 (by decide)];go_enter Tryz.func47,Tryz.ntmps47
  go_wp2_with fail
  refine(ae HC).mono ?_;rintro e w2 ⟨rfl,aK⟩;have br:=zTr aL aK;clear aK HC;go_wp2;go_ret;exact⟨rfl,ae br⟩
 | false =>
  rw [if_neg (by simp)];go_enter Tryz.func47,Tryz.ntmps47
  go_wp2_with fail
  refine(ae HC).mono ?_;rintro e w2 ⟨rfl,aK⟩;have br:=zTr aL aK;clear aK HC aL;go_wp2;go_loopw [5,6,7,18] (fun _ _ _ iv wr=>∃ k:Nat,k<=l.length/\iv=.int .i64 (k:Int)/\Hid (∀ M∈(l.map (·.2.2)).take k,il M=0)/\Below w.heap.size w wr) (fun _ _ _ iv _=>l.length-(intOf iv).toNat)
  case atStart=>exact⟨0,Nat.zero_le _,rfl,af (fun M hM=>by simp at hM),ae br⟩
  case round =>
   obtain⟨k,hk,rfl,HK,ao⟩:=hrel;by_cases aM:k<l.length
   ·obtain⟨x,hx⟩:∃ x,l[k]?=some x:=⟨l[k],zLg aM⟩;have BK:=List.mem_of_getElem? hx;have bk:=((ae HI).below ao).cell hx;have CC:=af (Qk x.1 x.2.1 x.2.2 wr (((ae HI).2 x BK).below ao));have HTX:=af (fun h2=>ae HT k x hx (ae HK) h2);have hgw:g<wr.heap.size:=Nat.lt_of_lt_of_le xZ ao.size;have nK:Hid (il x.2.2=0->∀ M∈(l.map (·.2.2)).take (k+1),il M=0):=af (fun h1 M hM=>by
     rw [List.take_add_one,List.getElem?_map,hx] at hM;rcases zMa hM with hM | hM
     ·exact ae HK M hM
     ·simp at hM;rw [hM];exact h1)
    have kz:=af ao;obtain⟨xa,xc,xl⟩:=x;unfold mi at bk;unfold il at HTX nK;unfold wv at CC;have mH:(yP xl).length<=100:=by
     unfold yP;split
     ·unfold bh;have h1:=rT xl 40;have h2:=rD xl 8;rw [zLa];omega
     ·simp
    dsimp only at *;clear hx BK ao;generalize hcf:yP xl=CF at *;have hlq:b9 xl.length=false->CF=[]:=fun h=>by rw [<- hcf];unfold yP;rw [if_neg (by rw [h];simp)]
    generalize b9 xl.length=LB at *;generalize xl.length=XN at *;clear hcf;cases LB with
    | false =>
     rw [if_neg (by simp),aC 3 (by decide)] at CC;have UA:Hid (CR=3):=af (by have:=ae HTX (by simp);simpa using this);clear HTX nK hlq;go_wp2_with fail
     refine(ae CC).mono ?_;rintro e w4 ⟨v4,rfl,tI,dO⟩;obtain⟨a4,c4,rfl,_⟩:=tI.kk fM (by omega);have ez:=zTr kz dO;clear tI dO CC;go_wp2;go_ret;exact⟨by rw [ae UA,aC 3 (by decide)];rfl,ae ez⟩
    | true =>
     rw [if_pos rfl,aA] at CC;by_cases XS:CF=[]
     ·subst XS;have HKK:=af (ae nK (by simp));clear HTX nK hlq;go_wp2_with fail
      refine(ae CC).mono ?_;rintro e w4 ⟨v4,rfl,tI,dO⟩;obtain⟨a4,c4,rfl,_⟩:=tI.kk fM (by simp);have ez:=zTr kz dO;clear tI dO CC;go_wp2;go_roundw
      case rel=>exact⟨k+1,by omega,by go_num,HKK,ae ez⟩
      case measure=>simp [intOf];omega
     ·have UA:Hid (CR=6):=af (by have:=ae HTX (by simp [XS]);simpa [XS] using this);have D7:0<CF.length:=List.length_pos_iff.2 XS;clear HTX nK hlq XS;go_wp2_with fail
      refine(ae CC).mono ?_;rintro e w4 ⟨v4,rfl,tI,dO⟩;obtain⟨a4,c4,rfl,_⟩:=tI.kk fM (by omega);have ez:=zTr kz dO;clear tI dO CC;generalize CF.length=N at *;have hgt:(0:Int)<(N:Int):=by omega
      go_wp2;go_ret;exact⟨by rw [ae UA,aC 6 (by decide)];rfl,ae ez⟩
   ·have ez:=af ao;have UA:Hid (CR=0):=af (ae HA (fun M hM=>ae HK M (by rw [List.take_of_length_le (by rw [zLm];omega)];exact hM)));have tJ:¬ ((k:Int)<(l.length:Int)):=by omega
    clear ao;go_wp2;go_ret;exact⟨by rw [ae UA,aA];rfl,ae ez⟩
def fL:List Int:=(List.range 40).map fun i:Nat=>(i:Int)+1
theorem kH{k:Int}:k∈fL ↔ 1<=k/\k<=40:=by
 unfold fL;rw [List.mem_map];constructor
 ·rintro ⟨i,hi,rfl⟩;have:=List.mem_range.1 hi;omega
 ·intro h;exact⟨(k-1).toNat,List.mem_range.2 (by omega),by omega⟩
theorem uM:Cy fL:=by unfold Cy fL;rw [List.pairwise_map];exact List.pairwise_lt_range.imp (fun {a b} h=>by omega)
theorem uN:fL.length=40:=by unfold fL;rw [zLm,List.length_range]
theorem zho{L:List Int}{k:Int}(h:oL L k≠(-1,[])):k∈fL:=by
 unfold oL at h;split at h
 ·rename_i hk;exact kH.2 hk
 ·exact absurd rfl h
theorem sf.inU{w:World}{F:Int->Option OV}{L:List Int}(h:sf w F (oL L)):∀ k,(F k).isSome=true->k∈fL:=fun k hk=>zho ((h.zI k).1 hk)
theorem PG:∀ k∈fL,fI.vA k:=fun k hk=>by
 have:=kH.1 hk
 show -9223372036854775808<=k/\k<=9223372036854775807
 omega
theorem sf.zcE{w:World}{F G:Int->Option OV}{O Q:Int->Int×List Int}(hF:sf w F O)(hG:sf w G Q)(k:Int)(h1:F k=none)(h2:G k=none):decide (O k=Q k)=true:=by
 rcases hF k with ⟨_,e1⟩ | ⟨t,a,c,l,e1,_⟩
 ·rcases hG k with ⟨_,e2⟩ | ⟨t,a,c,l,e2,_⟩
  ·rw [e1,e2];simp
  ·rw [h2] at e2;cases e2
 ·rw [h1] at e1;cases e1
theorem YX{l:List (List Int)}(h:ckR l=0):∀ M∈l,il M=0:=by
 induction l with
 | nil=>intro M hM;cases hM
 | cons N r ih =>
  unfold ckR at h;intro M hM;by_cases e:il N=0
  ·rw [if_pos e] at h;rcases zMc hM with rfl | hM
   ·exact e
   ·exact ih h M hM
  ·rw [if_neg e] at h;exact absurd h e
theorem NY{L:List Int}(h:il L=0):aB L:=by
 unfold il at h;by_cases h1:b9 L.length=false
 ·rw [if_pos h1] at h;cases h
 ·rw [if_neg h1] at h;have hq:b9 L.length=true:=by simpa using h1
  by_cases h2:yP L=[]
  ·have hl:=bF.1 hq;refine⟨by omega,?_⟩;unfold yP at h2;rw [if_pos hq] at h2;exact h2
  ·rw [if_neg h2] at h;cases h
theorem NZ{n:Nat}{l:List IM}(h:lu n l=0):∀ x∈l,aB x.2.2/\x.2.2.length=n:=by
 unfold lu at h;by_cases h1:Be n l=true
 ·rw [if_pos h1] at h;cases h
 ·rw [if_neg h1] at h;intro x hx;refine⟨NY (YX h _ (List.mem_map.2 ⟨x,hx,rfl⟩)),?_⟩;refine Classical.byContradiction fun hn=>h1 ?_
  unfold Be;exact List.any_eq_true.2 ⟨x,hx,decide_eq_true hn⟩
end
def KZ(N:Nat)(O:Int->Int×List Int)(S:Int×Nat×List Int)(k:Int):Int×Nat×List Int :=if S.1≠0 then S else if N<S.2.1+(O k).2.length then (4,0,[]) else (0,S.2.1+(O k).2.length,zZ S.2.2 S.2.1 k (O k).1 (O k).2)
def qC(N:Nat)(O:Int->Int×List Int)(ks:List Int):Int×Nat×List Int:=ks.foldl (KZ N O) (0,288,ag N)
theorem IP(N:Nat)(O:Int->Int×List Int)(ks:List Int)(k:Int):qC N O (ks++[k])=KZ N O (qC N O ks) k:=by unfold qC;rw [List.foldl_append];rfl
theorem IQ{N:Nat}{O:Int->Int×List Int}{ks:List Int}{j:Nat}{k:Int}(h:ks[j]?=some k):qC N O (ks.take (j+1))=KZ N O (qC N O (ks.take j)) k:=by rw [List.take_add_one,h];exact IP N O _ k
theorem Da{N:Nat}{O:Int->Int×List Int}:∀ (ks:List Int) (S:Int×Nat×List Int),S.1≠0->ks.foldl (KZ N O) S=S
 | [],S,h=>rfl
 | k :: r,S,h=>by
  show r.foldl (KZ N O) (KZ N O S k)=S
  have e:KZ N O S k=S:=by unfold KZ;rw [if_pos h]
  rw [e];exact Da r S h
theorem Rt{N:Nat}{O:Int->Int×List Int}{ks:List Int}{j:Nat}(h:(qC N O (ks.take j)).1≠0):qC N O ks=qC N O (ks.take j):=by
 have e:qC N O ks=(ks.drop j).foldl (KZ N O) (qC N O (ks.take j)):=by unfold qC;rw [<- List.foldl_append,List.take_append_drop]
 rw [e,Da _ _ h]
def upH(K:Nat):List Int:=(List.range K).map fun i:Nat=>(i:Int)+1
theorem UR(K:Nat):upH (K+1)=upH K++[(K:Int)+1]:=by unfold upH;rw [List.range_succ,List.map_append];rfl
theorem Pb(N:Nat)(O:Int->Int×List Int):∀ K:Nat,gp N O K=qC N O ((upH K).filter fun k=>decide (0<=(O k).1))
 | 0=>rfl
 | K+1=>by
  have ih:=Pb N O K;rw [UR,List.filter_append];have eS:gp N O (K+1)=if (gp N O K).1≠0 then gp N O K else if (O ((K:Int)+1)).1<0 then gp N O K
   else if N<(gp N O K).2.1+(O ((K:Int)+1)).2.length then (4,0,[])
   else (0,(gp N O K).2.1+(O ((K:Int)+1)).2.length,zZ (gp N O K).2.2 (gp N O K).2.1 ((K:Int)+1) (O ((K:Int)+1)).1 (O ((K:Int)+1)).2):=rfl
  by_cases h:0<=(O ((K:Int)+1)).1
  ·have e1:([(K:Int)+1].filter fun k=>decide (0<=(O k).1))=[(K:Int)+1]:=by simp [h]
   rw [e1,IP,<- ih,eS];unfold KZ;rw [if_neg (show ¬ (O ((K:Int)+1)).1<0 by omega)]
  ·have e1:([(K:Int)+1].filter fun k=>decide (0<=(O k).1))=[]:=by simp [h]
   rw [e1,List.append_nil,<- ih,eS];rw [if_pos (show(O ((K:Int)+1)).1<0 by omega)];split <;> rfl
theorem VD(N:Nat)(O:Int->Int×List Int):gp N O 40=qC N O (fL.filter fun k=>decide (0<=(O k).1)):=Pb N O 40
theorem VE{N:Nat}(h1:288<=N)(h2:N<=6400){O:Int->Int×List Int}(hO:tx O){ks:List Int}(hk:∀ k∈ks,1<=k/\k<=40/\0<=(O k).1)(hn:ks.Pairwise (·<·)) :∀ j:Nat,j<=ks.length->(qC N O (ks.take j)).1=0->Pk N (qC N O (ks.take j)).2.2 (qC N O (ks.take j)).2.1/\∀ h:Int,1<=h->h<=40->h ∉ ks.take j->aq (qC N O (ks.take j)).2.2 h=0
 | 0,_,_=>by obtain⟨z1,z2,z3⟩:=dV (n:=N) h1 h2;rw [List.take_zero];exact⟨Pk.start h1 h2,fun h _ _ _=>z2 h⟩
 | j+1,hj,h0=>by
  obtain⟨k,hkj⟩:∃ k,ks[j]?=some k:=⟨ks[j],zLg (by omega)⟩;have hnx:=IQ (N:=N) (O:=O) hkj;have GL:ks.take (j+1)=ks.take j++[k]:=by rw [List.take_add_one,hkj];rfl
  rw [hnx] at h0 ⊢;obtain⟨g1,g2,g3⟩:=hk k (List.mem_of_getElem? hkj);by_cases e0:(qC N O (ks.take j)).1=0
  ·obtain⟨i1,i2⟩:=VE h1 h2 hO hk hn j (by omega) e0;have zk6:k ∉ ks.take j:=fun hm=>by obtain⟨i,hi⟩:=List.mem_iff_getElem?.1 hm;have hil:=(zLs hi).1;rw [zLt] at hil;rw [List.getElem?_take,if_pos (by omega)] at hi;have aM:ks[i]'(by omega)<ks[j]'(by omega):=List.pairwise_iff_getElem.1 hn i j (by omega) (by omega) (by omega);obtain⟨_,e1⟩:=zLs hi;obtain⟨_,e2⟩:=zLs hkj;omega
   generalize qC N O (ks.take j)=S at *;unfold KZ at h0 ⊢;rw [if_neg (fun h=>h e0)] at h0 ⊢;by_cases hf:N<S.2.1+(O k).2.length
   ·rw [if_pos hf] at h0;cases h0
   ·rw [if_neg hf] at h0 ⊢;rcases hO k g1 g2 with hz | ⟨q1,q2,q3,q4,q5⟩
    ·rw [hz] at g3;exact absurd g3 (by decide)
    obtain⟨p1,p2,p3,p4⟩:=i1.next q5 (h:=k) (t:=(O k).1) g1 g2 (i2 k g1 g2 zk6) q1 q2 q3 q4 (by omega);refine⟨p1,fun h a b hh=>?_⟩;have aO:h≠k:=fun e=>hh (by rw [GL,e];simp)
    dsimp only;rw [(p3 h a b aO).2];exact i2 h a b (fun hm=>hh (by rw [GL];simp [hm]))
  ·exfalso
   unfold KZ at h0;rw [if_pos e0] at h0;exact e0 h0
theorem VC{N:Nat}{O:Int->Int×List Int}{S:Int×Nat×List Int}{k:Int}(h:S.1=0)(hf:N<S.2.1+(O k).2.length):KZ N O S k=(4,0,[]):=by unfold KZ;rw [if_neg (fun x=>x h),if_pos hf]
theorem VB{N:Nat}{O:Int->Int×List Int}{S:Int×Nat×List Int}{k:Int}(h:S.1=0)(hf:¬ N<S.2.1+(O k).2.length):KZ N O S k=(0,S.2.1+(O k).2.length,zZ S.2.2 S.2.1 k (O k).1 (O k).2):=by unfold KZ;rw [if_neg (fun x=>x h),if_neg hf]
theorem zdS{N a:Nat}{out:List Int}(o:Pk N out a){h t:Int}{n:Nat}(h1:1<=h)(h2:h<=40)(h4:0<=t)(h5:t<=15)(h6:1<=n)(h7:n<=1000)(h9:a+n<=N):di out (h,(a:Int),(n:Int),t)=0:=by have BP:=o.lo;have hlen:=o.len;exact bS.2 ⟨o.aV.cW,aF.2 ⟨h1,h2⟩,h4,h5,by dsimp only;omega,by dsimp only;omega,by dsimp only;omega,by dsimp only;omega⟩
theorem Y8{B:Nat}{a w:World}(h:Below B a w)(q:Nat):Below B a (w.drewN q):=⟨h.os,h.tape,h.output,h.size,h.block⟩
theorem SF{w:World}{F:Int->Option OV}{O:Int->Int×List Int}(hF:sf w F O):(fL.filter fun k=>(F k).isSome)=fL.filter fun k=>decide (0<=(O k).1):=by
 refine List.filter_congr (fun k _=>?_);rcases hF k with ⟨h1,h2⟩ | ⟨t,a,c,l,h1,h2,h3,h4,h5,h6⟩
 ·rw [h1,h2];rfl
 ·rw [h1,h2,decide_eq_true h5];rfl
theorem Hb(a:Option Addr)(cap N g n:Nat)(F:Int->Option OV)(O:Int->Int×List Int)(w0 w:World)(hb:Bs w a cap (ag N))(hN:288<=N/\N<=6400)(hm:Mp fI w g n F)(hO:sf w0 F O)(hw:Below w0.heap.size w0 w)(eQ:∀ k,(F k).isSome=true->k∈fL)(dy:tx O) :
  Calls Tryz.prog 119 #[.slice a N cap,.map (some g)] w (Ends w (gp N O 40).2.2 (aR (gp N O 40).1)):=by
 have HR:=af (O6 g n F fL w hm uM eQ (by rw [uN];omega));rw [SF hO] at HR;have hkr:(fL.filter fun k=>decide (0<=(O k).1)).Pairwise (·<·):=List.Pairwise.filter _ uM;have hkm:∀ k∈(fL.filter fun k=>decide (0<=(O k).1)),1<=k/\k<=40/\0<=(O k).1:=fun k hk=>by obtain⟨h1,h2⟩:=List.mem_filter.1 hk;have:=kH.1 h1;exact⟨this.1,this.2,of_decide_eq_true h2⟩
 have BR:(fL.filter fun k=>decide (0<=(O k).1)).length<=40:=Nat.le_trans (List.length_filter_le _ _) (by rw [uN];omega);rw [VD];generalize (fL.filter fun k=>decide (0<=(O k).1))=ks at *;have yx:=af (VE hN.1 hN.2 dy hkm hkr);have HKM:=af hkm;have Lc:=af (fun(j:Nat) (k:Int) (h:ks[j]?=some k)=>IQ (N:=N) (O:=O) h);have qh:=af (fun(j:Nat) (h:(qC N O (ks.take j)).1≠0)=>Rt h);have KU:Hid (qC N O (ks.take ks.length)=qC N O ks):=af (by rw [List.take_length]);have HM:=af hm;have HO:=af hO;have HOO:=af dy;have HW:=af hw;have zl:Hid (qC N O (ks.take 0)=(0,288,ag N)):=af (by rw [List.take_zero];rfl);have nC:=af hb;have xZ:=hm.lt;clear hm hO hw eQ dy hkr hkm hb;go_enter Tryz.func119,Tryz.ntmps119
 go_wp2_with fail
 refine(ae HR).mono ?_;rintro e w1 ⟨v1,rfl,kU,ay⟩;obtain⟨a1,c1,rfl,dL⟩:=kU.kk iG (by omega);have mB:=af dL;have aL:=af ay;have mH:=dL.2.2.1;clear kU dL ay HR;go_wp2_with fail
 go_loopw [0,6,8,9,10,11,15] (fun bv av _ _ _ _ iv wr=>∃ (k:Nat) (a':Option Addr) (c' At:Nat),k<=ks.length/\bv=.slice a' N c'/\av=.int .i64 (At:Int)/\iv=.int .i64 (k:Int)/\Hid ((qC N O (ks.take k)).2.1=At)/\Hid ((qC N O (ks.take k)).1=0)/\Bs wr a' c' (qC N O (ks.take k)).2.2/\Below w1.heap.size w1 wr) (fun _ _ _ _ _ _ iv _=>ks.length-(intOf iv).toNat)
 case atStart=>exact⟨0,a,cap,288,Nat.zero_le _,rfl,rfl,rfl,af (by rw [ae zl]),af (by rw [ae zl]),by rw [ae zl];exact(ae nC).below (ae aL),zBr⟩
 case round =>
  obtain⟨k,a',c',At,hk,rfl,rfl,rfl,HAT,H0,aX,ao⟩:=hrel;by_cases aM:k<ks.length
  ·obtain⟨b1,o1,rfl,dR⟩:=((ae mB).below ao).2.2.2 (by intro e;rw [e] at aM;simp at aM);obtain⟨x,hx⟩:∃ x,ks[k]?=some x:=⟨ks[k],zLg aM⟩;have q0:wr.cell? ⟨b1,o1+k,none⟩=some (.int .i64 x):=by have:=dR k x hx 0 _ rfl;rwa [Nat.mul_one,Nat.add_zero] at this
   obtain⟨x1,x2,x3⟩:=ae HKM x (List.mem_of_getElem? hx);obtain⟨pk,_⟩:=ae yx k hk (ae H0);have hnx:=ae Lc k x hx;have zfx:=af (fun h=>ae qh (k+1) h);have BP:=pk.lo;have zcP:=pk.len;rw [ae HAT] at pk BP;have dm:Below w.heap.size w wr:=zTs aL ao;have hmw:=(ae HM).below dm;rcases ae HO x with ⟨f1,f2⟩ | ⟨t,oa,oc,bl,f1,f2,f3,f4,f5,f6,f7⟩
   ·rw [f2] at x3;exact absurd x3 (by decide)
   have lP:=hmw.look (k:=x) (show -9223372036854775808<=x/\x<=9223372036854775807 by omega);rw [f1] at lP;replace lP:(Instr.lookup 108 (.map (some g)) (.int .i64 x) false).run Tryz.prog wr=.ok (.agg #[.int .i64 t,.slice oa bl.length oc]) wr:=lP;have Un:Bs wr oa oc bl:=(f3.below (ae HW)).below dm;have zlu:1<=bl.length:=by cases bl with | nil=>exact absurd rfl f4 | cons y r=>simp
   have JP:=VC (N:=N) (O:=O) (S:=qC N O (ks.take k)) (k:=x) (ae H0);have su:=VB (N:=N) (O:=O) (S:=qC N O (ks.take k)) (k:=x) (ae H0);rw [f2,ae HAT] at JP su;dsimp only at JP su;have zcm:=af hnx;have ZG:=af JP;have Zp:=af su;have zlQ:=af f2;have mI:Below wr.heap.size wr (wr.alloc (.cells #[.int .i64 t,.slice oa bl.length oc] 102)):=zBr.alloc zNr _;have g1:=block_lt_of_cell q0;have zmq:=hmw.lt;have fc:=heap_alloc_new wr (.cells #[.int .i64 t,.slice oa bl.length oc] 102);have qd:=af fc;have HFO:=af (Un.below mI);have kj:=af (ao.trans (mI.mono ao.size));generalize qC N O (ks.take k)=S at *;have HBN:=af f4;by_cases dc:N<At+bl.length
   ·have HPE:Hid (qC N O ks=(4,0,[])):=af (by have h1:qC N O (ks.take (k+1))=(4,0,[]):=(ae zcm).trans (ae ZG dc);rw [ae zfx (by rw [h1];decide),h1]);have hgt:((N:Int)-(At:Int))<(bl.length:Int):=by omega
    have cT:Hid (Below w.heap.size w (wr.alloc (.cells #[.int .i64 t,.slice oa bl.length oc] 102))):=af (dm.trans (mI.mono dm.size));generalize bl.length=BN at *;clear dR hx pk hnx hmw f1 f2 f3 f4 Un JP su mI fc aX ao dm HFO kj HBN zcm ZG Zp zfx zlQ;go_wp2;go_ret2;rw [ae HPE];exact⟨none,0,rfl,eC _,ae cT⟩
   ·have mo:=zdS pk (h:=x) (t:=t) (n:=bl.length) x1 x2 f5 f6 zlu f7 (by omega);have lh:=af (uH a' c' S.2.2 x At bl.length t _ (aX.below mI) mo);rw [zcP] at lh;have e4:bP S.2.2 (x,(At:Int),(bl.length:Int),t)=splice S.2.2 (cJ x) (dB (x,(At:Int),(bl.length:Int),t)):=by unfold bP;rw [if_pos mo]
    have hpx:=cH x1 x2;have hLS:(splice S.2.2 (cJ x) (dB (x,(At:Int),(bl.length:Int),t))).length=N:=by rw [length_splice (by show cJ x+5<=_;omega)];exact zcP
    have XT:bj (splice S.2.2 (cJ x) (dB (x,(At:Int),(bl.length:Int),t))):=bN pk.kV (oE _);have ZC:=af hLS;have ji:Hid (qC N O (ks.take (k+1))=(0,At+bl.length,splice (splice S.2.2 (cJ x) (dB (x,(At:Int),(bl.length:Int),t))) At bl)):=af (by rw [ae zcm,ae Zp dc];unfold zZ;rw [e4]);have ic:Hid (bj (splice (splice S.2.2 (cJ x) (dB (x,(At:Int),(bl.length:Int),t))) At bl)):=af (bN XT Un.1);have qc:Hid ((splice (splice S.2.2 (cJ x) (dB (x,(At:Int),(bl.length:Int),t))) At bl).length=N):=af (by rw [length_splice (by omega)];exact hLS);have hgt:¬ ((N:Int)-(At:Int))<(bl.length:Int):=by omega
    have hXB:At+bl.length<=N:=by omega
    have ziz:bl.length<=1000:=f7;clear dR hx pk hnx hmw f1 f2 f3 f4 Un JP su mI fc aX ao dm zcm ZG Zp zfx mo e4 hLS XT dc;go_wp2_with fail
    refine(ae lh).mono ?_;rintro e w2 ⟨g2,c2,cur2,rfl,jR,cD⟩;rw [ae ZC];have j6:=(cD.block wr.heap.size (by simp)).trans (ae qd);have t0:w2.cell? ⟨wr.heap.size,0,none⟩=some (.int .i64 t):=by rw [cell_of_row _ _ _ _ _ _ j6];rfl
    have t1:w2.cell? ⟨wr.heap.size,1,none⟩=some (.slice oa bl.length oc):=by rw [cell_of_row _ _ _ _ _ _ j6];rfl
    have hlc:=jR.2.2.1;rw [ae ZC] at hlc;have hcut:=rY (P:=Tryz.prog) zu30 aN g2 c2 N At (by omega) hlc (by omega);have AD:Row w2.drew _ g2 c2 cur2 _:=jR.below (bq zBr);have D7:∀ ty,Sem.run Tryz.prog (Builtin.copy_ #[30,30] ty #[.slice (some ⟨g2,At,none⟩) (N-At) (c2-At),.slice oa bl.length oc]) w2.drew=.ok (.int .i64 bl.length) (fJ w2.drew g2 cur2 At bl) :=fun ty=>fz w2.drew _ _ ty zu30 aN _ g2 At _ _ c2 cur2 oa oc _ bl (by omega) (ae HBN) (by rw [ae ZC];exact hXB) AD (((ae HFO).below cD).below (bq zBr))
    have DT:=jb AD (show At+bl.length<=_ by rw [ae ZC];exact hXB);have zfG:=af (DT.bs (ae ic) (by rw [ae qc];omega));have qg:wr.heap.size+1<=g2:=by have:=jR.1;rw [aH] at this;exact this
    have cT:=af (gh (cur:=cur2) (l:=bl) (off:=At) (bq (zTs kj cD)) (Nat.le_trans (ae kj).size jR.1));have bR:Below (wr.heap.size+1) w2 (fJ w2.drew g2 cur2 At bl):=gh (bq zBr) qg;have u1:(fJ w2.drew g2 cur2 At bl).cell? ⟨wr.heap.size,1,none⟩=some (.slice oa bl.length oc):=(bR.cell (p:=⟨wr.heap.size,1,none⟩) (by show wr.heap.size<_;omega)).trans t1;have ZI:=af D7;have e0:(0:Int)<=(At:Int):=by omega
    have e1:(At:Int)<=(N:Int):=by omega
    clear D7 DT AD jR cD j6 hlc lh HFO kj qd ZC q0 bR qg;generalize fJ w2.drew g2 cur2 At bl=w3 at *;generalize ziM:bl.length=BN at *;have zmQ:=af ziM;clear ziM;go_upto_region 11 with fail
    go_region_law (refine nD (by rfl) (.tmp 50) (.tmp 52) 30 30 (by rfl) (.slice (some ⟨g2,At,none⟩) (N-At) (c2-At)) (.slice oa BN oc) (by rfl) (by rfl) (.int .i64 BN) w3 (ae ZI _) ?_)
    all_goals
     go_upto_region 12 with fail
     go_quiet (fail)
     go_wp2;go_roundw
     case rel=>exact⟨k+1,_,_,At+BN,by omega,rfl,by go_num,by go_num,af (by rw [ae ji]),af (by rw [ae ji]),by rw [ae ji];exact ae zfG,Y8 (ae cT) _⟩
     case measure=>simp [intOf];omega
  ·have AJ:k=ks.length:=by omega
   have HPE:Hid (Bs wr a' c' (qC N O ks).2.2/\(qC N O ks).1=0/\(qC N O ks).2.2.length=N):=af (by have h0:=ae H0;have h1:=(ae yx k hk h0).1.len;rw [AJ,ae KU] at aX h0 h1;exact⟨aX,h0,h1⟩);have br:=zTr aL ao;have tJ:¬ ((k:Int)<(ks.length:Int)):=by omega
   clear AJ aX ao HAT H0;go_wp2;go_ret2;obtain⟨p1,p2,p3⟩:=ae HPE;rw [p2,aA];exact⟨a',c',by rw [p3];rfl,p1,ae br⟩
section
open Go.Sort
open Go.Shelf
theorem zi8{s t:ByteArray}(h:bL s t=true):s.data.toList<t.data.toList:=by unfold bL at h;rw [bytesLess_eq,ByteArray.toList_eq,ByteArray.toList_eq] at h;exact of_decide_eq_true h
theorem Pu{w:World}{g n:Nat}{F:ByteArray->Option Int}{D:DataW Unit}{ks:List ByteArray}(az:w.ownsMap Tryz.prog 9 inR g n D)(hD:∀ k:ByteArray,Maps.has D (.string k.data.toList)=(F k).isSome)(sC:By ks)(hm:∀ k,k∈ks ↔ (F k).isSome=true):(ks.map (·.data.toList)).Perm (strKeys D):=by
 refine Collected.perm (left:=fun _=>false) ⟨?_,fun z=>?_⟩ az (Maps.string_keyed zu9) zu9 (fun _=>rfl)
 ·exact List.pairwise_map.2 (sC.nodup.imp (fun {a b} h e=>h (str_inj e)))
 ·have hz:=hD ⟨z.toArray⟩;rw [show((⟨z.toArray⟩:ByteArray).data.toList)=z from rfl] at hz;rw [hz,List.mem_map];constructor
  ·rintro ⟨k,hk,rfl⟩;exact⟨(hm _).1 hk,rfl⟩
  ·rintro ⟨h1,_⟩;exact⟨_,(hm _).2 h1,rfl⟩
theorem zcz{w:World}{g n:Nat}{D:DataW Unit}{ks:List ByteArray}(az:w.ownsMap Tryz.prog 9 inR g n D)(hp:(ks.map (·.data.toList)).Perm (strKeys D)):Maps.size D=ks.length:=by have h1:=hp.length_eq;obtain⟨es,clock,_,_,_,e⟩:=az;rw [e] at h1 ⊢;unfold strKeys at h1;rw [zLm,zLm] at h1;exact h1.symm
theorem U2(gm n:Nat)(D0:DataW Unit)(ks:List ByteArray)(W:World)(az:W.ownsMap Tryz.prog 9 inR gm n D0)(lq:(ks.map (·.data.toList)).Perm (strKeys D0))(hr:By ks)(hl:ks.length<=1000) :
  Calls Tryz.prog 229 #[.func (.func 257) #[] #[.pointer (some ⟨W.heap.size,0,none⟩)]] (W.alloc (.cells #[.map (some gm)] 112)) fun e w' =>∃ v,e=.returned v/\bT Ih 1 9 w' W.heap.size v ks/\Below W.heap.size W w':=by
 have cL:Maps.size D0<=1000:=by rw [zcz az lq];exact hl
 have F8:Maps.size D0<=maxLen:=by unfold maxLen;omega
 have tn:Maps.size D0 * 16<=140737488355328:=by omega
 have iq:=az.lt;have M7:SeqGives Fence.wide 2 Tryz.prog 257 #[.pointer (some ⟨W.heap.size,0,none⟩)] encStr (fun ss=>ss.Perm (strKeys D0)) (Maps.size D0) (W.alloc (.cells #[.map (some gm)] 112)) :=AnyZ.keys_gives (ρ:=DC) { zcJ with } Fence.wide _ trivial rfl (by omega) W.heap.size gm n D0 _ (by simp) (by simp) (by obtain⟨es,clock,hb,Ft,hs,hD⟩:=az;exact⟨es,clock,(Below.heap_alloc _ _ gm iq).trans hb,Ft,hs,hD⟩);have cS:=AnyZ.sorted_in zaA Fence.wide 5 trivial trivial trivial trivial rfl (by omega) (zdB _) (enters_of Tryz.func256 (by kernel_rfl) rfl) 257 #[.pointer (some ⟨W.heap.size,0,none⟩)] trivial (enters_of Tryz.func257 (by kernel_rfl) rfl) _ _ F8 tn _ M7;change CallsIn _ _ Tryz.prog 229 _ _ _ at cS;refine((callsIn_wide).1 cS).mono ?_;rintro e w' ⟨dv,ss,rfl,hS,bn,pw,hb⟩;have rP:=ownsRow_base_a (base':=W.heap.size) bn (by simp);have Z3:=hS.trans lq.symm;refine⟨dv,rfl,?_,((Below.refl _ W).alloc zNr _).trans (hb.mono (by simp))⟩;have e:ss.mergeSort (fun x y=>decide (x<=y))=ks.map (·.data.toList):=(mergeSort_of_perm Z3).trans (List.mergeSort_of_pairwise (List.pairwise_map.2 (hr.imp (fun {a b} h=>by simp only [decide_eq_true_eq];exact List.le_of_lt (zi8 h)))));have lR:=Z3.length_eq;rw [zLm] at lR;unfold bT;rw [PZ,<- lR];rw [e,List.map_map] at rP;exact rP
theorem O5(g n:Nat)(F:ByteArray->Option Int)(U:List ByteArray)(w:World)(h:Mp fY w g n F)(hU:By U)(eQ:∀ k,(F k).isSome=true->k∈U)(hn:U.length<=1000) :
  Calls Tryz.prog 180 #[.map (some g)] w fun e w'=>∃ v,e=.returned v/\bT Ih 1 9 w' w.heap.size v (U.filter fun k=>(F k).isSome)/\Below w.heap.size w w':=by
 obtain⟨D,az,hD⟩:=h;have hr:By (U.filter fun k=>(F k).isSome):=List.Pairwise.filter _ hU;have hm:∀ k,k∈(U.filter fun k=>(F k).isSome) ↔ (F k).isSome=true:=fun k=>by rw [List.mem_filter];exact⟨fun h=>h.2,fun h=>⟨eQ k h,h⟩⟩
 have hp:=Pu (F:=F) az (fun k=>(hD k).1) hr hm;have HS:=af (U2 g n D _ w az hp hr (Nat.le_trans (List.length_filter_le _ _) hn));have HK:Hid (Calls Tryz.prog 230 #[.map (some g)] w fun e w'=>e=.returned (.func (.func 257) #[] #[.pointer (some ⟨w.heap.size,0,none⟩)])/\w'=w.alloc (.cells #[.map (some g)] 112)):=af ((callsIn_wide (n:=5)).1 (AnyZ.keys_in zcJ Fence.wide 5 trivial rfl (some g) w));clear az hD hr hm hp eQ hU;go_enter Tryz.func180,Tryz.ntmps180
 go_wp2_with fail
 refine(ae HK).mono ?_;rintro e w1 ⟨rfl,rfl⟩;go_wp2_with fail
 refine(ae HS).mono ?_;rintro e w2 ⟨v,rfl,hl,hb⟩;have HL:=af hl;have HB:=af hb;obtain⟨a,m,c,rfl⟩:=hl.shape;clear hl hb HS HK;go_wp2;go_ret;exact⟨_,rfl,ae HL,ae HB⟩
end
def xJ(out:List Int):List (ByteArray×Int)->Nat->List Int
 | [],_=>out
 | r :: R,i=>xJ (je out i r) R (i+1)
structure Ol (b out:List Int) (R:List (ByteArray×Int)):Prop where
 aV:aB out
 len:out.length=b.length
 kV:bj out
 roots:ak out 8=R
 none_:∀ j,R.length<=j->j<8->isRoot (rowAt out j)=false
 tc:∀ k,1<=k->k<=40->aD out k=aD b k/\aP out k=aP b k
theorem Ol.next{b out:List Int}{R:List (ByteArray×Int)}(o:Ol b out R){s:ByteArray}{h:Int}(hi:R.length<8)(hn:du s=true)(hc:aP b h=0)(gI:s ∉ R.map (·.1)):Ol b (je out R.length (s,h)) (R++[(s,h)]):=by
 obtain⟨q1,q2,q3⟩:=aJ.1 hc;have hh:=aF.1 q2;have hco:aP out h=0:=by rw [(o.tc h hh.1 hh.2).2];exact hc
 have Na:¬ gv (s,h)=true:=fun hx=>by have:=(eX.1 hx).2;dsimp only at this;omega
 have F6:eF (s,h)=0:=by unfold eF;rw [if_neg Na,if_neg (by rw [q2];simp),if_pos hn]
 have hpe:BI out R.length (s,h)=0:=gB.2 ⟨o.aV.cW,by omega,by omega,F6⟩;have pM:je out R.length (s,h)=splice out (200+11 * R.length) (fX (s,h)):=by unfold je;rw [if_pos hpe,zTn]
 have bn:Row1 out (je out R.length (s,h)) R.length (fX (s,h)):=by rw [pM];exact mV o.aV.len.1 hi (kC F6)
 have zez:∀ j,j<8->isRoot (rowAt out j)=true->nameAt out j≠s:=fun j hj hr e=>by have hm:rootOf (rowAt out j)∈ak out 8:=cy.2 ⟨j,hj,hr,rfl⟩;rw [o.roots] at hm;exact gI (List.mem_map.2 ⟨_,hm,e⟩)
 obtain⟨g1,g2,g3,g4⟩:=bn.wU o.aV hn hco (fun j hj _ hr=>zez j hj hr);obtain⟨p1,p2⟩:=C0 hpe o.none_;have hlq:b9 (je out R.length (s,h)).length=true:=g1.cW;refine⟨g1,bn.len.trans o.len,?_,?_,fun j hj hj8=>p2 j (by rw [zLa,List.length_singleton] at hj;omega) hj8,fun k k1 k2=>?_⟩
 ·rw [pM];exact bN o.kV (vi _)
 ·unfold Go.Proofs.YtcimhnnendlblaaGreat.roots at p1;rw [if_pos hlq,if_pos o.aV.cW,if_neg Na,o.roots] at p1;exact p1
 ·obtain⟨a1,a2,_⟩:=bn.tc o.aV k k1 k2;rw [a1,a2];exact o.tc k k1 k2
theorem Ol.all{b:List Int}:∀ (R:List (ByteArray×Int)) {out:List Int} {Q:List (ByteArray×Int)},Ol b out Q->(Q++R).length<=8->(∀ r∈R,du r.1=true/\aP b r.2=0)->((Q++R).map (·.1)).Nodup->Ol b (xJ out R Q.length) (Q++R)
 | [],out,Q,o,_,_,_=>by rw [List.append_nil];exact o
 | (s,h) :: R,out,Q,o,hl,dy,sC=>by
  obtain⟨h1,h2⟩:=dy (s,h) (by simp);have gI:s ∉ Q.map (·.1):=fun hm=>by rw [List.map_append,List.nodup_append] at sC;exact sC.2.2 s hm s (by simp) rfl
  have aM:Q.length<8:=by rw [zLa,zLc] at hl;omega
  have o2:=o.next aM h1 h2 gI;have:=Ol.all R o2 (by rw [List.append_assoc];exact hl) (fun r hr=>dy r (by simp [hr])) (by rw [List.append_assoc];exact sC);rw [List.append_assoc,zLa] at this;exact this
def y9(m a b:List Int)(s:ByteArray):Int:=if aU (ak a 8) s=aU (ak m 8) s then aU (ak b 8) s else aU (ak a 8) s
def xR(m a b:List Int):List ByteArray:=WN ((ak m 8++ak a 8++ak b 8).map (·.1))
def tC(m a b out:List Int):List (ByteArray×Int):=(xR m a b).filterMap fun s=>if aP out (y9 m a b s)=0 then some (s,y9 m a b s) else none
section
variable {m a b out:List Int}
theorem kP(out:List Int):aP out 0≠0:=fun h=>by have:=aF.1 (aJ.1 h).2.1;omega
theorem Pt{R:List (ByteArray×Int)}{s:ByteArray}(h:aU R s≠0):s∈R.map (·.1):=by
 unfold aU at h;cases hq:R.find? (fun r=>r.1 == s) with
 | none=>rw [hq] at h;exact absurd rfl h
 | some r=>exact List.mem_map.2 ⟨r,List.mem_of_find?_eq_some hq,fF.1 (List.find?_some (p:=fun(r:(ByteArray×Int))=>r.1 == s) hq)⟩
theorem MC{s:ByteArray}(h:y9 m a b s≠0):s∈xR m a b:=by
 refine qI.2 ?_;rw [List.map_append,List.map_append,List.mem_append,List.mem_append];unfold y9 at h;by_cases e:aU (ak a 8) s=aU (ak m 8) s
 ·rw [if_pos e] at h;exact .inr (Pt h)
 ·rw [if_neg e] at h;exact .inl (.inr (Pt h))
theorem uo{r:(ByteArray×Int)}:r∈tC m a b out ↔ r.2=y9 m a b r.1/\aP out r.2=0:=by
 unfold tC;rw [List.mem_filterMap];constructor
 ·rintro ⟨s,hs,e⟩;by_cases hc:aP out (y9 m a b s)=0
  ·rw [if_pos hc] at e;obtain rfl:=zOi e;exact⟨rfl,hc⟩
  ·rw [if_neg hc] at e;cases e
 ·rintro ⟨h1,h2⟩;obtain⟨s,h⟩:=r;dsimp only at h1 h2;subst h1;refine⟨s,MC (fun e=>kP out (by rw [e] at h2;exact h2)),?_⟩;rw [if_pos h2]
theorem rK:((tC m a b out).map (·.1)).Nodup:=by
 have hr:=Aw ((ak m 8++ak a 8++ak b 8).map (·.1));have:(tC m a b out).map (·.1)=(xR m a b).filter fun s=>decide (aP out (y9 m a b s)=0):=by
  unfold tC;generalize xR m a b=l;induction l with
  | nil=>rfl
  | cons s l ih =>
   rw [List.filterMap_cons,List.filter_cons];by_cases hc:aP out (y9 m a b s)=0
   ·rw [if_pos hc,if_pos (decide_eq_true hc),List.map_cons,ih]
   ·rw [if_neg hc,if_neg (by simpa using hc),ih]
 rw [this];exact(List.Pairwise.filter _ hr.nodup)
theorem Jc(s:ByteArray):y9 m a m s=aU (ak a 8) s:=by
 unfold y9;split
 ·rename_i e;exact e.symm
 ·rfl
theorem MB(hm:aB m)(ha:aB a)(hb:aB b)(bm:bj m)(ba:bj a)(bb:bj b){s:ByteArray}(hs:s∈xR m a b):du s=true:=by
 have SC:=qI.1 hs;have key:∀ {L:List Int},aB L->bj L->s∈(ak L 8).map (·.1)->du s=true:=fun {L} hf ik hx=>by
  obtain⟨r,hr,rfl⟩:=List.mem_map.1 hx;obtain⟨i,hi,hq,e⟩:=cy.1 hr;have hZ:=fu.1 ((eB.1 (bV.1 hf.ok).2).1 i hi hq);have hn:r.1=(aT ((rowAt L i).take 8)).1:=by rw [<- e];rfl
  rw [hn];refine bZ.2 (iM (fun x hx=>ik x ?_) hZ.1).2.1;have h1:=List.mem_of_mem_take hx;unfold rowAt at h1;exact List.mem_of_mem_drop (List.mem_of_mem_take h1)
 rw [List.map_append,List.map_append,List.mem_append,List.mem_append] at SC;rcases SC with (h | h) | h
 ·exact key hm bm h
 ·exact key ha ba h
 ·exact key hb bb h
theorem Ja(hm:aB m)(ha:aB a)(hb:aB b)(bm:bj m)(ba:bj a)(bb:bj b)(ho:aB out)(bo:bj out)(hr:∀ i,i<8->isRoot (rowAt out i)=false)(h8:(tC m a b out).length<=8) :
  Ol out (xJ out (tC m a b out) 0) (tC m a b out):=by
 have h0:ak out 8=[]:=by rw [gS (b:=out) (k:=0) 8 (Nat.zero_le _) (fun j _ hj=>hr j hj)];rfl
 have st:Ol out out []:=⟨ho,rfl,bo,h0,fun j _ hj=>hr j hj,fun _ _ _=>⟨rfl,rfl⟩⟩;have:=Ol.all (tC m a b out) st (by rw [List.nil_append];exact h8) (fun r hr=>by have h:=uo.1 hr;refine⟨MB hm ha hb bm ba bb (MC (fun e=>?_)),h.2⟩;have h2:=h.2;rw [h.1,e] at h2;exact kP out h2) (by rw [List.nil_append];exact rK);rw [List.nil_append] at this;exact this
end
theorem Io:∀ (A:List (ByteArray×Int)) (out:List Int) (i:Nat) (r:(ByteArray×Int)),xJ out (A++[r]) i=je (xJ out A i) ((i+A.length:Nat):Int) r
 | [],out,i,r=>rfl
 | q :: A,out,i,r=>by
  show xJ (je out i q) (A++[r]) (i+1)=_
  rw [Io A (je out i q) (i+1) r]
  show je (xJ (je out i q) A (i+1)) _ r=je (xJ (je out i q) A (i+1)) _ r
  rw [zLc,show i+1+A.length=i+(A.length+1) by omega]
theorem Vh{R:List (ByteArray×Int)}{j:Nat}{r:(ByteArray×Int)}(out:List Int)(h:R[j]?=some r):xJ out (R.take (j+1)) 0=je (xJ out (R.take j) 0) (j:Int) r:=by
 have hj:=(zLs h).1;rw [List.take_add_one,h]
 show xJ out (R.take j++[r]) 0=_
 rw [Io,zLt,Nat.min_eq_left (by omega),Nat.zero_add]
def Qs(N:Nat)(out:List Int)(R:List (ByteArray×Int)):Prop:=∀ (j:Nat),j<=R.length->(xJ out (R.take j) 0).length=N/\∀ r,R[j]?=some r->BI (xJ out (R.take j) 0) (j:Int) r=0/\r.1.size<=8
theorem BZ(a:Option Addr)(cap g n N:Nat)(out:List Int)(F:ByteArray->Option Int)(U:List ByteArray)(w:World)(hb:Bs w a cap out)(hN:out.length=N)(hm:Mp fY w g n F)(hU:By U)(eQ:∀ k,(F k).isSome=true->k∈U)(hn:U.length<=1000)(R:List (ByteArray×Int))(hR:R=(U.filter fun k=>(F k).isSome).map fun s=>(s,(F s).getD 0))(mo:R.length<=8->Qs N out R) :
  Calls Tryz.prog 120 #[.slice a N cap,.map (some g)] w (Ends w (if 8<R.length then [] else xJ out R 0) (aR (if 8<R.length then 4 else 0))):=by
 have HR:=af (O5 g n F U w hm hU eQ hn);have HM:=af hm;obtain⟨D,az,hD⟩:=hm;have iP:∀ k,k∈(U.filter fun k=>(F k).isSome) ↔ (F k).isSome=true:=fun k=>by rw [List.mem_filter];exact⟨fun h=>h.2,fun h=>⟨eQ k h,h⟩⟩
 have cL:Maps.size D=(U.filter fun k=>(F k).isSome).length:=zcz az (Pu (F:=F) az (fun k=>(hD k).1) (List.Pairwise.filter _ hU) iP);have xZ:=az.lt;have ew:w.ownsMap Tryz.prog 9 inR g n D:=az;have lP:(U.filter fun k=>(F k).isSome).length<=1000:=Nat.le_trans (List.length_filter_le _ _) hn;have HRE:=af hR;have hRl:R.length=(U.filter fun k=>(F k).isSome).length:=by rw [hR,zLm]
 have nC:=af hb;have HPT:=af mo;clear hD iP hR az eQ hU;generalize (U.filter fun k=>(F k).isSome)=ks at *;by_cases h8:8<R.length
 ·rw [if_pos h8,if_pos h8,aC 4 (by decide)];have hgt:(8:Int)<(ks.length:Int):=by omega
  generalize ks.length=KN at *;clear HR HM HRE nC HPT;go_enter Tryz.func120,Tryz.ntmps120
  go_wp2_with (at_len;refine wpList_len_own _ rfl _ 112 rfl 9 3 zu112 _ g n D rfl ew ?_;rw [cL])
  go_ret2;exact⟨none,0,rfl,eC _,zBr⟩
 ·rw [if_neg h8,if_neg h8,aA];have hgt:¬ (8:Int)<(ks.length:Int):=by omega
  have HP:=af (ae HPT (by omega));have zmx:ks.length<=8:=by omega
  have HRT:Hid (∀ (j:Nat) s,ks[j]?=some s->R[j]?=some (s,(F s).getD 0)):=af (fun j s hs=>by rw [ae HRE,List.getElem?_map,hs];rfl);have Lc:=af (fun(j:Nat) (r:(ByteArray×Int)) (h:R[j]?=some r)=>Vh out h);have HE:Hid (xJ out (R.take R.length) 0=xJ out R 0):=af (by rw [List.take_length]);have qh:Hid (xJ out (R.take 0) 0=out):=af (by rw [List.take_zero];rfl);have HRL:=af hRl;generalize PT:ks.length=KN at *;have sM:=af PT;clear HPT HRE h8 hRl PT;go_enter Tryz.func120,Tryz.ntmps120
  go_wp2_with (at_len;refine wpList_len_own _ rfl _ 112 rfl 9 3 zu112 _ g n D rfl ew ?_;rw [cL])
  refine(ae HR).mono ?_;rintro e w1 ⟨v1,rfl,kU,ay⟩;obtain⟨a1,c1,rfl,dL⟩:=kU.kk Fi (by rw [ae sM];omega);rw [ae sM];have mB:=af dL;have aL:=af ay;have mH:=dL.2.2.1;rw [ae sM] at mH;clear kU dL ay HR ew cL;go_wp2_with fail
  go_loopw [0,6,7,8,9,17] (fun bv _ _ _ _ iv wr=>∃ (k:Nat) (a':Option Addr) (c':Nat),k<=KN/\bv=.slice a' N c'/\iv=.int .i64 (k:Int)/\Bs wr a' c' (xJ out (R.take k) 0)/\Below w1.heap.size w1 wr) (fun _ _ _ _ _ iv _=>KN-(intOf iv).toNat)
  case atStart=>exact⟨0,a,cap,Nat.zero_le _,rfl,rfl,by rw [ae qh];exact(ae nC).below (ae aL),zBr⟩
  case round =>
   obtain⟨k,a',c',hk,rfl,rfl,aX,ao⟩:=hrel;by_cases aM:k<KN
   ·have JK:k<ks.length:=by rw [ae sM];exact aM
    obtain⟨b1,o1,rfl,dR⟩:=((ae mB).below ao).2.2.2 (by intro e;rw [e] at JK;simp at JK);obtain⟨s,hs⟩:∃ s,ks[k]?=some s:=⟨ks[k],zLg JK⟩;have q0:wr.cell? ⟨b1,o1+k,none⟩=some (.string s):=by have:=dR k s hs 0 _ rfl;rwa [Nat.mul_one,Nat.add_zero] at this
    have hr:=ae HRT k s hs;obtain⟨p1,p2⟩:=ae HP k (by rw [ae HRL];omega);obtain⟨p3,p4⟩:=p2 _ hr;dsimp only at p4;have dm:Below w.heap.size w wr:=zTs aL ao;have zmu:(Instr.lookup 112 (.map (some g)) (.string s) false).run Tryz.prog wr=.ok (.int .i64 ((F s).getD 0)) wr:=((ae HM).below dm).look (k:=s) (show s.size<=maxLen by unfold maxLen;omega);have HPR:=af (pr a' c' (xJ out (R.take k) 0) (k:Int) (s,(F s).getD 0) wr aX (by dsimp only;omega));rw [p3,aA,p1,<- ae Lc k _ hr] at HPR;have vG:Hid ((xJ out (R.take (k+1)) 0).length=N):=af (ae HP (k+1) (by rw [ae HRL];omega)).1;have kz:=af ao;have g1:=block_lt_of_cell q0;unfold xK at HPR;dsimp only at HPR;generalize (F s).getD 0=h at *;clear dR hs hr p1 p2 p3 p4 dm aX ao JK;go_wp2_with fail
    refine(ae HPR).mono ?_;rintro e w2 ⟨a2,c2,rfl,aK,cD⟩;rw [ae vG];have br:=af aK;have OF:=zTr kz cD;clear aK cD HPR;go_wp2;go_roundw
    case rel=>exact⟨k+1,a2,c2,by omega,rfl,by go_num,ae br,ae OF⟩
    case measure=>simp [intOf];omega
   ·have AJ:k=R.length:=by rw [ae HRL];omega
    rw [AJ,ae HE] at aX;have hlN:=(ae HP R.length zNr).1;rw [ae HE] at hlN;have zl4:=af aX;have vG:=af hlN;have br:=zTr aL ao;have tJ:¬ ((k:Int)<(KN:Int)):=by omega
    clear AJ aX ao hlN;go_wp2;go_ret2;exact⟨a',c',by rw [ae vG];rfl,ae zl4,ae br⟩
def ldT(X:Int×Nat×List Int)(R:List (ByteArray×Int)):Int×List Int:=if X.1≠0 then (X.1,[]) else if 8<R.length then (4,[]) else (0,xJ X.2.2 R 0)
theorem Sb(N go gr no nr:Nat)(Fo:Int->Option OV)(O:Int->Int×List Int)(Fr:ByteArray->Option Int)(U:List ByteArray)(R:List (ByteArray×Int))(w0 w:World)(hN:288<=N/\N<=6400)(hmo:Mp fI w go no Fo)(hO:sf w0 Fo O)(hw:Below w0.heap.size w0 w)(zh8:∀ k,(Fo k).isSome=true->k∈fL)(dy:tx O)
  (hmr:Mp fY w gr nr Fr) (hU:By U) (XE:∀ k,(Fr k).isSome=true->k∈U) (hUl:U.length<=1000) (hR:R=(U.filter fun k=>(Fr k).isSome).map fun s=>(s,(Fr s).getD 0)) (mo:(gp N O 40).1=0->R.length<=8->Qs N (gp N O 40).2.2 R) :
  Calls Tryz.prog 58 #[.int .i64 (N:Int),.map (some go),.map (some gr)] w (Ends w (ldT (gp N O 40) R).2 (aR (ldT (gp N O 40) R).1)):=by
 have Z6:b9 (N:Int)=true:=bF.2 (by omega);have wH:I3 (N:Int)=ag N/\I4 (N:Int)=0:=by unfold I3 I4;rw [if_pos Z6,if_pos Z6,zTn];exact⟨rfl,rfl⟩
 have ji:=af (FT (N:Int) w);rw [wH.1,wH.2] at ji;obtain⟨i1,i2,i3⟩:=zV hN.1 hN.2 dy 40 zNr;have HWO:=af (fun(W:World) (a:Option Addr) (c:Nat) (hW:Below w.heap.size w W) (hb:Bs W a c (ag N))=>Hb a c N go no Fo O w0 W hb hN (hmo.below hW) hO (hw.trans (hW.mono hw.size)) zh8 dy);have Uv:=af (fun(h0:(gp N O 40).1=0) (W:World) (a:Option Addr) (c:Nat) (hW:Below w.heap.size w W) (hb:Bs W a c (gp N O 40).2.2)=>BZ a c gr nr N (gp N O 40).2.2 Fr U W hb (i3 h0).1.len (hmr.below hW) hU XE hUl R hR (mo h0));have vG:Hid ((gp N O 40).1=0->(gp N O 40).2.2.length=N):=af (fun h0=>(i3 h0).1.len);have HX:Hid ((gp N O 40).1≠0->gp N O 40=(4,0,[])):=af i2;clear i1 i2 i3 wH Z6 hmo hO hw zh8 dy hmr hU XE hUl hR mo;generalize gp N O 40=X at *;by_cases h0:X.1=0
 ·have hT:ldT X R=(if 8<R.length then 4 else 0,if 8<R.length then [] else xJ X.2.2 R 0):=by unfold ldT;rw [if_neg (fun h=>h h0)];split <;> rfl
  rw [hT];rw [h0] at HWO;have zjk:=af (ae Uv h0);have nJ:=ae vG h0;dsimp only;clear hT Uv HX;obtain⟨X1,X2,X3⟩:=X;dsimp only at *;generalize (if 8<R.length then (4:Int) else 0)=EE at *;generalize (if 8<R.length then [] else xJ X3 R 0)=LL at *;go_enter Tryz.func58,Tryz.ntmps58
  go_wp2_with fail
  refine(ae ji).mono ?_;rintro e w1 ⟨a1,c1,rfl,ay,dm⟩;have HW1:=af (ae HWO w1 a1 c1 dm ay);have aL:=af dm;rw [aj,show aR 0=.nilIface from rfl];clear ay dm ji HWO;go_wp2_with fail
  refine(ae HW1).mono ?_;rintro e w2 ⟨a2,c2,rfl,aK,cD⟩;have ze8:=zTs aL cD;have GZ:=af (ae zjk w2 a2 c2 ze8 aK);have br:=af ze8;rw [nJ,show aR 0=.nilIface from rfl];clear aK cD ze8 HW1 zjk;go_wp2_with fail
  refine(ae GZ).mono ?_;rintro e w3 ⟨a3,c3,rfl,bR,j8⟩;have cT:=af bR;have zl3:=zTr br j8;clear bR j8 GZ;go_wp2;go_ret2;exact⟨a3,c3,rfl,ae cT,ae zl3⟩
 ·have hX:=ae HX h0;subst hX;have hT:ldT (4,0,[]) R=(4,[]):=rfl;rw [hT];dsimp only at *;rw [aC 4 (by decide)] at *;clear Uv HX vG hT;go_enter Tryz.func58,Tryz.ntmps58
  go_wp2_with fail
  refine(ae ji).mono ?_;rintro e w1 ⟨a1,c1,rfl,ay,dm⟩;have HW1:=af (ae HWO w1 a1 c1 dm ay);have aL:=af dm;rw [aj,show aR 0=.nilIface from rfl];clear ay dm ji HWO;go_wp2_with fail
  refine(ae HW1).mono ?_;rintro e w2 ⟨a2,c2,rfl,aK,cD⟩;have br:=zTr aL cD;clear aK cD HW1;go_wp2;go_ret2;exact⟨none,0,rfl,eC _,ae br⟩
section
open Go.Shelf
open Go.Maps (Keyed)
theorem Mp.filter{κ α:Type}{M:MK κ α}{w w':World}{g n:Nat}{F:κ->Option α}{D:DataW Unit}(az:w.ownsMap Tryz.prog M.tk M.R g n D)(hD:∀ k,Maps.has D (M.kl k)=(F k).isSome/\∀ v,F k=some v->∃ d,M.R (M.ev v)=some (d,[])/\∀ zd,D.atKey (M.kl k) zd=d)
  (pd:Lit->DataW Unit->Bool) (p:α->Bool) (hpd:∀ k v d,M.R (M.ev v)=some (d,[])->pd (M.kl k) d=p v) (BR:∀ k v,F k=some v->WideAt.IsKeyLit (M.kl k)) (ho:w'.ownsMap Tryz.prog M.tk M.R g n (Lib.deleteFuncD pd D)):Mp M w' g n (gY F fun _ v=>p v):=by
 obtain⟨es,rfl,rS,hk⟩:=az.entries M.hK;have zlx:(es.filter fun q=>!pd q.1 q.2).Pairwise (fun p q=>p.1≠q.1):=List.Pairwise.filter _ rS;refine⟨_,ho,fun k=>?_⟩
 show Maps.has (.map (es.filter fun q=>!pd q.1 q.2)) (M.kl k)=_/\∀ v,_->∃ d,_/\∀ zd,(DataW.map (es.filter fun q=>!pd q.1 q.2)).atKey (M.kl k) zd=d
 have ov:∀ q∈es,q.1=M.kl k->∃ v,F k=some v/\M.R (M.ev v)=some (q.2,[]):=fun q hq e=>by
  have h1:Maps.has (.map es) (M.kl k)=true:=by rw [Maps.has_eq];exact List.any_eq_true.2 ⟨q,hq,by rw [<- e];exact WideAt.sameKey_self (hk q hq)⟩
  rw [(hD k).1] at h1;obtain⟨v,hv⟩:=Option.isSome_iff_exists.1 h1;obtain⟨d,h2,h3⟩:=(hD k).2 v hv;have h4:(DataW.map es).atKey (M.kl k) .nil=q.2:=WideAt.atKey_mem .nil (e ▸ hk q hq) rS (by rw [<- e];exact hq);rw [h3] at h4;exact⟨v,hv,by rw [<- h4];exact h2⟩
 cases hF:F k with
 | none =>
  have gI:∀ q∈es,q.1≠M.kl k:=fun q hq e=>by obtain⟨v,hv,_⟩:=ov q hq e;rw [hF] at hv;cases hv
  have e0:gY F (fun _ v=>p v) k=none:=by unfold gY;rw [hF];rfl
  rw [e0];refine⟨?_,fun v hv=>by cases hv⟩;rw [Maps.has_eq];refine Bool.eq_false_iff.2 (fun h=>?_);obtain⟨q,hq,hs⟩:=List.any_eq_true.1 h;exact gI q (List.mem_filter.1 hq).1 (WideAt.sameKey_eq hs)
 | some v =>
  obtain⟨d,h2,h3⟩:=(hD k).2 v hF;have jM:=BR k v hF;have h1:Maps.has (.map es) (M.kl k)=true:=by rw [(hD k).1,hF];rfl
  rw [Maps.has_eq] at h1;obtain⟨q,hq,hs⟩:=List.any_eq_true.1 h1;have eq1:q.1=M.kl k:=WideAt.sameKey_eq hs;obtain⟨v',hv',hr'⟩:=ov q hq eq1;rw [hF] at hv';obtain rfl:=zOi hv';have hd:q.2=d:=by rw [h2] at hr';exact(congrArg Prod.fst (zOi hr')).symm
  have hpq:pd q.1 q.2=p v:=by rw [eq1];exact hpd k v _ hr'
  cases hp:p v with
  | true =>
   have e0:gY F (fun _ v=>p v) k=none:=by unfold gY;rw [hF];simp [Option.filter,hp]
   rw [e0];refine⟨?_,fun v hv=>by cases hv⟩;rw [Maps.has_eq];refine Bool.eq_false_iff.2 (fun h=>?_);obtain⟨r,hr,gM⟩:=List.any_eq_true.1 h;obtain⟨r1,r2⟩:=List.mem_filter.1 hr;obtain⟨v2,g1,g2⟩:=ov r r1 (WideAt.sameKey_eq gM);rw [hF] at g1;obtain rfl:=zOi g1;have:pd r.1 r.2=p v:=by rw [WideAt.sameKey_eq gM];exact hpd k v _ g2
   rw [this,hp] at r2;cases r2
  | false =>
   have e0:gY F (fun _ v=>p v) k=some v:=by unfold gY;rw [hF];simp [Option.filter,hp]
   rw [e0];have hqm:q∈es.filter fun q=>!pd q.1 q.2:=List.mem_filter.2 ⟨hq,by rw [hpq,hp];rfl⟩
   refine⟨?_,fun u hu=>?_⟩
   ·rw [Maps.has_eq];exact List.any_eq_true.2 ⟨q,hqm,hs⟩
   ·obtain rfl:=zOi hu;refine⟨d,h2,fun zd=>?_⟩;refine WideAt.atKey_mem zd jM zlx ?_;rw [<- eq1,<- hd];exact hqm
theorem Nw(x:Int)(nv:Value)(w:World):(Instr.field 102 (.agg #[.int .i64 x,nv]) 1).run Tryz.prog w=.ok nv w:=by simp [Instr.field,run_underlying Tryz.underlying102,run_underlying Tryz.underlying30,part,isAgg,asAgg,go_sem]
theorem zas(key:Value)(h:Int)(p go n:Nat)(F:Int->Option OV)(w:World)(hc:w.cell? ⟨p,0,none⟩=some (.map (some go)))(hm:Mp fI w go n F)(hF:∀ v,F h=some v->0<v.2.2.1)(hr:-9223372036854775808<=h/\h<=9223372036854775807) :
  Calls Tryz.prog 57 #[key,.int .i64 h,.pointer (some ⟨p,0,none⟩)] w fun e w'=>e=.returned (.bool (!(F h).isSome))/\w=w':=by
 have lP:(Instr.lookup 108 (.map (some go)) (.int .i64 h) false).run Tryz.prog w=.ok (oP ((F h).getD (0,none,0,0))) w:=hm.look hr;have hfb:=Nw;cases hq:F h with
 | none =>
  rw [hq] at lP;replace lP:(Instr.lookup 108 (.map (some go)) (.int .i64 h) false).run Tryz.prog w=.ok (.agg #[.int .i64 0,.slice none 0 0]) w:=lP;clear hm hF hq;go_enter Tryz.func57,Tryz.ntmps57
  go_wp2;go_ret;exact⟨rfl,rfl⟩
 | some v =>
  rw [hq] at lP;have hv:=hF v hq;obtain⟨t,a,N,c⟩:=v;replace lP:(Instr.lookup 108 (.map (some go)) (.int .i64 h) false).run Tryz.prog w=.ok (.agg #[.int .i64 t,.slice a N c]) w:=lP;have aO:((N:Int) == 0)=false:=beq_eq_false_iff_ne.2 (by dsimp only at hv;omega);dsimp only at hv;clear hm hF hq;go_enter Tryz.func57,Tryz.ntmps57
  go_wp2;go_ret;exact⟨rfl,rfl⟩
def zhp(F:Int->Option OV)(_:Lit)(d:DataW Unit):Bool:=match d with | .lit (.int _ h)=>!(F h).isSome | _=>false
theorem YL(p go n gr nr:Nat)(Fo:Int->Option OV)(Fr:ByteArray->Option Int)(w:World)(hc:w.cell? ⟨p,0,none⟩=some (.map (some go)))(hm:Mp fI w go n Fo)(aO:go≠gr)(hF:∀ h v,Fo h=some v->0<v.2.2.1)(hr:Mp fY w gr nr Fr)(hpr:p≠gr) :
  Calls Tryz.prog 56 #[.map (some gr),.func (.func 57) #[] #[.pointer (some ⟨p,0,none⟩)]] w fun e w'=>e=.returned (.tuple #[])/\Mp fY w' gr nr (gY Fr fun _ h=>!(Fo h).isSome)/\w.grownBy w' (some gr):=by
 obtain⟨D,az,hD⟩:=hr;have ew:w.ownsMap Tryz.prog 9 inR gr nr D:=az;have c:=AnyDf.maps_DeleteFunc mdS (Maps.string_keyed zu9) inR (zhp Fo) 57 #[.pointer (some ⟨p,0,none⟩)] gr nr D w (enters_of Tryz.func57 (by kernel_rfl) rfl) ew (fun W key val kl yd yp hg dt hv=>by obtain⟨h,rfl,e,hr⟩:=uF hv;obtain⟨rfl,rfl⟩:=Prod.mk.inj e;refine(zas key h p go n Fo W (hg.cell hc (fun e=>hpr (zOi e))) (hm.grown hg (fun e=>aO (zOi e))) (fun v hv=>hF h v hv) hr).mono ?_;rintro e w' ⟨rfl,rfl⟩;exact⟨rfl,World.grownBy.refl _ _⟩);change Calls Tryz.prog 56 _ _ _ at c;refine c.mono ?_;rintro e w' ⟨rfl,ho,hg⟩;refine⟨rfl,Mp.filter (M:=fY) (p:=fun h=>!(Fo h).isSome) az hD (zhp Fo) (fun k v d hd=>?_) (fun k v hv=>trivial) ho,hg⟩;have hd':inR (.int .i64 v)=some (d,[]):=hd;obtain⟨a,e1,e2,_⟩:=uF hd';obtain⟨rfl,_⟩:=Prod.mk.inj e2;have:v=a:=by simpa using e1
 subst this;rfl
end
end Go.Proofs.YtcimhnnendlblaaGreat
