/-
  Parts of the proofs, joined by program.
-/
import Derived.Test.YtchmlnmhbfaclaaGreatDoorProg
import Derived.Test.YtchmlnmhbfaclaaGreatDoorJChp
import Derived.Test.YtchmlnmhbfaclaaGreatDoorJNum
import Derived.Shelf.SlSortCmp.QuietGrown
import Derived.Deep.SlicePairs
import Derived.Shelf.SlSortCmp.WholeK
import Derived.Shelf.SlSortCmp.NoneTotal
import Derived.Shelf.SlicesG.Cmp
import Derived.Shelf.SlicesQ.IndexFunc
import Derived.Shelf.SlicesE.Clone
import Derived.Shelf.SlGeneric
import Derived.Ground.SlsfProg
import Derived.Ground.SlgcProg
import Derived.Ground.SlgfProg
import Derived.Ground.SlgnProg
namespace Go.Proofs.YtchmlnmhbfaclaaGreatDoor
open Go.RowKit Go.Sort
set_option linter.unusedVariables false
def InI(e:(Int×Int)):Prop:=(-9223372036854775808<=e.1/\e.1<=9223372036854775807)/\-9223372036854775808<=e.2/\e.2<=9223372036854775807
def Sm(e:(Int×Int)):Prop:=(-9000<=e.1/\e.1<=9000)/\-9000<=e.2/\e.2<=9000
theorem below_draws{B:Nat}{w w':World}(h:Below B w w')(n:Nat):Below B w (w'.drewN n):=by
 induction n with
 | zero=>exact h
 | succ n ih=>exact ih.drew
theorem zae{w:World}{q:Nat}{os:Array Obj}:Below w.heap.size w (grow (w.drewN q) os):=by
 have:∀ (os:List Obj) (W:World),Below w.heap.size w W->w.heap.size<=W.heap.size->Below w.heap.size w (grow W os.toArray):=by
  intro os
  induction os with
  | nil=>intro W h _;rw [show grow W #[]=W from grow_empty W];exact h
  | cons o r ih =>
   intro W h hs
   have e:grow W (o :: r).toArray=grow (W.alloc o) r.toArray:=by
    rw [alloc_eq_grow,grow_grow]
    congr 1
    simp
   rw [e]
   refine ih _ (h.alloc hs _) (by simp;omega)
 have h:=this os.toList (w.drewN q) (below_draws (Below.refl _ _) q) (Nat.le_refl _)
 simpa using h
def bhd(e:(Int×Int)):Int:=wrap64 (e.1+e.2)
def zhW(a b:(Int×Int)):Bool:=decide (a.1<bhd b) && decide (b.1<bhd a)
theorem zti{e:(Int×Int)}(h:Sm e):bhd e=e.1+e.2:=by
 obtain⟨⟨h1,h2⟩,h3,h4⟩:=h
 unfold bhd wrap64
 omega
theorem zuG{a b:(Int×Int)}(ha:Sm a)(hb:Sm b):zhW a b=over a b:=by unfold zhW over;rw [zti ha,zti hb]
theorem ziI(e:(Int×Int))(w:World) :
  Calls Tryz.prog 266 #[.agg #[.int .i64 e.1,.int .i64 e.2]] w fun x w'=>x=.returned (.int .i64 (bhd e))/\∃ q os,w'=grow (w.drewN q) os:=by
 obtain⟨x,y⟩:=e
 dsimp only
 go_enter Tryz.func266,Tryz.ntmps266
 go_wp2
 go_ret
 exact⟨rfl,0,_,by rw [alloc_eq_grow];rfl⟩
theorem zhq(e:(Int×Int))(w:World)(h:Sm e) :
  Calls Tryz.prog 266 #[.agg #[.int .i64 e.1,.int .i64 e.2]] w fun x w'=>x=.returned (.int .i64 (e.1+e.2))/\Below w.heap.size w w' :=
 (ziI e w).mono fun x w' ⟨h1,q,os,h2⟩=>⟨by rw [h1,zti h],by rw [h2];exact zae⟩
theorem zlP(n:Int)(e:(Int×Int))(w:World)(h0:0<=n)(hn:n<=6400)(h:InI e) :
  Calls Tryz.prog 305 #[.int .i64 n,.agg #[.int .i64 e.1,.int .i64 e.2]] w fun x w'=>x=.returned (.bool (there n e))/\Below w.heap.size w w':=by
 obtain⟨x,y⟩:=e
 obtain⟨⟨h1,h2⟩,h3,h4⟩:=h
 dsimp only at *
 unfold there
 dsimp only
 by_cases g1:0<=x
 ·by_cases g2:1<=y
  ·rw [decide_eq_true g1,decide_eq_true g2]
   go_enter Tryz.func305,Tryz.ntmps305
   go_wp2
   go_ret
   exact⟨rfl,(Below.refl _ _).alloc (Nat.le_refl _) _⟩
  ·rw [decide_eq_true g1,decide_eq_false g2]
   go_enter Tryz.func305,Tryz.ntmps305
   go_wp2
   go_ret
   exact⟨rfl,(Below.refl _ _).alloc (Nat.le_refl _) _⟩
 ·rw [decide_eq_false g1]
  go_enter Tryz.func305,Tryz.ntmps305
  go_wp2
  go_ret
  exact⟨rfl,(Below.refl _ _).alloc (Nat.le_refl _) _⟩
theorem zgl(w:World)(x y:Value)(t:TypeId)(n:Nat)(os:Array Obj):(grow ((w.alloc (.cells #[x,y] t)).drewN n) os).cell? ⟨w.heap.size,0,none⟩=some x/\(grow ((w.alloc (.cells #[x,y] t)).drewN n) os).cell? ⟨w.heap.size,1,none⟩=some y:=by
 constructor
 ·refine cell_grown (by simp) ?_ n os
  rw [cell_of_row _ _ _ _ _ (0,0) (heap_alloc_new w _)];rfl
 ·refine cell_grown (by simp) ?_ n os
  rw [cell_of_row _ _ _ _ _ (0,0) (heap_alloc_new w _)];rfl
theorem zdS(w:World)(x y x' y':Value)(t:TypeId)(n:Nat)(os:Array Obj):(grow (((w.alloc (.cells #[x,y] t)).alloc (.cells #[x',y'] t)).drewN n) os).cell? ⟨w.heap.size,0,none⟩=some x/\(grow (((w.alloc (.cells #[x,y] t)).alloc (.cells #[x',y'] t)).drewN n) os).cell? ⟨w.heap.size,1,none⟩=some y:=by
 have h:=zgl w x y t 0 #[]
 rw [show grow ((w.alloc (.cells #[x,y] t)).drewN 0) #[]=w.alloc (.cells #[x,y] t) from grow_empty _] at h
 refine⟨cell_grown (by simp;omega) ?_ n os,cell_grown (by simp;omega) ?_ n os⟩
 ·rw [World.cell?_alloc_lt _ _ ⟨w.heap.size,0,none⟩ (by simp)];exact h.1
 ·rw [World.cell?_alloc_lt _ _ ⟨w.heap.size,1,none⟩ (by simp)];exact h.2
set_option maxRecDepth 100000 in
set_option maxHeartbeats 1000000 in
theorem zvg(a b:(Int×Int))(w:World) :
  Calls Tryz.prog 308 #[.agg #[.int .i64 a.1,.int .i64 a.2],.agg #[.int .i64 b.1,.int .i64 b.2]] w fun x w'=>x=.returned (.bool (zhW a b))/\∃ q os,w'=grow (w.drewN q) os:=by
 have mixed:Tryz.prog.follows .mixedOrders=true:=by kernel_rfl
 have ca:=fun W=>ziI a W
 have cb:=fun W=>ziI b W
 obtain⟨x,y⟩:=a
 obtain⟨u,v⟩:=b
 unfold zhW
 generalize bhd (x,y)=p at *
 generalize bhd (u,v)=q at *
 have HA:=zb ca
 have HB:=zb cb
 have l1:=fun n os=>(zdS w (.int .i64 x) (.int .i64 y) (.int .i64 u) (.int .i64 v) 124 n os).1
 have l2:=fun n os=>(zdS w (.int .i64 x) (.int .i64 y) (.int .i64 u) (.int .i64 v) 124 n os).2
 have l3:=fun n os=>(zgl (w.alloc (.cells #[.int .i64 x,.int .i64 y] 124)) (.int .i64 u) (.int .i64 v) 124 n os).1
 have l4:=fun n os=>(zgl (w.alloc (.cells #[.int .i64 x,.int .i64 y] 124)) (.int .i64 u) (.int .i64 v) 124 n os).2
 rw [show(w.alloc (.cells #[.int .i64 x,.int .i64 y] 124)).heap.size=w.heap.size+1 by simp] at l3 l4
 clear ca cb
 dsimp only at *
 have hfin:∀ n os,∃ q os',grow (((w.alloc (.cells #[.int .i64 x,.int .i64 y] 124)).alloc (.cells #[.int .i64 u,.int .i64 v] 124)).drewN n) os=grow (w.drewN q) os':=fun n os=>⟨n,_,by rw [alloc_eq_grow,alloc_eq_grow,grow_grow];show grow (grow (w.drewN n) _) os=_;rw [grow_grow]⟩
 have HF:=zb hfin
 clear hfin
 by_cases c1:x<q
 ·rw [decide_eq_true c1,Bool.true_and]
  go_enter Tryz.func308,Tryz.ntmps308
  go_wp2_with fail
  generalize (w.alloc (.cells #[.int .i64 x,.int .i64 y] 124)).alloc (.cells #[.int .i64 u,.int .i64 v] 124)=W at *
  go_quiet_grown (first | (go_at_call 266;first | exact Calls.grown_of (za HB _) | exact Calls.grown_of (za HA _)))
  go_wp2
  go_ret
  exact⟨rfl,za HF _ _⟩
 ·have dd:decide (x<q)=false:=decide_eq_false c1
  rw [dd,Bool.false_and]
  go_enter Tryz.func308,Tryz.ntmps308
  go_wp2_with fail
  generalize (w.alloc (.cells #[.int .i64 x,.int .i64 y] 124)).alloc (.cells #[.int .i64 u,.int .i64 v] 124)=W at *
  go_quiet_grown (first | (go_at_call 266;first | exact Calls.grown_of (za HB _) | exact Calls.grown_of (za HA _)))
  go_wp2
  go_ret
  exact⟨rfl,za HF _ _⟩
end Go.Proofs.YtchmlnmhbfaclaaGreatDoor
namespace Go.Proofs.YtchmlnmhbfaclaaGreatDoor
open Go.RowKit Go.Sort Go.Shelf
set_option linter.unusedVariables false
def zpk:Ren:={ f:=fun | 6=>310 | 15=>335 | 14=>334 | 28=>350 | 29=>319 | 20=>342 | 21=>343 | 22=>344 | 23=>345 | 24=>346 | 25=>347 | 26=>348 | 27=>349 | 46=>360 | 47=>361 | 48=>362 | 49=>363 | 50=>364 | 57=>368 | n=>n,t:=fun | 22=>96 | 24=>124 | 25=>404 | 3=>3 | 39=>251 | 0=>0 | 53=>326 | 55=>355 | 4=>4 | 46=>434 | 45=>433 | 50=>67 | 5=>5 | 9=>9 | 66=>445 | 70=>449 | 76=>453 | 77=>75 | n=>n,g:=fun n=>n }
theorem zw4:SlLaysF0.n6 Tryz.prog zpk:={ mixed:=by kernel_rfl,f6:=⟨ "slices.SortFunc[[]vaultkeel/api.Extent,vaultkeel/api.Extent]",by decide,Tryz.func310.trans rfl⟩,f14:=⟨ "slices.pdqsortCmpFunc[vaultkeel/api.Extent]",by decide,Tryz.func334.trans rfl⟩,f15:=Tryz.func335.trans rfl,f20:=⟨ "slices.insertionSortCmpFunc[vaultkeel/api.Extent]",by decide,Tryz.func342.trans rfl⟩,f21:=⟨ "slices.heapSortCmpFunc[vaultkeel/api.Extent]",by decide,Tryz.func343.trans rfl⟩,f22:=⟨ "slices.breakPatternsCmpFunc[vaultkeel/api.Extent]",by decide,Tryz.func344.trans rfl⟩,f23:=⟨ "slices.choosePivotCmpFunc[vaultkeel/api.Extent]",by decide,Tryz.func345.trans rfl⟩,f24:=⟨ "slices.reverseRangeCmpFunc[vaultkeel/api.Extent]",by decide,Tryz.func346.trans rfl⟩,f25:=⟨ "slices.partialInsertionSortCmpFunc[vaultkeel/api.Extent]",by decide,Tryz.func347.trans rfl⟩,f26:=⟨ "slices.partitionEqualCmpFunc[vaultkeel/api.Extent]",by decide,Tryz.func348.trans rfl⟩,f27:=⟨ "slices.partitionCmpFunc[vaultkeel/api.Extent]",by decide,Tryz.func349.trans rfl⟩,f28:=Tryz.func350.trans rfl,f29:=Tryz.func319.trans rfl,f46:=⟨ "slices.siftDownCmpFunc[vaultkeel/api.Extent]",by decide,Tryz.func360.trans rfl⟩,f47:=Tryz.func361.trans rfl,f48:=Tryz.func362.trans rfl,f49:=⟨ "slices.medianAdjacentCmpFunc[vaultkeel/api.Extent]",by decide,Tryz.func363.trans rfl⟩,f50:=⟨ "slices.medianCmpFunc[vaultkeel/api.Extent]",by decide,Tryz.func364.trans rfl⟩,f57:=⟨ "slices.order2CmpFunc[vaultkeel/api.Extent]",by decide,Tryz.func368.trans rfl⟩,t0:=Tryz.underlying0,a0:=Tryz.isAgg0,z0:=Tryz.sizeOf0,v0:=Tryz.zeroValue0,t3:=Tryz.underlying3,a3:=Tryz.isAgg3,z3:=Tryz.sizeOf3,v3:=Tryz.zeroValue3,t4:=Tryz.underlying4,a4:=Tryz.isAgg4,z4:=Tryz.sizeOf4,v4:=Tryz.zeroValue4,t5:=Tryz.underlying5,a5:=Tryz.isAgg5,z5:=Tryz.sizeOf5,v5:=Tryz.zeroValue5,t9:=Tryz.underlying9,a9:=Tryz.isAgg9,z9:=Tryz.sizeOf9,v9:=Tryz.zeroValue9,t22:=Tryz.underlying96,a22:=Tryz.isAgg96,z22:=Tryz.sizeOf96,v22:=Tryz.zeroValue96,t25:=Tryz.underlying404,a25:=Tryz.isAgg404,z25:=Tryz.sizeOf404,v25:=Tryz.zeroValue404,t39:=Tryz.underlying251,a39:=Tryz.isAgg251,z39:=Tryz.sizeOf251,v39:=Tryz.zeroValue251,t45:=Tryz.underlying433,a45:=Tryz.isAgg433,z45:=Tryz.sizeOf433,v45:=Tryz.zeroValue433,t46:=Tryz.underlying434,a46:=Tryz.isAgg434,z46:=Tryz.sizeOf434,v46:=Tryz.zeroValue434,t50:=Tryz.underlying67,a50:=Tryz.isAgg67,z50:=Tryz.sizeOf67,v50:=Tryz.zeroValue67,t53:=Tryz.underlying326,a53:=Tryz.isAgg326,z53:=Tryz.sizeOf326,v53:=Tryz.zeroValue326,t55:=Tryz.underlying355,a55:=Tryz.isAgg355,z55:=Tryz.sizeOf355,v55:=Tryz.zeroValue355,t66:=Tryz.underlying445,a66:=Tryz.isAgg445,z66:=Tryz.sizeOf445,v66:=Tryz.zeroValue445,t70:=Tryz.underlying449,a70:=Tryz.isAgg449,z70:=Tryz.sizeOf449,v70:=Tryz.zeroValue449,t76:=Tryz.underlying453,a76:=Tryz.isAgg453,z76:=Tryz.sizeOf453,v76:=Tryz.zeroValue453,t77:=Tryz.underlying75,a77:=Tryz.isAgg75,z77:=Tryz.sizeOf75,v77:=Tryz.zeroValue75 }
def zsK:Ren:={ f:=fun | 5=>298 | 7=>329 | n=>n,t:=fun | 22=>3 | 3=>3 | 4=>4 | n=>n,g:=fun n=>n }
theorem zDj:SlLaysC2.n5 Tryz.prog zsK:={ mixed:=by kernel_rfl,f5:=⟨ "cmp.Compare[int]",by decide,Tryz.func298.trans rfl⟩,f7:=⟨ "cmp.isNaN[int]",by decide,Tryz.func329.trans rfl⟩,t3:=Tryz.underlying3,a3:=Tryz.isAgg3,z3:=Tryz.sizeOf3,v3:=Tryz.zeroValue3,t4:=Tryz.underlying4,a4:=Tryz.isAgg4,z4:=Tryz.sizeOf4,v4:=Tryz.zeroValue4,t22:=Tryz.underlying3,a22:=Tryz.isAgg3,z22:=Tryz.sizeOf3,v22:=Tryz.zeroValue3 }
def zpl:Ren:={ f:=fun | 8=>306 | 6=>333 | n=>n,t:=fun | 22=>96 | 23=>124 | 25=>402 | 4=>4 | 3=>3 | 0=>0 | n=>n,g:=fun n=>n }
theorem zw5:SlLaysH0.n8 Tryz.prog zpl:={ mixed:=by kernel_rfl,f6:=⟨ "slices.IndexFunc[[]vaultkeel/api.Extent,vaultkeel/api.Extent]",by decide,Tryz.func333.trans rfl⟩,f8:=⟨ "slices.ContainsFunc[[]vaultkeel/api.Extent,vaultkeel/api.Extent]",by decide,Tryz.func306.trans rfl⟩,t0:=Tryz.underlying0,a0:=Tryz.isAgg0,z0:=Tryz.sizeOf0,v0:=Tryz.zeroValue0,t3:=Tryz.underlying3,a3:=Tryz.isAgg3,z3:=Tryz.sizeOf3,v3:=Tryz.zeroValue3,t4:=Tryz.underlying4,a4:=Tryz.isAgg4,z4:=Tryz.sizeOf4,v4:=Tryz.zeroValue4,t22:=Tryz.underlying96,a22:=Tryz.isAgg96,z22:=Tryz.sizeOf96,v22:=Tryz.zeroValue96,t25:=Tryz.underlying402,a25:=Tryz.isAgg402,z25:=Tryz.sizeOf402,v25:=Tryz.zeroValue402 }
def zl2:Ren:={ f:=fun | 41=>309 | n=>n,t:=fun | 22=>96 | 23=>124 | 4=>4 | n=>n,g:=fun n=>n }
theorem zsL:SlLaysE0.n41 Tryz.prog zl2:={ mixed:=by kernel_rfl,f41:=⟨ "slices.Clone[[]vaultkeel/api.Extent,vaultkeel/api.Extent]",by decide,Tryz.func309.trans rfl⟩,t4:=Tryz.underlying4,a4:=Tryz.isAgg4,z4:=Tryz.sizeOf4,v4:=Tryz.zeroValue4,t22:=Tryz.underlying96,a22:=Tryz.isAgg96,z22:=Tryz.sizeOf96,v22:=Tryz.zeroValue96 }
def exC(e:(Int×Int)):List Value:=[.int .i64 e.1,.int .i64 e.2]
def Exs(w:World)(a:Option Addr)(cap:Nat)(l:List (Int×Int)):Prop :=
 (∀ e∈l,InI e)/\(l.length<=cap/\(a=none->cap=0))/\l.length<=8796093021952/\(l≠[]->∃ b off,a=some ⟨b,off,none⟩/\∀ i,i<l.length->w.cell? ⟨b,off+i * 2,none⟩=some (.int .i64 (l.getD i (0,0)).1)/\w.cell? ⟨b,off+i * 2+1,none⟩=some (.int .i64 (l.getD i (0,0)).2))
theorem Exs.below{w w':World}{a:Option Addr}{cap:Nat}{l:List (Int×Int)}(h:Exs w a cap l)(hb:Below w.heap.size w w'):Exs w' a cap l:=by
 obtain⟨h1,h2,h3,h4⟩:=h
 refine⟨h1,h2,h3,fun hne=>?_⟩
 obtain⟨b,off,rfl,hc⟩:=h4 hne
 refine⟨b,off,rfl,fun i hi=>?_⟩
 obtain⟨c0,c1⟩:=hc i hi
 exact⟨(hb.cell (block_lt_of_cell c0)).trans c0,(hb.cell (block_lt_of_cell c1)).trans c1⟩
theorem Exs.inI{w:World}{a:Option Addr}{cap:Nat}{l:List (Int×Int)}(h:Exs w a cap l)(i:Nat):InI (l.getD i (0,0)):=by
 by_cases hi:i<l.length
 ·have:l.getD i (0,0)=l[i]:=by simp [List.getD,hi]
  rw [this];exact h.1 _ (List.getElem_mem hi)
 ·have:l.getD i (0,0)=(0,0):=by simp [List.getD,List.getElem?_eq_none (by omega:l.length<=i)]
  rw [this];unfold InI;decide
theorem zmK{n:Int}{e:(Int×Int)}(hn:n<=6400)(h:there n e=true):Sm e:=by
 have:=zdl.1 h
 unfold Sm
 omega
theorem zpA(e x:(Int×Int))(g:Nat)(W:World)(c0:W.cell? ⟨g,0,none⟩=some (.int .i64 e.1))(c1:W.cell? ⟨g,1,none⟩=some (.int .i64 e.2)) :
  Calls Tryz.prog 307 #[.agg #[.int .i64 x.1,.int .i64 x.2],.pointer (some ⟨g,0,none⟩)] W fun r w'=>r=.returned (.bool (zhW e x))/\Below W.heap.size W w':=by
 have hg:=block_lt_of_cell c0
 dsimp only at hg
 have d0:(W.alloc (.cells #[.int .i64 x.1,.int .i64 x.2] 124)).cell? ⟨g,0,none⟩=some (.int .i64 e.1):=by rw [World.cell?_alloc_lt _ _ ⟨g,0,none⟩ hg];exact c0
 have d1:(W.alloc (.cells #[.int .i64 x.1,.int .i64 x.2] 124)).cell? ⟨g,1,none⟩=some (.int .i64 e.2):=by rw [World.cell?_alloc_lt _ _ ⟨g,1,none⟩ hg];exact c1
 have HO:=zb (zvg e x (W.alloc (.cells #[.int .i64 x.1,.int .i64 x.2] 124)))
 generalize zhW e x=r at *
 clear c0 c1
 go_enter Tryz.func307,Tryz.ntmps307
 go_wp2_with fail
 refine(za HO).mono ?_
 rintro e' w1 ⟨rfl,q,os,rfl⟩
 go_wp2
 go_ret
 exact⟨rfl,((Below.refl _ W).alloc (Nat.le_refl _) _).trans (zae.mono (by simp))⟩
theorem zkr{w:World}{b off cap:Nat}{l:List (Int×Int)}(i:Nat)(hi:i<=l.length)(hl:l.length<=cap)(h0:0<cap)(w':World) :
  (Instr.slice 96 (.slice (some ⟨b,off,none⟩) l.length cap) none (some (.int .i64 i)) none).run Tryz.prog w'=.ok (.slice (some ⟨b,off,none⟩) i cap) w':=by
 have he:Tryz.prog.elem 96=124:=by simp [Program.elem,Tryz.underlying96]
 rw [run_slice_h (P:=Tryz.prog) (w:=w') 96 _ l.length cap (by rw [he];exact Tryz.underlying96) .i64 i (by omega) (by omega),he,Tryz.sizeOf124 w']
 simp only [Result.andThen,sliced]
 rw [if_neg (by omega)]
 simp [Addr.add]
theorem zta{n:Int}{l:List (Int×Int)}{k:Nat}(hk:k<l.length):zkC n (l.take k) (l.drop k)=if there n (l.getD k (0,0))=false then 1 else if (l.take k).any (over (l.getD k (0,0)))=true then 7 else zkC n (l.take (k+1)) (l.drop (k+1)):=by
 rw [List.drop_eq_getElem_cons hk]
 have e:l.getD k (0,0)=l[k]:=by simp [List.getD,hk]
 rw [e,List.take_succ_eq_append_getElem hk]
 rfl
theorem zwi{n:Int}{e:(Int×Int)}{l:List (Int×Int)}(hn:n<=6400)(he:there n e=true)(hl:∀ x∈l,there n x=true):l.any (zhW e)=l.any (over e):=by
 induction l with
 | nil=>rfl
 | cons x r ih =>
  rw [List.any_cons,List.any_cons,ih (fun y hy=>hl y (by simp [hy])),zuG (zmK hn he) (zmK hn (hl x (by simp)))]
theorem ztd(n:Int)(a:Option Addr)(len cap:Nat)(w:World)(hn:n<0\/6400<n) :
  Calls Tryz.prog 264 #[.int .i64 n,.slice a len cap] w fun e w'=>e=.returned (zK 1)/\w=w':=by
 rw [zh 1 (by decide)]
 by_cases h:n<0
 ·go_enter Tryz.func264,Tryz.ntmps264
  go_wp2
  go_ret
  exact⟨rfl,rfl⟩
 ·have h2:6400<n:=by omega
  go_enter Tryz.func264,Tryz.ntmps264
  go_wp2
  go_ret
  exact⟨rfl,rfl⟩
theorem zpy(n:Int)(a:Option Addr)(len cap:Nat)(w:World)(h0:0<=n)(hn:n<=6400)(hl:200<len)(hb:len<=8796093021952) :
  Calls Tryz.prog 264 #[.int .i64 n,.slice a len cap] w fun e w'=>e=.returned (zK 4)/\w=w':=by
 rw [zh 4 (by decide)]
 have g1:¬ n<0:=by omega
 have g2:¬ 6400<n:=by omega
 go_enter Tryz.func264,Tryz.ntmps264
 go_wp2
 go_ret
 exact⟨rfl,rfl⟩
set_option maxHeartbeats 1000000 in
theorem ztc(n:Int)(a:Option Addr)(cap:Nat)(l:List (Int×Int))(w:World)(hl:Exs w a cap l)(h0:0<=n)(hn:n<=6400)(hN:l.length<=200) :
  Calls Tryz.prog 264 #[.int .i64 n,.slice a l.length cap] w fun e w'=>e=.returned (zK (zkC n [] l))/\Below w.heap.size w w':=by
 have g1:¬ n<0:=by omega
 have g2:¬ 6400<n:=by omega
 have g3:¬ (200:Int)<l.length:=by omega
 have HL:=zb hl
 clear hl
 go_enter Tryz.func264,Tryz.ntmps264
 go_wp2_with fail
 go_loopw [20] (fun v wr=>∃ k:Nat,k<=l.length/\v=.int .i64 k/\Below w.heap.size w wr/\zkC n [] l=zkC n (l.take k) (l.drop k)/\∀ e∈l.take k,there n e=true) (fun v _=>l.length-(intOf v).toNat)
 case atStart=>exact⟨0,Nat.zero_le _,rfl,Below.refl _ _,by rw [List.take_zero,List.drop_zero],fun e he=>by rw [List.take_zero] at he;cases he⟩
 case round =>
  obtain⟨k,hk,rfl,hbel,hz,hgd⟩:=hrel
  by_cases hlt:k<l.length
  ·have hne:l≠[]:=by intro e;rw [e] at hlt;simp at hlt
   obtain⟨b,off,rfl,hcell⟩:=(za HL).2.2.2 hne
   obtain⟨c0,c1⟩:=hcell k hlt
   have hbw:=block_lt_of_cell c0
   dsimp only at hbw
   rw [<- hbel.cell (block_lt_of_cell c0)] at c0
   rw [<- hbel.cell (block_lt_of_cell c1)] at c1
   have hin:=(za HL).inI k
   have hcap:=(za HL).2.1.1
   have hsl:=fun w'=>zkr (w:=w) (b:=b) (off:=off) k hk hcap (by omega) w'
   rw [zta hlt] at hz
   have hmem:l.getD k (0,0)=l[k]:=by simp [List.getD,hlt]
   have htk:∀ e∈l.take (k+1),there n (l.getD k (0,0))=true->there n e=true:=fun e he hth=>by
    rw [List.take_succ_eq_append_getElem hlt] at he
    rcases List.mem_append.1 he with he | he
    ·exact hgd e he
    ·rw [List.mem_singleton.1 he,<- hmem];exact hth
   have hany:there n (l.getD k (0,0))=true->(l.take k).any (zhW (l.getD k (0,0)))=(l.take k).any (over (l.getD k (0,0))):=fun hth=>zwi hn hth hgd
   have hbA:Below w.heap.size w (wr.alloc (.cells #[.int .i64 (l.getD k (0,0)).1,.int .i64 (l.getD k (0,0)).2] 124)):=hbel.alloc hbel.size _
   have HT:=zb (zlP n (l.getD k (0,0)) (wr.alloc (.cells #[.int .i64 (l.getD k (0,0)).1,.int .i64 (l.getD k (0,0)).2] 124)) h0 hn hin)
   have HC0:Hid ((wr.alloc (.cells #[.int .i64 (l.getD k (0,0)).1,.int .i64 (l.getD k (0,0)).2] 124)).cell? ⟨wr.heap.size,0,none⟩=some (.int .i64 (l.getD k (0,0)).1)):=zb (by rw [cell_of_row _ _ _ _ _ (0,0) (heap_alloc_new wr _)];rfl)
   have HC1:Hid ((wr.alloc (.cells #[.int .i64 (l.getD k (0,0)).1,.int .i64 (l.getD k (0,0)).2] 124)).cell? ⟨wr.heap.size,1,none⟩=some (.int .i64 (l.getD k (0,0)).2)):=zb (by rw [cell_of_row _ _ _ _ _ (0,0) (heap_alloc_new wr _)];rfl)
   have HCELL:=zb hcell
   have HZ:=zb hz
   have HTK:=zb htk
   have HANY:=zb hany
   have HBA:=zb hbA
   clear hz htk hany hcell hgd hin hmem hbA hbel hne
   generalize l.getD k (0,0)=e at *
   cases hth:there n e with
   | false =>
    rw [hth] at HT
    have HE:Hid (zkC n [] l=1):=zb (by rw [za HZ,if_pos hth])
    clear HZ HTK HANY hth
    go_wp2_with fail
    refine(za HT).mono ?_
    rintro e' w1 ⟨rfl,hb1⟩
    have HB1:=zb ((za HBA).trans (hb1.mono (za HBA).size))
    clear hb1
    go_wp2
    go_ret
    exact⟨by rw [za HE];rfl,za HB1⟩
   | true =>
    rw [hth] at HT
    have HTH:=zb hth
    clear hth
    go_wp2_with fail
    refine(za HT).mono ?_
    rintro e' w1 ⟨rfl,hb1⟩
    have HB1:=zb ((za HBA).trans (hb1.mono (za HBA).size))
    have hd0:=(hb1.cell (block_lt_of_cell (za HC0))).trans (za HC0)
    have hd1:=(hb1.cell (block_lt_of_cell (za HC1))).trans (za HC1)
    have hcon:=AnyQ.slices_ContainsFunc zw5 2 Tryz.isAgg124 Tryz.sizeOf124 exC (fun _=>rfl) (zhW e) 307 #[.pointer (some ⟨wr.heap.size,0,none⟩)] (enters_of Tryz.func307 (by kernel_rfl) rfl) b off k cap l w1
     (fun W x hW=>(zpA e x wr.heap.size W ((hW.cell (block_lt_of_cell hd0)).trans hd0) ((hW.cell (block_lt_of_cell hd1)).trans hd1)).mono fun r w' ⟨hr,hbb⟩=>⟨hr,hW.trans (hbb.mono hW.size)⟩)
     hk (by omega) (by have:=(za HB1).size;omega)
     (fun j hj i v hv=>by
      obtain⟨q0,q1⟩:=za HCELL j hj
      have ej:l[j]! = l.getD j (0,0):=by simp [List.getD,hj]
      rw [ej] at hv
      match i,hv with
      | 0,hv=>obtain rfl:=Option.some.inj hv;exact((za HB1).cell (block_lt_of_cell q0)).trans q0
      | 1,hv=>obtain rfl:=Option.some.inj hv;exact((za HB1).cell (block_lt_of_cell q1)).trans q1
      | i+2,hv=>simp [exC] at hv)
    change Calls Tryz.prog 306 _ _ _ at hcon
    rw [za HANY (za HTH)] at hcon
    have HCON:=zb hcon
    clear hcon hb1 hd0 hd1 HC0 HC1 HT
    have HZ2:Hid (zkC n [] l=if (l.take k).any (over e)=true then 7 else zkC n (l.take (k+1)) (l.drop (k+1))):=zb (by rw [za HZ,if_neg (by rw [za HTH];simp)])
    clear HZ HANY
    generalize (l.take k).any (over e)=r at *
    cases r with
    | true =>
     have HE:Hid (zkC n [] l=7):=zb (by rw [za HZ2,if_pos rfl])
     clear HZ2
     go_wp2_with fail
     refine(za HCON).mono ?_
     rintro e' w2 ⟨rfl,hb2⟩
     have HB2:=zb ((za HB1).trans (hb2.mono (za HB1).size))
     clear hb2
     go_wp2
     go_ret
     exact⟨by rw [za HE];rfl,za HB2⟩
    | false =>
     go_wp2_with fail
     refine(za HCON).mono ?_
     rintro e' w2 ⟨rfl,hb2⟩
     have HB2:=zb ((za HB1).trans (hb2.mono (za HB1).size))
     clear hb2
     go_wp2
     go_roundw
     case rel=>exact⟨k+1,by omega,by go_num,za HB2,by rw [za HZ2];simp,fun x hx=>za HTK x hx (za HTH)⟩
     case measure=>simp [intOf];omega
  ·obtain rfl:k=l.length:=by omega
   have HE:Hid (zkC n [] l=0):=zb (by rw [hz,List.drop_eq_nil_of_le (Nat.le_refl _)];rfl)
   clear hz hgd
   go_wp2
   go_ret
   exact⟨by rw [za HE];rfl,hbel⟩
theorem zgk(n:Int)(a:Option Addr)(cap:Nat)(l:List (Int×Int))(w:World)(hl:Exs w a cap l) :
  Calls Tryz.prog 264 #[.int .i64 n,.slice a l.length cap] w fun e w'=>e=.returned (zK (chk n l))/\Below w.heap.size w w':=by
 unfold chk
 by_cases h1:n<0\/6400<n
 ·rw [if_pos h1]
  exact(ztd n a l.length cap w h1).mono fun e w' ⟨he,hw⟩=>⟨he,by rw [<- hw];exact Below.refl _ _⟩
 ·rw [if_neg h1]
  by_cases h2:200<l.length
  ·rw [if_pos h2]
   exact(zpy n a l.length cap w (by omega) (by omega) h2 hl.2.2.1).mono fun e w' ⟨he,hw⟩=>⟨he,by rw [<- hw];exact Below.refl _ _⟩
  ·rw [if_neg h2]
   exact ztc n a cap l w hl (by omega) (by omega) (by omega)
end Go.Proofs.YtchmlnmhbfaclaaGreatDoor
