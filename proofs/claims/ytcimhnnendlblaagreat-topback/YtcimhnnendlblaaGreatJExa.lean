/-
  Parts of the proofs.
-/
import Derived.Test.YtcimhnnendlblaaGreatJChp
import Derived.Shelf.SlSortCmp.QuietGrown
import Derived.Deep.SlicePairs
import Derived.Shelf.SlSortCmp.WholeK
import Derived.Shelf.SlSortCmp.NoneTotal
import Derived.Shelf.SlicesG.Cmp
import Derived.Shelf.SlicesQ.IndexFunc
import Derived.Shelf.SlicesE.Clone
import Derived.Shelf.SlGeneric
import Derived.Ground.SlsfProg
import Derived.Ground.SlgcProg
import Derived.Ground.SlgfProg
import Derived.Ground.SlgnProg
set_option maxRecDepth 100000
set_option maxHeartbeats 16000000
set_option linter.all false
namespace Go.Proofs.YtcimhnnendlblaaGreat
open Go.RowKit Go.Sort
def yv(e:(Int×Int)):Prop:=(-9223372036854775808<=e.1/\e.1<=9223372036854775807)/\-9223372036854775808<=e.2/\e.2<=9223372036854775807
def Sm(e:(Int×Int)):Prop:=(-9000<=e.1/\e.1<=9000)/\-9000<=e.2/\e.2<=9000
theorem yo{B:Nat}{w w':World}(h:Below B w w')(n:Nat):Below B w (w'.drewN n):=by
 induction n with
 | zero=>exact h
 | succ n ih=>exact ih.drew
theorem fE{w:World}{q:Nat}{os:Array Obj}:Below w.heap.size w (grow (w.drewN q) os):=by
 have:∀ (os:List Obj) (W:World),Below w.heap.size w W->w.heap.size<=W.heap.size->Below w.heap.size w (grow W os.toArray):=by
  intro os;induction os with
  | nil=>intro W h _;rw [show grow W #[]=W from grow_empty W];exact h
  | cons o r ih =>
   intro W h hs;have e:grow W (o :: r).toArray=grow (W.alloc o) r.toArray:=by
    rw [alloc_eq_grow,grow_grow]
    congr 1
    simp
   rw [e];refine ih _ (h.alloc hs _) (by simp;omega)
 have h:=this os.toList (w.drewN q) (yo zBr q) zNr;simpa using h
def bhd(e:(Int×Int)):Int:=wrap64 (e.1+e.2)
def ui(a b:(Int×Int)):Bool:=decide (a.1<bhd b) && decide (b.1<bhd a)
theorem Ob{e:(Int×Int)}(h:Sm e):bhd e=e.1+e.2:=by obtain⟨⟨h1,h2⟩,h3,h4⟩:=h;unfold bhd wrap64;omega
theorem VK{a b:(Int×Int)}(ha:Sm a)(hb:Sm b):ui a b=over a b:=by unfold ui over;rw [Ob ha,Ob hb]
theorem Bo(e:(Int×Int))(w:World) :
  Calls Tryz.prog 233 #[.agg #[.int .i64 e.1,.int .i64 e.2]] w fun x w'=>x=.returned (.int .i64 (bhd e))/\∃ q os,w'=grow (w.drewN q) os:=by
 obtain⟨x,y⟩:=e;dsimp only;go_enter Tryz.func233,Tryz.ntmps233
 go_wp2;go_ret;exact⟨rfl,0,_,by rw [alloc_eq_grow];rfl⟩
theorem Bp(e:(Int×Int))(w:World)(h:Sm e) :
  Calls Tryz.prog 233 #[.agg #[.int .i64 e.1,.int .i64 e.2]] w fun x w'=>x=.returned (.int .i64 (e.1+e.2))/\Below w.heap.size w w' :=
 (Bo e w).mono fun x w' ⟨h1,q,os,h2⟩=>⟨by rw [h1,Ob h],by rw [h2];exact fE⟩
theorem Jn(n:Int)(e:(Int×Int))(w:World)(h0:0<=n)(hn:n<=6400)(h:yv e) :
  Calls Tryz.prog 258 #[.int .i64 n,.agg #[.int .i64 e.1,.int .i64 e.2]] w fun x w'=>x=.returned (.bool (there n e))/\Below w.heap.size w w':=by
 obtain⟨x,y⟩:=e;obtain⟨⟨h1,h2⟩,h3,h4⟩:=h;dsimp only at *;unfold there;dsimp only;by_cases g1:0<=x
 ·by_cases g2:1<=y
  ·rw [decide_eq_true g1,decide_eq_true g2];go_enter Tryz.func258,Tryz.ntmps258
   go_wp2;go_ret;exact⟨rfl,zBr.alloc zNr _⟩
  ·rw [decide_eq_true g1,decide_eq_false g2];go_enter Tryz.func258,Tryz.ntmps258
   go_wp2;go_ret;exact⟨rfl,zBr.alloc zNr _⟩
 ·rw [decide_eq_false g1];go_enter Tryz.func258,Tryz.ntmps258
  go_wp2;go_ret;exact⟨rfl,zBr.alloc zNr _⟩
theorem xh(w:World)(x y:Value)(t:TypeId)(n:Nat)(os:Array Obj):(grow ((w.alloc (.cells #[x,y] t)).drewN n) os).cell? ⟨w.heap.size,0,none⟩=some x/\(grow ((w.alloc (.cells #[x,y] t)).drewN n) os).cell? ⟨w.heap.size,1,none⟩=some y:=by
 constructor
 ·refine cell_grown (by simp) ?_ n os;rw [cell_of_row _ _ _ _ _ (0,0) (heap_alloc_new w _)];rfl
 ·refine cell_grown (by simp) ?_ n os;rw [cell_of_row _ _ _ _ _ (0,0) (heap_alloc_new w _)];rfl
theorem sI(w:World)(x y x' y':Value)(t:TypeId)(n:Nat)(os:Array Obj):(grow (((w.alloc (.cells #[x,y] t)).alloc (.cells #[x',y'] t)).drewN n) os).cell? ⟨w.heap.size,0,none⟩=some x/\(grow (((w.alloc (.cells #[x,y] t)).alloc (.cells #[x',y'] t)).drewN n) os).cell? ⟨w.heap.size,1,none⟩=some y:=by
 have h:=xh w x y t 0 #[];rw [show grow ((w.alloc (.cells #[x,y] t)).drewN 0) #[]=w.alloc (.cells #[x,y] t) from grow_empty _] at h;refine⟨cell_grown (by simp;omega) ?_ n os,cell_grown (by simp;omega) ?_ n os⟩
 ·rw [World.cell?_alloc_lt _ _ ⟨w.heap.size,0,none⟩ (by simp)];exact h.1
 ·rw [World.cell?_alloc_lt _ _ ⟨w.heap.size,1,none⟩ (by simp)];exact h.2
theorem WI(a b:(Int×Int))(w:World) :
  Calls Tryz.prog 260 #[.agg #[.int .i64 a.1,.int .i64 a.2],.agg #[.int .i64 b.1,.int .i64 b.2]] w fun x w'=>x=.returned (.bool (ui a b))/\∃ q os,w'=grow (w.drewN q) os:=by
 have mixed:Tryz.prog.follows .mixedOrders=true:=by kernel_rfl
 have ca:=fun W=>Bo a W
 have cb:=fun W=>Bo b W
 obtain⟨x,y⟩:=a;obtain⟨u,v⟩:=b;unfold ui;generalize bhd (x,y)=p at *;generalize bhd (u,v)=q at *;have HA:=af ca;have HB:=af cb;have l1:=fun n os=>(sI w (.int .i64 x) (.int .i64 y) (.int .i64 u) (.int .i64 v) 123 n os).1
 have l2:=fun n os=>(sI w (.int .i64 x) (.int .i64 y) (.int .i64 u) (.int .i64 v) 123 n os).2
 have l3:=fun n os=>(xh (w.alloc (.cells #[.int .i64 x,.int .i64 y] 123)) (.int .i64 u) (.int .i64 v) 123 n os).1
 have l4:=fun n os=>(xh (w.alloc (.cells #[.int .i64 x,.int .i64 y] 123)) (.int .i64 u) (.int .i64 v) 123 n os).2
 rw [show(w.alloc (.cells #[.int .i64 x,.int .i64 y] 123)).heap.size=w.heap.size+1 by simp] at l3 l4;clear ca cb;dsimp only at *;have uQ:∀ n os,∃ q os',grow (((w.alloc (.cells #[.int .i64 x,.int .i64 y] 123)).alloc (.cells #[.int .i64 u,.int .i64 v] 123)).drewN n) os=grow (w.drewN q) os':=fun n os=>⟨n,_,by rw [alloc_eq_grow,alloc_eq_grow,grow_grow];show grow (grow (w.drewN n) _) os=_;rw [grow_grow]⟩
 have HF:=af uQ;clear uQ;by_cases c1:x<q
 ·rw [decide_eq_true c1,Bool.true_and];go_enter Tryz.func260,Tryz.ntmps260
  go_wp2_with fail
  generalize (w.alloc (.cells #[.int .i64 x,.int .i64 y] 123)).alloc (.cells #[.int .i64 u,.int .i64 v] 123)=W at *;go_quiet_grown (first | (go_at_call 233;first | exact Calls.grown_of (ae HB _) | exact Calls.grown_of (ae HA _)))
  go_wp2;go_ret;exact⟨rfl,ae HF _ _⟩
 ·have dd:decide (x<q)=false:=decide_eq_false c1;rw [dd,Bool.false_and];go_enter Tryz.func260,Tryz.ntmps260
  go_wp2_with fail
  generalize (w.alloc (.cells #[.int .i64 x,.int .i64 y] 123)).alloc (.cells #[.int .i64 u,.int .i64 v] 123)=W at *;go_quiet_grown (first | (go_at_call 233;first | exact Calls.grown_of (ae HB _) | exact Calls.grown_of (ae HA _)))
  go_wp2;go_ret;exact⟨rfl,ae HF _ _⟩
section
open Go.Shelf
def Nz:Ren:={ f:=fun | 6=>262 | 15=>271 | 14=>274 | 28=>284 | 29=>285 | 20=>295 | 21=>296 | 22=>297 | 23=>298 | 24=>299 | 25=>300 | 26=>301 | 27=>302 | 46=>312 | 47=>304 | 48=>305 | 49=>313 | 50=>314 | 57=>317 | n=>n,t:=fun | 22=>214 | 24=>123 | 25=>322 | 3=>3 | 39=>329 | 0=>0 | 53=>341 | 55=>343 | 4=>4 | 46=>335 | 45=>334 | 50=>156 | 5=>5 | 9=>9 | 66=>355 | 70=>359 | 76=>365 | 77=>304 | n=>n,g:=fun n=>n }
theorem Yx:SlLaysF0.n6 Tryz.prog Nz:={ mixed:=by kernel_rfl,f6:=⟨ "slices.SortFunc[[]vaultkeel/api.Extent,vaultkeel/api.Extent]",by decide,Tryz.func262.trans rfl⟩,f14:=⟨ "slices.pdqsortCmpFunc[vaultkeel/api.Extent]",by decide,Tryz.func274.trans rfl⟩,f15:=Tryz.func271.trans rfl,f20:=⟨ "slices.insertionSortCmpFunc[vaultkeel/api.Extent]",by decide,Tryz.func295.trans rfl⟩,f21:=⟨ "slices.heapSortCmpFunc[vaultkeel/api.Extent]",by decide,Tryz.func296.trans rfl⟩,f22:=⟨ "slices.breakPatternsCmpFunc[vaultkeel/api.Extent]",by decide,Tryz.func297.trans rfl⟩,f23:=⟨ "slices.choosePivotCmpFunc[vaultkeel/api.Extent]",by decide,Tryz.func298.trans rfl⟩,f24:=⟨ "slices.reverseRangeCmpFunc[vaultkeel/api.Extent]",by decide,Tryz.func299.trans rfl⟩,f25:=⟨ "slices.partialInsertionSortCmpFunc[vaultkeel/api.Extent]",by decide,Tryz.func300.trans rfl⟩,f26:=⟨ "slices.partitionEqualCmpFunc[vaultkeel/api.Extent]",by decide,Tryz.func301.trans rfl⟩,f27:=⟨ "slices.partitionCmpFunc[vaultkeel/api.Extent]",by decide,Tryz.func302.trans rfl⟩,f28:=Tryz.func284.trans rfl,f29:=Tryz.func285.trans rfl,f46:=⟨ "slices.siftDownCmpFunc[vaultkeel/api.Extent]",by decide,Tryz.func312.trans rfl⟩,f47:=Tryz.func304.trans rfl,f48:=Tryz.func305.trans rfl,f49:=⟨ "slices.medianAdjacentCmpFunc[vaultkeel/api.Extent]",by decide,Tryz.func313.trans rfl⟩,f50:=⟨ "slices.medianCmpFunc[vaultkeel/api.Extent]",by decide,Tryz.func314.trans rfl⟩,f57:=⟨ "slices.order2CmpFunc[vaultkeel/api.Extent]",by decide,Tryz.func317.trans rfl⟩,t0:=Tryz.underlying0,a0:=Tryz.isAgg0,z0:=Tryz.sizeOf0,v0:=Tryz.zeroValue0,t3:=Tryz.underlying3,a3:=Tryz.isAgg3,z3:=Tryz.sizeOf3,v3:=Tryz.zeroValue3,t4:=Tryz.underlying4,a4:=Tryz.isAgg4,z4:=Tryz.sizeOf4,v4:=Tryz.zeroValue4,t5:=Tryz.underlying5,a5:=Tryz.isAgg5,z5:=Tryz.sizeOf5,v5:=Tryz.zeroValue5,t9:=Tryz.underlying9,a9:=Tryz.isAgg9,z9:=Tryz.sizeOf9,v9:=Tryz.zeroValue9,t22:=Tryz.underlying214,a22:=Tryz.isAgg214,z22:=Tryz.sizeOf214,v22:=Tryz.zeroValue214,t25:=Tryz.underlying322,a25:=Tryz.isAgg322,z25:=Tryz.sizeOf322,v25:=Tryz.zeroValue322,t39:=Tryz.underlying329,a39:=Tryz.isAgg329,z39:=Tryz.sizeOf329,v39:=Tryz.zeroValue329,t45:=Tryz.underlying334,a45:=Tryz.isAgg334,z45:=Tryz.sizeOf334,v45:=Tryz.zeroValue334,t46:=Tryz.underlying335,a46:=Tryz.isAgg335,z46:=Tryz.sizeOf335,v46:=Tryz.zeroValue335,t50:=Tryz.underlying156,a50:=Tryz.isAgg156,z50:=Tryz.sizeOf156,v50:=Tryz.zeroValue156,t53:=Tryz.underlying341,a53:=Tryz.isAgg341,z53:=Tryz.sizeOf341,v53:=Tryz.zeroValue341,t55:=Tryz.underlying343,a55:=Tryz.isAgg343,z55:=Tryz.sizeOf343,v55:=Tryz.zeroValue343,t66:=Tryz.underlying355,a66:=Tryz.isAgg355,z66:=Tryz.sizeOf355,v66:=Tryz.zeroValue355,t70:=Tryz.underlying359,a70:=Tryz.isAgg359,z70:=Tryz.sizeOf359,v70:=Tryz.zeroValue359,t76:=Tryz.underlying365,a76:=Tryz.isAgg365,z76:=Tryz.sizeOf365,v76:=Tryz.zeroValue365,t77:=Tryz.underlying304,a77:=Tryz.isAgg304,z77:=Tryz.sizeOf304,v77:=Tryz.zeroValue304 }
def Tu:Ren:={ f:=fun | 5=>211 | 7=>243 | n=>n,t:=fun | 22=>3 | 3=>3 | 4=>4 | n=>n,g:=fun n=>n }
theorem ziV:SlLaysC2.n5 Tryz.prog Tu:={ mixed:=by kernel_rfl,f5:=⟨ "cmp.Compare[int]",by decide,Tryz.func211.trans rfl⟩,f7:=⟨ "cmp.isNaN[int]",by decide,Tryz.func243.trans rfl⟩,t3:=Tryz.underlying3,a3:=Tryz.isAgg3,z3:=Tryz.sizeOf3,v3:=Tryz.zeroValue3,t4:=Tryz.underlying4,a4:=Tryz.isAgg4,z4:=Tryz.sizeOf4,v4:=Tryz.zeroValue4,t22:=Tryz.underlying3,a22:=Tryz.isAgg3,z22:=Tryz.sizeOf3,v22:=Tryz.zeroValue3 }
def NF:Ren:={ f:=fun | 8=>217 | 6=>248 | n=>n,t:=fun | 22=>214 | 23=>123 | 25=>287 | 4=>4 | 3=>3 | 0=>0 | n=>n,g:=fun n=>n }
theorem Yy:SlLaysH0.n8 Tryz.prog NF:={ mixed:=by kernel_rfl,f6:=⟨ "slices.IndexFunc[[]vaultkeel/api.Extent,vaultkeel/api.Extent]",by decide,Tryz.func248.trans rfl⟩,f8:=⟨ "slices.ContainsFunc[[]vaultkeel/api.Extent,vaultkeel/api.Extent]",by decide,Tryz.func217.trans rfl⟩,t0:=Tryz.underlying0,a0:=Tryz.isAgg0,z0:=Tryz.sizeOf0,v0:=Tryz.zeroValue0,t3:=Tryz.underlying3,a3:=Tryz.isAgg3,z3:=Tryz.sizeOf3,v3:=Tryz.zeroValue3,t4:=Tryz.underlying4,a4:=Tryz.isAgg4,z4:=Tryz.sizeOf4,v4:=Tryz.zeroValue4,t22:=Tryz.underlying214,a22:=Tryz.isAgg214,z22:=Tryz.sizeOf214,v22:=Tryz.zeroValue214,t25:=Tryz.underlying287,a25:=Tryz.isAgg287,z25:=Tryz.sizeOf287,v25:=Tryz.zeroValue287 }
def Ka:Ren:={ f:=fun | 41=>261 | n=>n,t:=fun | 22=>214 | 23=>123 | 4=>4 | n=>n,g:=fun n=>n }
theorem P4:SlLaysE0.n41 Tryz.prog Ka:={ mixed:=by kernel_rfl,f41:=⟨ "slices.Clone[[]vaultkeel/api.Extent,vaultkeel/api.Extent]",by decide,Tryz.func261.trans rfl⟩,t4:=Tryz.underlying4,a4:=Tryz.isAgg4,z4:=Tryz.sizeOf4,v4:=Tryz.zeroValue4,t22:=Tryz.underlying214,a22:=Tryz.isAgg214,z22:=Tryz.sizeOf214,v22:=Tryz.zeroValue214 }
def nI(e:(Int×Int)):List Value:=[.int .i64 e.1,.int .i64 e.2]
def GF(w:World)(a:Option Addr)(cap:Nat)(l:List (Int×Int)):Prop :=(∀ e∈l,yv e)/\(l.length<=cap/\(a=none->cap=0))/\l.length<=8796093021952/\(l≠[]->∃ b off,a=some ⟨b,off,none⟩/\∀ i,i<l.length->w.cell? ⟨b,off+i * 2,none⟩=some (.int .i64 (l.getD i (0,0)).1)/\w.cell? ⟨b,off+i * 2+1,none⟩=some (.int .i64 (l.getD i (0,0)).2))
theorem GF.below{w w':World}{a:Option Addr}{cap:Nat}{l:List (Int×Int)}(h:GF w a cap l)(hb:Below w.heap.size w w'):GF w' a cap l:=by obtain⟨h1,h2,h3,h4⟩:=h;refine⟨h1,h2,h3,fun aO=>?_⟩;obtain⟨b,off,rfl,hc⟩:=h4 aO;refine⟨b,off,rfl,fun i hi=>?_⟩;obtain⟨c0,c1⟩:=hc i hi;exact⟨(hb.cell (block_lt_of_cell c0)).trans c0,(hb.cell (block_lt_of_cell c1)).trans c1⟩
theorem GF.inI{w:World}{a:Option Addr}{cap:Nat}{l:List (Int×Int)}(h:GF w a cap l)(i:Nat):yv (l.getD i (0,0)):=by
 by_cases hi:i<l.length
 ·have:l.getD i (0,0)=l[i]:=by simp [List.getD,hi]
  rw [this];exact h.1 _ (List.getElem_mem hi)
 ·have:l.getD i (0,0)=(0,0):=by simp [List.getD,List.getElem?_eq_none (by omega:l.length<=i)]
  rw [this];unfold yv;decide
theorem Ic{n:Int}{e:(Int×Int)}(hn:n<=6400)(h:there n e=true):Sm e:=by have:=rp.1 h;unfold Sm;omega
theorem N3(e x:(Int×Int))(g:Nat)(W:World)(c0:W.cell? ⟨g,0,none⟩=some (.int .i64 e.1))(c1:W.cell? ⟨g,1,none⟩=some (.int .i64 e.2)) :
  Calls Tryz.prog 259 #[.agg #[.int .i64 x.1,.int .i64 x.2],.pointer (some ⟨g,0,none⟩)] W fun r w'=>r=.returned (.bool (ui e x))/\Below W.heap.size W w':=by
 have hg:=block_lt_of_cell c0;dsimp only at hg;have d0:(W.alloc (.cells #[.int .i64 x.1,.int .i64 x.2] 123)).cell? ⟨g,0,none⟩=some (.int .i64 e.1):=by rw [World.cell?_alloc_lt _ _ ⟨g,0,none⟩ hg];exact c0
 have d1:(W.alloc (.cells #[.int .i64 x.1,.int .i64 x.2] 123)).cell? ⟨g,1,none⟩=some (.int .i64 e.2):=by rw [World.cell?_alloc_lt _ _ ⟨g,1,none⟩ hg];exact c1
 have HO:=af (WI e x (W.alloc (.cells #[.int .i64 x.1,.int .i64 x.2] 123)));generalize ui e x=r at *;clear c0 c1;go_enter Tryz.func259,Tryz.ntmps259
 go_wp2_with fail
 refine(ae HO).mono ?_;rintro e' w1 ⟨rfl,q,os,rfl⟩;go_wp2;go_ret;exact⟨rfl,((Below.refl _ W).alloc zNr _).trans (fE.mono (by simp))⟩
theorem Gq{w:World}{b off cap:Nat}{l:List (Int×Int)}(i:Nat)(hi:i<=l.length)(hl:l.length<=cap)(h0:0<cap)(w':World) :
  (Instr.slice 214 (.slice (some ⟨b,off,none⟩) l.length cap) none (some (.int .i64 i)) none).run Tryz.prog w'=.ok (.slice (some ⟨b,off,none⟩) i cap) w':=by
 have he:Tryz.prog.elem 214=123:=by simp [Program.elem,Tryz.underlying214]
 rw [run_slice_h (P:=Tryz.prog) (w:=w') 214 _ l.length cap (by rw [he];exact zu214) .i64 i (by omega) (by omega),he,Tryz.sizeOf123 w'];simp only [Result.andThen,sliced];rw [if_neg (by omega)];simp [Addr.add]
theorem TH{n:Int}{l:List (Int×Int)}{k:Nat}(hk:k<l.length):chkL n (l.take k) (l.drop k)=if there n (l.getD k (0,0))=false then 1 else if (l.take k).any (over (l.getD k (0,0)))=true then 7 else chkL n (l.take (k+1)) (l.drop (k+1)):=by
 rw [List.drop_eq_getElem_cons hk];have e:l.getD k (0,0)=l[k]:=by simp [List.getD,hk]
 rw [e,List.take_succ_eq_append_getElem hk];rfl
theorem Za{n:Int}{e:(Int×Int)}{l:List (Int×Int)}(hn:n<=6400)(he:there n e=true)(hl:∀ x∈l,there n x=true):l.any (ui e)=l.any (over e):=by
 induction l with
 | nil=>rfl
 | cons x r ih =>rw [List.any_cons,List.any_cons,ih (fun y hy=>hl y (by simp [hy])),VK (Ic hn he) (Ic hn (hl x (by simp)))]
theorem TJ(n:Int)(a:Option Addr)(len cap:Nat)(w:World)(hn:n<0\/6400<n) :
  Calls Tryz.prog 231 #[.int .i64 n,.slice a len cap] w fun e w'=>e=.returned (aR 1)/\w=w':=by
 rw [aC 1 (by decide)];by_cases h:n<0
 ·go_enter Tryz.func231,Tryz.ntmps231
  go_wp2;go_ret;exact⟨rfl,rfl⟩
 ·have h2:6400<n:=by omega
  go_enter Tryz.func231,Tryz.ntmps231
  go_wp2;go_ret;exact⟨rfl,rfl⟩
theorem N1(n:Int)(a:Option Addr)(len cap:Nat)(w:World)(h0:0<=n)(hn:n<=6400)(hl:200<len)(hb:len<=8796093021952) :
  Calls Tryz.prog 231 #[.int .i64 n,.slice a len cap] w fun e w'=>e=.returned (aR 4)/\w=w':=by
 rw [aC 4 (by decide)];have g1:¬ n<0:=by omega
 have g2:¬ 6400<n:=by omega
 go_enter Tryz.func231,Tryz.ntmps231
 go_wp2;go_ret;exact⟨rfl,rfl⟩
theorem TI(n:Int)(a:Option Addr)(cap:Nat)(l:List (Int×Int))(w:World)(hl:GF w a cap l)(h0:0<=n)(hn:n<=6400)(hN:l.length<=200) :
  Calls Tryz.prog 231 #[.int .i64 n,.slice a l.length cap] w fun e w'=>e=.returned (aR (chkL n [] l))/\Below w.heap.size w w':=by
 have g1:¬ n<0:=by omega
 have g2:¬ 6400<n:=by omega
 have g3:¬ (200:Int)<l.length:=by omega
 have HL:=af hl;clear hl;go_enter Tryz.func231,Tryz.ntmps231
 go_wp2_with fail
 go_loopw [20] (fun v wr=>∃ k:Nat,k<=l.length/\v=.int .i64 k/\Below w.heap.size w wr/\chkL n [] l=chkL n (l.take k) (l.drop k)/\∀ e∈l.take k,there n e=true) (fun v _=>l.length-(intOf v).toNat)
 case atStart=>exact⟨0,Nat.zero_le _,rfl,zBr,by rw [List.take_zero,List.drop_zero],fun e he=>by rw [List.take_zero] at he;cases he⟩
 case round =>
  obtain⟨k,hk,rfl,ao,hz,pZ⟩:=hrel;by_cases aM:k<l.length
  ·have aO:l≠[]:=by intro e;rw [e] at aM;simp at aM
   obtain⟨b,off,rfl,bk⟩:=(ae HL).2.2.2 aO;obtain⟨c0,c1⟩:=bk k aM;have GU:=block_lt_of_cell c0;dsimp only at GU;rw [<- ao.cell (block_lt_of_cell c0)] at c0;rw [<- ao.cell (block_lt_of_cell c1)] at c1;have eQ:=(ae HL).inI k;have py:=(ae HL).2.1.1;have tE:=fun w'=>Gq (w:=w) (b:=b) (off:=off) k hk py (by omega) w'
   rw [TH aM] at hz;have mF:l.getD k (0,0)=l[k]:=by simp [List.getD,aM]
   have pY:∀ e∈l.take (k+1),there n (l.getD k (0,0))=true->there n e=true:=fun e he M0=>by
    rw [List.take_succ_eq_append_getElem aM] at he;rcases zMa he with he | he
    ·exact pZ e he
    ·rw [zMs he,<- mF];exact M0
   have zbQ:there n (l.getD k (0,0))=true->(l.take k).any (ui (l.getD k (0,0)))=(l.take k).any (over (l.getD k (0,0))):=fun M0=>Za hn M0 pZ
   have fp:Below w.heap.size w (wr.alloc (.cells #[.int .i64 (l.getD k (0,0)).1,.int .i64 (l.getD k (0,0)).2] 123)):=ao.alloc ao.size _;have HT:=af (Jn n (l.getD k (0,0)) (wr.alloc (.cells #[.int .i64 (l.getD k (0,0)).1,.int .i64 (l.getD k (0,0)).2] 123)) h0 hn eQ);have HC0:Hid ((wr.alloc (.cells #[.int .i64 (l.getD k (0,0)).1,.int .i64 (l.getD k (0,0)).2] 123)).cell? ⟨wr.heap.size,0,none⟩=some (.int .i64 (l.getD k (0,0)).1)):=af (by rw [cell_of_row _ _ _ _ _ (0,0) (heap_alloc_new wr _)];rfl);have mC:Hid ((wr.alloc (.cells #[.int .i64 (l.getD k (0,0)).1,.int .i64 (l.getD k (0,0)).2] 123)).cell? ⟨wr.heap.size,1,none⟩=some (.int .i64 (l.getD k (0,0)).2)):=af (by rw [cell_of_row _ _ _ _ _ (0,0) (heap_alloc_new wr _)];rfl);have ZJ:=af bk;have HZ:=af hz;have nK:=af pY;have zfV:=af zbQ;have kj:=af fp;clear hz pY zbQ bk pZ eQ mF fp ao aO;generalize l.getD k (0,0)=e at *;cases M0:there n e with
   | false =>
    rw [M0] at HT;have HE:Hid (chkL n [] l=1):=af (by rw [ae HZ,if_pos M0]);clear HZ nK zfV M0;go_wp2_with fail
    refine(ae HT).mono ?_;rintro e' w1 ⟨rfl,ay⟩;have aL:=zTr kj ay;clear ay;go_wp2;go_ret;exact⟨by rw [ae HE];rfl,ae aL⟩
   | true =>
    rw [M0] at HT;have HTH:=af M0;clear M0;go_wp2_with fail
    refine(ae HT).mono ?_;rintro e' w1 ⟨rfl,ay⟩;have aL:=zTr kj ay;have hd0:=(ay.cell (block_lt_of_cell (ae HC0))).trans (ae HC0);have XQ:=(ay.cell (block_lt_of_cell (ae mC))).trans (ae mC);have kK:=AnyQ.slices_ContainsFunc Yy 2 Tryz.isAgg123 Tryz.sizeOf123 nI (fun _=>rfl) (ui e) 259 #[.pointer (some ⟨wr.heap.size,0,none⟩)] (enters_of Tryz.func259 (by kernel_rfl) rfl) b off k cap l w1
     (fun W x hW=>(N3 e x wr.heap.size W ((hW.cell (block_lt_of_cell hd0)).trans hd0) ((hW.cell (block_lt_of_cell XQ)).trans XQ)).mono fun r w' ⟨hr,Cn⟩=>⟨hr,hW.trans (Cn.mono hW.size)⟩)
     hk (by omega) (by have:=(ae aL).size;omega)
     (fun j hj i v hv=>by
      obtain⟨q0,q1⟩:=ae ZJ j hj;have ej:l[j]! = l.getD j (0,0):=by simp [List.getD,hj]
      rw [ej] at hv
      match i,hv with
      | 0,hv=>obtain rfl:=zOi hv;exact((ae aL).cell (block_lt_of_cell q0)).trans q0
      | 1,hv=>obtain rfl:=zOi hv;exact((ae aL).cell (block_lt_of_cell q1)).trans q1
      | i+2,hv=>simp [nI] at hv)
    change Calls Tryz.prog 217 _ _ _ at kK;rw [ae zfV (ae HTH)] at kK;have OE:=af kK;clear kK ay hd0 XQ HC0 mC HT;have HZ2:Hid (chkL n [] l=if (l.take k).any (over e)=true then 7 else chkL n (l.take (k+1)) (l.drop (k+1))):=af (by rw [ae HZ,if_neg (by rw [ae HTH];simp)]);clear HZ zfV;generalize (l.take k).any (over e)=r at *;cases r with
    | true =>
     have HE:Hid (chkL n [] l=7):=af (by rw [ae HZ2,if_pos rfl]);clear HZ2;go_wp2_with fail
     refine(ae OE).mono ?_;rintro e' w2 ⟨rfl,aK⟩;have br:=zTr aL aK;clear aK;go_wp2;go_ret;exact⟨by rw [ae HE];rfl,ae br⟩
    | false =>
     go_wp2_with fail
     refine(ae OE).mono ?_;rintro e' w2 ⟨rfl,aK⟩;have br:=zTr aL aK;clear aK;go_wp2;go_roundw
     case rel=>exact⟨k+1,by omega,by go_num,ae br,by rw [ae HZ2];simp,fun x hx=>ae nK x hx (ae HTH)⟩
     case measure=>simp [intOf];omega
  ·obtain rfl:k=l.length:=by omega
   have HE:Hid (chkL n [] l=0):=af (by rw [hz,List.drop_eq_nil_of_le zNr];rfl);clear hz pZ;go_wp2;go_ret;exact⟨by rw [ae HE];rfl,ao⟩
theorem xb(n:Int)(a:Option Addr)(cap:Nat)(l:List (Int×Int))(w:World)(hl:GF w a cap l) :
  Calls Tryz.prog 231 #[.int .i64 n,.slice a l.length cap] w fun e w'=>e=.returned (aR (r7 n l))/\Below w.heap.size w w':=by
 unfold r7;by_cases h1:n<0\/6400<n
 ·rw [if_pos h1];exact(TJ n a l.length cap w h1).mono fun e w' ⟨he,hw⟩=>⟨he,by rw [<- hw];exact zBr⟩
 ·rw [if_neg h1];by_cases h2:200<l.length
  ·rw [if_pos h2];exact(N1 n a l.length cap w (by omega) (by omega) h2 hl.2.2.1).mono fun e w' ⟨he,hw⟩=>⟨he,by rw [<- hw];exact zBr⟩
  ·rw [if_neg h2];exact TI n a cap l w hl (by omega) (by omega) (by omega)
def re(w:World)(B:Nat)(v:Value)(l:List (Int×Int)):Prop:=w.ownsRow B 123 2 v l.length (l.flatMap nI)
theorem kN(l:List (Int×Int)):(l.flatMap nI).length=l.length * 2:=by
 induction l with
 | nil=>rfl
 | cons e r ih=>rw [List.flatMap_cons,zLa,ih,zLc];show 2+r.length * 2=_;omega
theorem uX:∀ (l:List (Int×Int)) (i:Nat),i<l.length->(l.flatMap nI)[i * 2]?=some (.int .i64 (l.getD i (0,0)).1)/\(l.flatMap nI)[i * 2+1]?=some (.int .i64 (l.getD i (0,0)).2)
 | [],i,h=>by simp at h
 | e :: r,0,_=>⟨rfl,rfl⟩
 | e :: r,i+1,h=>by
  have:=uX r i (by simpa using h);rw [List.flatMap_cons]
  show([Value.int .i64 e.1,.int .i64 e.2]++r.flatMap nI)[(i+1) * 2]?=_/\([Value.int .i64 e.1,.int .i64 e.2]++r.flatMap nI)[(i+1) * 2+1]?=_
  rw [List.getElem?_append_right (by simp;omega),List.getElem?_append_right (by simp;omega)];simp only [zLc,List.length_nil,Nat.zero_add,Nat.reduceAdd];rw [show(i+1) * 2-2=i * 2 by omega,show(i+1) * 2+1-2=i * 2+1 by omega];exact this
theorem A0(l:List (Int×Int)):∀ u∈l.flatMap nI,u.oneCell'=true:=by
 intro u hu;obtain⟨e,_,hu⟩:=List.mem_flatMap.1 hu;unfold nI at hu;rcases zMc hu with rfl | hu
 ·rfl
 ·rcases zMc hu with rfl | hu
  ·rfl
  ·cases hu
theorem re.nil(w:World)(B:Nat):re w B (.slice none 0 0) []:=⟨by simp,.inl ⟨rfl,rfl⟩⟩
theorem re.exs{w:World}{B:Nat}{v:Value}{l:List (Int×Int)}(h:re w B v l)(hb:∀ e∈l,yv e)(hl:l.length<=8796093021952):∃ a c,v=.slice a l.length c/\GF w a c l:=by
 rcases h.2 with ⟨rfl,h0⟩ | ⟨g,cap,cur,rfl,hB,hc,h3,h4,h5,h6⟩
 ·have:l=[]:=List.eq_nil_of_length_eq_zero h0;subst this;exact⟨none,0,rfl,fun e he=>(by cases he),⟨zNr,fun _=>rfl⟩,by decide,fun h=>absurd rfl h⟩
 ·refine⟨some ⟨g,0,none⟩,cap,rfl,hb,⟨h3,fun e=>by cases e⟩,hl,fun _=>⟨g,0,rfl,fun i hi=>?_⟩⟩;obtain⟨q0,q1⟩:=uX l i hi;rw [<- h6,List.getElem?_take,if_pos (by omega)] at q0 q1;rw [cell_of_row _ _ _ _ _ _ hc,cell_of_row _ _ _ _ _ _ hc,Nat.zero_add];exact⟨by simpa using q0,by simpa using q1⟩
theorem re.below{w w':World}{B:Nat}{v:Value}{l:List (Int×Int)}(h:re w B v l)(hb:Below w.heap.size w w'):re w' B v l:=by
 refine⟨h.1,?_⟩;rcases h.2 with h0 | ⟨g,cap,cur,rfl,hB,hc,h3⟩
 ·exact .inl h0
 ·exact .inr ⟨g,cap,cur,rfl,hB,(hb.block g (zAg hc).1).trans hc,h3⟩
theorem re.base{w:World}{B B':Nat}{v:Value}{l:List (Int×Int)}(h:re w B v l)(hb:B'<=B):re w B' v l:=by
 refine⟨h.1,?_⟩;rcases h.2 with h0 | ⟨g,cap,cur,rfl,hB,hc,h3⟩
 ·exact .inl h0
 ·exact .inr ⟨g,cap,cur,rfl,by omega,hc,h3⟩
theorem FZ:(Tryz.prog.info? 123).map (fun i=>(i.zero,i.size,i.bytes))=some (some (.agg #[.int .i64 0,.int .i64 0]),2,16):=by kernel_rfl
theorem NX(n c:Nat)(w:World) :Calls Tryz.prog 261 #[.slice none n c] w fun e w'=>e=.returned (.slice none 0 0)/\w'=w:=AnyE.slices_Clone_nil P4 n c w
theorem Kq(x:Addr)(c:Nat)(w:World) :
  Calls Tryz.prog 261 #[.slice (some x) 0 c] w fun e w'=>∃ v,e=.returned v/\re w' w.heap.size v []/\Below w.heap.size w w':=by
 obtain⟨i0,hi,cY,dw,dz⟩:=info_parts FZ;have q22:∀ (w:World) (a:Option Addr) (n c n' c':Nat),(binOp .eql 214 (.slice a n c) (.slice none n' c')).run Tryz.prog w=.ok (.bool a.isNone) w:=fun w a n c n' c'=>Lib.run_eql_slice_nil w _ _ a n c n' c' zu214
 go_enter Tryz.func261,Tryz.ntmps261
 go_wp2_with (at_builtin;refine wpList_append_own _ rfl _ _ 214 rfl w.heap.size 123 i0 (.agg #[.int .i64 0,.int .i64 0]) 2 16 zu214 hi cY dw dz rfl (by decide) _ _ _ rfl (World.ownsRow_made w #[] 0 zNr (Nat.zero_le _) (by simp)) x 0 c [] rfl rfl (fun j u hj=>by simp at hj) (fun u hu=>by cases hu) (Nat.zero_le _) (by simp) (by simp) ?_)
 intro v' w1 az sD pw;go_wp2;go_ret;exact⟨v',rfl,az,((Below.refl _ w).alloc zNr _).grown sD (by simp) (by intro k hk;simp [Value.ownBlock] at hk;omega)⟩
theorem TF(a:Option Addr)(cap:Nat)(l:List (Int×Int))(w:World)(hl:GF w a cap l) :
  Calls Tryz.prog 261 #[.slice a l.length cap] w fun e w'=>∃ v,e=.returned v/\re w' w.heap.size v l/\Below w.heap.size w w':=by
 obtain⟨h1,h2,h3,h4⟩:=hl;by_cases h0:l=[]
 ·subst h0;cases a with
  | none=>exact(NX _ _ w).mono fun e w' ⟨he,hw⟩=>⟨_,he,by rw [hw];exact re.nil _ _,by rw [hw];exact zBr⟩
  | some x=>exact Kq x cap w
 ·obtain⟨b,off,rfl,hc⟩:=h4 h0;obtain⟨i0,hi,cY,dw,dz⟩:=info_parts FZ;refine(AnyE.slices_Clone P4 i0 (.agg #[.int .i64 0,.int .i64 0]) 2 16 hi cY dw dz rfl (by decide) Tryz.sizeOf123 b off l.length cap (l.flatMap nI) w (kN l) (by unfold maxLen;omega) (by omega) (fun j u hj=>?_) (A0 l)).mono ?_
  ·have mG:j<l.length * 2:=by rw [<- kN];exact(zLs hj).1
   obtain⟨c0,c1⟩:=hc (j / 2) (by omega);obtain⟨q0,q1⟩:=uX l (j / 2) (by omega);rcases Nat.mod_two_eq_zero_or_one j with hm | hm
   ·have e:j / 2 * 2=j:=by omega
    rw [e] at c0 q0;rw [q0] at hj;rw [c0];exact hj
   ·have e:j / 2 * 2+1=j:=by omega
    rw [e] at q1;rw [Nat.add_assoc,e] at c1;rw [q1] at hj;rw [c1];exact hj
  ·rintro e w' ⟨v,rfl,az,_,hb⟩;exact⟨v,rfl,az,hb⟩
def NV(x y:(Int×Int)):Int:=Lib.compareInt x.1 y.1
theorem ltX(x y:(Int×Int)):ltOf NV x y=decide (x.1<y.1):=by
 unfold ltOf NV Lib.compareInt;by_cases h1:x.1<y.1
 ·simp [h1]
 ·by_cases h2:y.1<x.1 <;> simp [h1,h2]
theorem zkw:SWO (ltOf NV) where
 irrefl x:=by rw [ltX];simp
 trans x y z h1 h2:=by rw [ltX] at *;simp at *;omega
 ntrans x y z h1 h2:=by rw [ltX] at *;simp at *;omega
theorem Ix(x y:(Int×Int))(W:World):Calls Tryz.prog 263 #[.agg #[.int .i64 x.1,.int .i64 x.2],.agg #[.int .i64 y.1,.int .i64 y.2]] W fun e w'=>e=.returned (.int .i64 (NV x y))/\∃ q os',w'=grow (W.drewN q) os':=by
 have kK:=fun W'=>AnyG.cmp_Compare_int ziV x.1 y.1 W'
 change ∀ W',Calls Tryz.prog 211 _ _ _ at kK;unfold NV;generalize Lib.compareInt x.1 y.1=r at kK ⊢;go_enter Tryz.func263,Tryz.ntmps263
 go_wp2_with (go_at_call 211;refine(kK _).mono ?_;rintro e w' ⟨rfl,rfl⟩)
 go_ret;exact⟨rfl,0,_,by rw [alloc_eq_grow,alloc_eq_grow,grow_grow];rfl⟩
theorem YS(lT off size:Nat)(w:World):CmpLays Tryz.prog 263 #[] nI 2 NV lT off size w :=fun _ _ _ _ x y=>Ix x y _
theorem A1(d:Array (Int×Int)):(flatK nI 2 d).toList=d.toList.flatMap nI:=by
 apply List.ext_getElem?;intro t;by_cases ht:t<d.size * 2
 ·have h1:=get_flatK nI 2 d t ht;have hs:t<(flatK nI 2 d).size:=by rw [size_flatK];exact ht
  rw [getElem!_pos _ t hs] at h1;rw [zLg (by simpa using hs)];have e1:(flatK nI 2 d).toList[t]'(by simpa using hs)=(flatK nI 2 d)[t]:=by simp
  rw [e1,h1];obtain⟨q0,q1⟩:=uX d.toList (t / 2) (by simp;omega);have e2:d.toList.getD (t / 2) (0,0)=d[t / 2]! := by rw [getElem!_pos _ (t / 2) (by omega)];simp [List.getD,Array.getElem?_eq_getElem (show t / 2<d.size by omega)]
  rw [e2] at q0 q1;rcases Nat.mod_two_eq_zero_or_one t with hm | hm
  ·rw [hm];have e:t / 2 * 2=t:=by omega
   rw [e] at q0;rw [q0];rfl
  ·rw [hm];have e:t / 2 * 2+1=t:=by omega
   rw [e] at q1;rw [q1];rfl
 ·rw [List.getElem?_eq_none (by simp;omega),List.getElem?_eq_none (by rw [kN];simp;omega)]
theorem sV(w:World)(g m:Nat)(d':Array (Int×Int))(os:Array Obj):(sortWorldK nI 2 w g 0 m d' os).heap=w.heap.modify g (onCells (putCells id 0 (flatK nI 2 d')))++os:=rfl
theorem LJ{w:World}{B g cap:Nat}{cur:Array Value}{d':Array (Int×Int)}{m:Nat}{os:Array Obj}(hB:B<=g)(hg:w.heap[g]?=some (.cells cur 123 (0,0)))(hn:d'.size<=cap)(hm:cap<=maxLen)(hs:cur.size=cap * 2) :
  re (sortWorldK nI 2 w g 0 m d' os) B (.slice (some ⟨g,0,none⟩) d'.size cap) d'.toList/\Below g w (sortWorldK nI 2 w g 0 m d' os):=by
 have aM:=(zAg hg).1;have zia:(sortWorldK nI 2 w g 0 m d' os).heap[g]?=some (.cells (putCells id 0 (flatK nI 2 d') cur) 123 (0,0)):=by rw [sV,Array.getElem?_append_left (by simpa using aM),Array.getElem?_modify,if_pos rfl,hg];rfl
 refine⟨⟨by rw [kN],.inr ⟨g,cap,_,by simp,hB,zia,by simpa using hn,hm,by simp [putCells,hs],?_⟩⟩,⟨rfl,rfl,rfl,?_,fun k hk=>?_⟩⟩
 ·apply List.ext_getElem?;intro t;rw [List.getElem?_take];by_cases ht:t<d'.size * 2
  ·rw [if_pos (by simpa using ht),<- A1];have h2:t<cap * 2:=by omega
   simp only [Array.getElem?_toList];unfold putCells;rw [Array.getElem?_mapIdx,Array.getElem?_eq_getElem (by rw [hs];exact h2),Array.getElem?_eq_getElem (by rw [size_flatK];exact ht)];simp only [Option.map_some];rw [if_pos ⟨Nat.zero_le _,by rw [size_flatK,Nat.zero_add];exact ht⟩,Nat.sub_zero,getElem!_pos _ t (by rw [size_flatK];exact ht)];rfl
  ·rw [if_neg (by simpa using ht),List.getElem?_eq_none (by rw [kN];simpa using ht)]
 ·rw [sV];simp
 ·rw [sV,Array.getElem?_append_left (by simpa using Nat.lt_trans hk aM),Array.getElem?_modify,if_neg (by omega)]
theorem U3(B:Nat)(v:Value)(l:List (Int×Int))(w:World)(h:re w B v l)(hB:B<=w.heap.size)(hl:l.length<=8796093021952) :
  Calls Tryz.prog 262 #[v,.func (.func 263) #[] #[]] w fun e w'=>e=.returned (.tuple #[])/\∃ s:List (Int×Int),s.Perm l/\s.Pairwise (fun a b=>a.1<=b.1)/\re w' B v s/\Below B w w':=by
 rcases h.2 with ⟨rfl,h0⟩ | ⟨g,cap,cur,rfl,hB,hc,h3,h4,h5,h6⟩
 ·have:l=[]:=List.eq_nil_of_length_eq_zero h0;subst this;exact(AnyF.slices_SortFunc_none Yx none 0 _ w).mono fun e w' ⟨he,hw⟩=>⟨he,[],List.Perm.refl _,List.Pairwise.nil,by rw [hw];exact re.nil _ _,by rw [hw];exact zBr⟩
 ·have aM:=(zAg hc).1;have hH:HoldsK nI 2 w g 0 l.toArray:=by
   intro j hj;rw [size_flatK] at hj;have Ch:j<l.length * 2:=by simpa using hj
   rw [Nat.zero_add];refine⟨?_,frozen_of_row w g j _ _ hc⟩;rw [cell_of_row _ _ _ _ _ _ hc];have e1:(cur.toList.take (l.length * 2))[j]?=(flatK nI 2 l.toArray).toList[j]?:=by rw [h6,A1]
   rw [List.getElem?_take,if_pos Ch] at e1;have hs:j<(flatK nI 2 l.toArray).size:=by rw [size_flatK];exact hj
   simp only [Array.getElem?_toList] at e1;rw [e1,Array.getElem?_eq_getElem hs,getElem!_pos _ j hs];rfl
  have kK:=AnyQ.slices_SortFunc Yx 2 Tryz.isAgg123 Tryz.sizeOf123 nI (fun _=>rfl) (fun x v hv=>A0 [x] v (by simpa using hv)) NV zkw 263 #[] g 0 cap l.toArray w (enters_of Tryz.func263 (by kernel_rfl) rfl) (YS g 0 _ w) hH aM (by simp;omega);change Calls Tryz.prog 262 _ _ _ at kK;rw [List.size_toArray] at kK;refine kK.mono ?_;rintro e w' ⟨rfl,d',n,os,hp,hs,rfl⟩;have cL:d'.size=l.length:=by have:=hp.1;simpa using this
  obtain⟨ho,ao⟩:=LJ (w:=w) (B:=B) (g:=g) (cap:=cap) (cur:=cur) (d':=d') (m:=n) (os:=os) hB hc (by omega) h4 h5;rw [cL] at ho;refine⟨rfl,d'.toList,?_,?_,ho,ao.mono hB⟩
  ·have:=hp.2.2;rw [show d'.extract 0 l.length=d' by rw [<- cL];simp,show l.toArray.extract 0 l.length=l.toArray by simp] at this;simpa using this
  ·rw [List.pairwise_iff_getElem];intro i j hi hj hij;have:=hs i j (Nat.zero_le _) hij (by simp at hj;omega);rw [ltX] at this;have h1:d'[j]! = d'.toList[j]:=by rw [getElem!_pos _ j (by simpa using hj)];simp
   have h2:d'[i]! = d'.toList[i]:=by rw [getElem!_pos _ i (by simpa using hi)];simp
   rw [h1,h2] at this;have:=of_decide_eq_false this;omega
theorem LY(a:Option Addr)(cap:Nat)(l:List (Int×Int))(w:World)(hl:GF w a cap l) :
  Calls Tryz.prog 232 #[.slice a l.length cap] w fun e w'=>∃ v s,e=.returned v/\s.Perm l/\s.Pairwise (fun a b=>a.1<=b.1)/\re w' w.heap.size v s/\Below w.heap.size w w':=by
 have HC:=af (TF a cap l w hl);have lQ:=hl.2.2.1;clear hl;generalize hN:l.length=N at *;have HN:=af hN;clear hN;go_enter Tryz.func232,Tryz.ntmps232
 go_wp2_with fail
 refine(ae HC).mono ?_;rintro e w1 ⟨v,rfl,ho,hb⟩;have HS:=af (U3 w.heap.size v l w1 ho hb.size (by rw [ae HN];exact lQ));have HB:=af hb;clear hb ho HC;go_wp2_with fail
 refine(ae HS).mono ?_;rintro e w2 ⟨rfl,s,hp,hs,ho,hb⟩;have HF:=af (And.intro hp (And.intro hs (And.intro ho ((ae HB).trans hb))));clear hp hs ho hb;go_wp2;go_ret;exact⟨v,s,rfl,(ae HF).1,(ae HF).2.1,(ae HF).2.2.1,(ae HF).2.2.2⟩
theorem Rc{T:List (Int×Int)}{k:Nat}(hk:k<T.length):runsOf 0 (T.take (k+1))=runsOf 0 (T.take k)++(if dq 0 (T.take k)<(T.getD k (0,0)).1 then [(dq 0 (T.take k),(T.getD k (0,0)).1-dq 0 (T.take k))] else [])/\dq 0 (T.take (k+1))=(T.getD k (0,0)).1+(T.getD k (0,0)).2:=by
 have e:T.getD k (0,0)=T[k]:=by simp [List.getD,hk]
 rw [List.take_succ_eq_append_getElem hk,gD,lJ,e];refine⟨?_,rfl⟩
 show _++(_++[])=_
 rw [List.append_nil]
theorem Tw{T:List (Int×Int)}(hT:∀ e∈T,(0<=e.1/\0<=e.2)/\e.1+e.2<=6400):∀ k,0<=dq 0 (T.take k)/\dq 0 (T.take k)<=6400:=by
 have:∀ (s:List (Int×Int)) (f:Int),0<=f->f<=6400->(∀ e∈s,(0<=e.1/\0<=e.2)/\e.1+e.2<=6400)->0<=dq f s/\dq f s<=6400:=by
  intro s;induction s with
  | nil=>intro f h1 h2 _;exact⟨h1,h2⟩
  | cons e r ih=>intro f _ _ h;have:=h e (by simp);exact ih _ (by omega) (by omega) (fun x hx=>h x (by simp [hx]))
 intro k;exact this _ 0 (by omega) (by omega) (fun e he=>hT e (List.mem_of_mem_take he))
theorem P1(w:World)(x y:Value)(t:TypeId):∀ j u,[x,y][j]?=some u->(w.alloc (.cells #[x,y] t)).cell? ((⟨w.heap.size,0,none⟩:Addr).add j)=some u:=by
 intro j u hj;rw [addr_add,cell_of_row _ _ _ _ _ (0,0) (heap_alloc_new w _)]
 match j,hj with
 | 0,hj=>simp at hj;subst hj;rfl
 | 1,hj=>simp at hj;subst hj;rfl
theorem Yw(w:World)(o:Obj)(x y:Value)(t:TypeId):∀ j u,[x,y][j]?=some u->((w.alloc o).alloc (.cells #[x,y] t)).cell? ((⟨w.heap.size+1,0,none⟩:Addr).add j)=some u:=by have:=P1 (w.alloc o) x y t;rw [show(w.alloc o).heap.size=w.heap.size+1 by simp] at this;exact this
theorem Yv(x y:Int):∀ u∈[Value.int .i64 x,Value.int .i64 y],u.oneCell'=true:=A0 [(x,y)]
theorem re.more{w w':World}{B:Nat}{v v':Value}{l:List (Int×Int)}{x y:Int}(h:w'.ownsRow B 123 2 v' (l.length+1) (l.flatMap nI++[.int .i64 x,.int .i64 y])):re w' B v' (l++[(x,y)]):=by unfold re;rw [zLa,List.flatMap_append];exact h
theorem re.block{w:World}{B:Nat}{v:Value}{l:List (Int×Int)}(h:re w B v l):∀ k,v.ownBlock=some k->B<=k/\k<w.heap.size:=World.ownsRow.lt h
theorem Tn(n:Int)(a:Option Addr)(cap:Nat)(l:List (Int×Int))(w:World)(hl:GF w a cap l)(hc:r7 n l≠0) :
  Calls Tryz.prog 184 #[.int .i64 n,.slice a l.length cap] w fun e w'=>e=.returned (.tuple #[.slice none 0 0,aR (r7 n l)])/\Below w.heap.size w w':=by
 have HC:=af (xb n a cap l w hl);rw [aC _ hc] at HC ⊢;generalize r7 n l=c at *;generalize l.length=N at *;clear hl hc;go_enter Tryz.func184,Tryz.ntmps184
 go_wp2_with fail
 refine(ae HC).mono ?_;rintro e w1 ⟨rfl,hb⟩;go_wp2;go_ret2;exact⟨rfl,hb⟩
theorem Yn(n:Int)(a:Option Addr)(cap:Nat)(l:List (Int×Int))(w:World)(hl:GF w a cap l)(hc:r7 n l=0) :
  Calls Tryz.prog 184 #[.int .i64 n,.slice a l.length cap] w fun e w'=>∃ v,e=.returned (.tuple #[v,.nilIface])/\re w' w.heap.size v (de n (kB l))/\Below w.heap.size w w':=by
 obtain⟨i0,eP,cY,dw,dz⟩:=info_parts FZ;have Cl:=xb n a cap l w hl;rw [hc,aA] at Cl;obtain⟨h0,h1,h2,hg⟩:=kQ.1 hc;have HC:=af Cl;have HL:=af hl;have HG:=af hg;clear Cl hl hc hg;go_enter Tryz.func184,Tryz.ntmps184
 go_wp2_with fail
 refine(ae HC).mono ?_;rintro e w1 ⟨rfl,ay⟩;have HR:=af (LY a cap l w1 ((ae HL).below ay));have aL:=af ay;clear ay HC;go_wp2_with fail
 refine(ae HR).mono ?_;rintro e w2 ⟨vs,s,rfl,hp,hs,ho,aK⟩;have hse:=(ae HG).LF hp hs;subst hse;have hlen:(YtcimhnnendlblaaGreat.kB l).length<=200:=by rw [hp.length_eq];exact h2
 have GS:=(ae HG).perm hp;have br:=zTr aL aK;have zmK:=aK.size;have zmL:=(ae aL).size;have K2:(w2.alloc (.cells #[.int .i64 n,.int .i64 0] 123)).ownsRow w1.heap.size 123 2 vs (YtcimhnnendlblaaGreat.kB l).length ((YtcimhnnendlblaaGreat.kB l).flatMap nI):=World.ownsRow.alloc ho _;have HGS:=af GS;have HO:=af K2;have HOW:=af ho.block;clear ho K2 hp hs aK aL GS HR;generalize zif:YtcimhnnendlblaaGreat.kB l=s at *;have zlW:=af zif;clear zif;go_wp2_with (at_builtin;refine wpList_append_own _ rfl _ _ 214 rfl w1.heap.size 123 i0 (.agg #[.int .i64 0,.int .i64 0]) 2 16 zu214 eP cY dw dz rfl (by decide) _ _ _ rfl (ae HO) ⟨w2.heap.size,0,none⟩ 1 1 [.int .i64 n,.int .i64 0] rfl rfl (P1 _ _ _ _) (Yv _ _) (by unfold maxLen;omega) (by omega) (by simp;omega) ?_)
 intro vt w3 sy XG zh0;have uL:re w3 w1.heap.size vt (s++[(n,0)]):=re.more (w:=w2) (v:=vs) sy;have cT:Hid (Below w.heap.size w w3):=af ((((ae br).alloc (ae br).size _)).grown XG (by simp;omega) (fun k hk=>by have:=(ae HOW k hk).1;omega));have hT:∀ e∈s++[(n,0)],(0<=e.1/\0<=e.2)/\e.1+e.2<=6400:=fun e he=>by
  rcases zMa he with he | he
  ·have:=(ae HGS).all e he;omega
  ·rw [zMs he];dsimp only;omega
 have hTl:(s++[(n,0)]).length<=201:=by rw [zLa];simp;omega
 obtain⟨at',ct,rfl,hTx⟩:=uL.exs (fun e he=>by have:=hT e he;unfold yv;omega) (by omega);have aO:s++[(n,0)]≠[]:=by simp
 obtain⟨bt,ot,rfl,bk⟩:=hTx.2.2.2 aO;have hbt:=block_lt_of_cell (bk 0 (by simp)).1;dsimp only at hbt;have ZJ:=af bk;have HT:=af hT;have Ci:de n s=runsOf 0 ((s++[(n,0)]).take (s++[(n,0)]).length):=by rw [List.take_length];rfl
 have HFR:=af Ci;rw [show(s.length:Nat)+1=(s++[(n,0)]).length by simp] at *;clear bk hTx uL sy XG zh0 hT HO HOW HGS br Ci aO;generalize s++[(n,0)]=T at *;go_wp2_with fail
 go_loopw [7,8,24] (fun rv0 fv cv wr=>∃ (k:Nat) (rv:Value),rv=rv0/\k<=T.length/\cv=.int .i64 k/\fv=.int .i64 (dq 0 (T.take k))/\re wr w3.heap.size rv (runsOf 0 (T.take k))/\Below w3.heap.size w3 wr) (fun _ _ cv _=>T.length-(intOf cv).toNat)
 case atStart=>exact⟨0,_,rfl,Nat.zero_le _,rfl,rfl,re.nil _ _,zBr⟩
 case round =>
  obtain⟨k,rv,hrv,hk,rfl,rfl,az,ao⟩:=hrel;subst hrv;by_cases aM:k<T.length
  ·obtain⟨c0,c1⟩:=ae ZJ k aM;rw [<- ao.cell (p:=⟨bt,ot+k * 2,none⟩) hbt] at c0;rw [<- ao.cell (p:=⟨bt,ot+k * 2+1,none⟩) hbt] at c1;obtain⟨r1,r2⟩:=Rc aM;obtain⟨f1,f2⟩:=Tw (ae HT) k;have uJ:(runsOf 0 (T.take k)).length<=201:=Nat.le_trans (zM _ _) (by simp;omega);have mF:T.getD k (0,0)∈T:=by
    have:T.getD k (0,0)=T[k]:=by simp [List.getD,aM]
    rw [this];exact List.getElem_mem aM
   have hTk:=ae HT _ mF;have hblk:=az.block;have oq:=ao.size;generalize T.getD k (0,0)=e at *;generalize dq 0 (T.take k)=f at *;obtain⟨x,y⟩:=e;dsimp only at *;obtain⟨⟨t1,t2⟩,t3⟩:=hTk;have F4:Sm (x,y):=by unfold Sm;dsimp only;omega
   by_cases hfx:f<x
   ·rw [if_pos hfx] at r1;have vp:=af r1;have tN:=af r2;have Xx:=Nat.lt_of_lt_of_le hbt oq;have DY:((wr.alloc (.cells #[.int .i64 x,.int .i64 y] 123)).alloc (.cells #[.int .i64 f,.int .i64 (x-f)] 123)).ownsRow w3.heap.size 123 2 rv (runsOf 0 (T.take k)).length ((runsOf 0 (T.take k)).flatMap nI):=World.ownsRow.alloc (World.ownsRow.alloc az _) _;have BX:=af DY;have aQ:=af ao;have OH:=af hblk;clear DY az ao r1 r2 hblk mF;generalize bw:runsOf 0 (T.take k)=rr at *;have zcl:=af bw;clear bw;go_wp2_with (at_builtin;refine wpList_append_own _ rfl _ _ 214 rfl w3.heap.size 123 i0 (.agg #[.int .i64 0,.int .i64 0]) 2 16 zu214 eP cY dw dz rfl (by decide) _ _ _ rfl (ae BX) ⟨wr.heap.size+1,0,none⟩ 1 1 [.int .i64 f,.int .i64 (x-f)] rfl rfl (Yw _ _ _ _ _) (Yv _ _) (by unfold maxLen;omega) (by omega) (by simp;omega) ?_)
    intro v' w' ew Gc hn';have xX:re w' w3.heap.size v' (rr++[(f,x-f)]):=re.more (w:=wr) (v:=rv) ew;have tp:Below w3.heap.size w3 w':=(((ae aQ).alloc oq _).alloc (by simp;omega) _).grown Gc (by simp;omega) (fun j hj=>(ae OH j hj).1);have hnb:some wr.heap.size≠rv.ownBlock:=fun e=>by have:=(ae OH _ e.symm).2;omega
    have d0:w'.cell? ⟨wr.heap.size,0,none⟩=some (.int .i64 x):=Gc.cell (a:=⟨wr.heap.size,0,none⟩) (by rw [World.cell?_alloc_lt _ _ ⟨wr.heap.size,0,none⟩ (by simp),cell_of_row _ _ _ _ _ (0,0) (heap_alloc_new wr _)];rfl) hnb;have d1:w'.cell? ⟨wr.heap.size,1,none⟩=some (.int .i64 y):=Gc.cell (a:=⟨wr.heap.size,1,none⟩) (by rw [World.cell?_alloc_lt _ _ ⟨wr.heap.size,1,none⟩ (by simp),cell_of_row _ _ _ _ _ (0,0) (heap_alloc_new wr _)];rfl) hnb;have HBH:=af (Bp (x,y) w' F4);have HO':=af xX;have ZQ:=af tp;clear ew Gc hn' xX tp hnb c0 c1 BX;go_wp2_with fail
    refine(ae HBH).mono ?_;rintro e w5 ⟨rfl,gJ⟩;have Lb:=af ((ae HO').below gJ);have lj:=af ((ae ZQ).trans (gJ.mono (ae ZQ).size));clear gJ d0 d1;go_wp2;go_roundw
    case rel=>exact⟨k+1,_,rfl,by omega,by go_num,by rw [ae tN],by rw [ae vp];exact ae Lb,ae lj⟩
    case measure=>simp [intOf];omega
   ·rw [if_neg hfx,List.append_nil] at r1;have vp:=af r1;have tN:=af r2;have ay:Below w3.heap.size w3 (wr.alloc (.cells #[.int .i64 x,.int .i64 y] 123)):=ao.alloc oq _;have DY:re (wr.alloc (.cells #[.int .i64 x,.int .i64 y] 123)) w3.heap.size rv (runsOf 0 (T.take k)):=World.ownsRow.alloc az _;have HBH:=af (Bp (x,y) (wr.alloc (.cells #[.int .i64 x,.int .i64 y] 123)) F4);have BX:=af DY;have aQ:=af ay;clear DY az ao r1 r2 hblk mF ay;go_wp2_with fail
    refine(ae HBH).mono ?_;rintro e w5 ⟨rfl,gJ⟩;have Lb:=af ((ae BX).below gJ);have lj:=zTr aQ gJ;clear gJ;go_wp2;go_roundw
    case rel=>exact⟨k+1,_,rfl,by omega,by go_num,by rw [ae tN],by rw [ae vp];exact ae Lb,ae lj⟩
    case measure=>simp [intOf];omega
  ·obtain rfl:k=T.length:=by omega
   rw [<- ae HFR,<- ae zlW] at az;have HF:=af az;have HBF:=zTr cT ao;have oq:=(ae cT).size;clear az ao;go_wp2;go_ret2;exact⟨_,rfl,(ae HF).base oq,ae HBF⟩
theorem rU(n:Int)(a:Option Addr)(cap:Nat)(l:List (Int×Int))(w:World)(hl:GF w a cap l) :
  Calls Tryz.prog 184 #[.int .i64 n,.slice a l.length cap] w fun e w'=>∃ v,e=.returned (.tuple #[v,aR (r7 n l)])/\re w' w.heap.size v (dS n l)/\Below w.heap.size w w':=by
 unfold dS;by_cases hc:r7 n l=0
 ·rw [if_pos hc];exact(Yn n a cap l w hl hc).mono fun e w' ⟨v,he,h1,h2⟩=>⟨v,by rw [he,hc];rfl,h1,h2⟩
 ·rw [if_neg hc];exact(Tn n a cap l w hl hc).mono fun e w' ⟨he,h2⟩=>⟨_,he,re.nil _ _,h2⟩
def GG(w:World)(g:Nat)(e:(Int×Int)):Prop:=w.heap[g]?=some (.cells #[.int .i64 e.1,.int .i64 e.2] 123 (0,0))
theorem GG.lt{w:World}{g:Nat}{e:(Int×Int)}(h:GG w g e):g<w.heap.size:=(zAg h).1
theorem GG.c0{w:World}{g:Nat}{e:(Int×Int)}(h:GG w g e):w.cell? ⟨g,0,none⟩=some (.int .i64 e.1):=by rw [cell_of_row _ _ _ _ _ _ h];rfl
theorem GG.c1{w:World}{g:Nat}{e:(Int×Int)}(h:GG w g e):w.cell? ⟨g,1,none⟩=some (.int .i64 e.2):=by rw [cell_of_row _ _ _ _ _ _ h];rfl
theorem GG.fr{w:World}{g:Nat}{e:(Int×Int)}(h:GG w g e)(i:Nat):w.frozen? ⟨g,i,none⟩=false:=frozen_of_row w g i _ _ h
theorem GG.alloc{w:World}{g:Nat}{e:(Int×Int)}(h:GG w g e)(o:Obj):GG (w.alloc o) g e:=(heap_alloc_old w o h.lt).trans h
theorem GG.set{w:World}{g:Nat}{e:(Int×Int)}(h:GG w g e)(x y:Int):GG ((w.setCell ⟨g,0,none⟩ (.int .i64 x)).setCell ⟨g,1,none⟩ (.int .i64 y)) g (x,y):=by have h1:=heap_setCell_same w g 0 _ _ (.int .i64 x) h;have h2:=heap_setCell_same (w.setCell ⟨g,0,none⟩ (.int .i64 x)) g 1 _ _ (.int .i64 y) h1;exact h2
theorem GG.new(w:World)(x y:Int):GG (w.alloc (.cells #[.int .i64 x,.int .i64 y] 123)) w.heap.size (x,y):=heap_alloc_new w _
theorem zb0(n:Int)(a:Option Addr)(cap:Nat)(l:List (Int×Int))(size:Int)(w:World)(hl:GF w a cap l)(hc:r7 n l≠0) :
  Calls Tryz.prog 137 #[.int .i64 n,.slice a l.length cap,.int .i64 size] w fun e w'=>e=.returned (.tuple #[.int .i64 0,aR (r7 n l)])/\Below w.heap.size w w':=by
 have HC:=af (rU n a cap l w hl);rw [aC _ hc] at HC ⊢;generalize r7 n l=c at *;generalize dS n l=h at *;generalize l.length=N at *;clear hl hc;go_enter Tryz.func137,Tryz.ntmps137
 go_wp2_with fail
 refine(ae HC).mono ?_;rintro e w1 ⟨v,rfl,_,hb⟩;go_wp2;go_ret2;exact⟨rfl,hb⟩
theorem Yr(n:Int)(a:Option Addr)(cap:Nat)(l:List (Int×Int))(size:Int)(w:World)(hl:GF w a cap l)(hc:r7 n l=0)(hs:size<1\/6400<size) :
  Calls Tryz.prog 137 #[.int .i64 n,.slice a l.length cap,.int .i64 size] w fun e w'=>e=.returned (.tuple #[.int .i64 0,aR 1])/\Below w.heap.size w w':=by
 have HC:=af (rU n a cap l w hl);rw [hc,aA] at HC;rw [aC 1 (by decide)];generalize dS n l=h at *;generalize l.length=N at *;clear hl hc;by_cases h1:size<1
 ·go_enter Tryz.func137,Tryz.ntmps137
  go_wp2_with fail
  refine(ae HC).mono ?_;rintro e w1 ⟨v,rfl,_,hb⟩;go_wp2;go_ret2;exact⟨rfl,hb⟩
 ·have h2:6400<size:=by omega
  go_enter Tryz.func137,Tryz.ntmps137
  go_wp2_with fail
  refine(ae HC).mono ?_;rintro e w1 ⟨v,rfl,_,hb⟩;go_wp2;go_ret2;exact⟨rfl,hb⟩
theorem Yq{size:Int}{h:List (Int×Int)}{k:Nat}(hk:k<h.length):fT size (h.take (k+1))=iH size (fT size (h.take k)) (h.getD k (0,0)):=by
 have e:h.getD k (0,0)=h[k]:=by simp [List.getD,hk]
 unfold fT;rw [List.take_succ_eq_append_getElem hk,List.foldl_append,e];rfl
theorem Yt(n:Int)(a:Option Addr)(cap:Nat)(l:List (Int×Int))(size:Int)(w:World)(hl:GF w a cap l)(hc:r7 n l=0)(gP:1<=size)(gM:size<=6400)(A E:Int)(hAE:((fT size (dS n l)).2=0/\A=0/\E=4)\/((fT size (dS n l)).2≠0/\A=(fT size (dS n l)).1/\E=0)) :
  Calls Tryz.prog 137 #[.int .i64 n,.slice a l.length cap,.int .i64 size] w fun e w'=>e=.returned (.tuple #[.int .i64 A,aR E])/\Below w.heap.size w w':=by
 obtain⟨F4,hlen⟩:=kM hc;have h0:=(kQ.1 hc).2.1;have HC:=af (rU n a cap l w hl);rw [hc,aA] at HC;have g1:¬ size<1:=by omega
 have g2:¬ 6400<size:=by omega
 generalize dS n l=h at *;have HAE:=af hAE;clear hl hc hAE;generalize l.length=N at *;go_enter Tryz.func137,Tryz.ntmps137
 go_wp2_with fail
 refine(ae HC).mono ?_;rintro e w1 ⟨v,rfl,ho,ay⟩;obtain⟨ah,ch,rfl,hx⟩:=ho.exs (fun e he=>by have:=F4 e he;unfold yv;omega) (by omega);have HX:=af hx;have aL:=af ay;have HSM:=af F4;clear hx ho ay F4 HC;go_wp2_with fail
 go_loopw [32] (fun cv wr=>∃ k:Nat,k<=h.length/\cv=.int .i64 k/\GG wr w1.heap.size (fT size (h.take k))/\Below w1.heap.size w1 wr) (fun cv _=>h.length-(intOf cv).toNat)
 case atStart=>exact⟨0,Nat.zero_le _,rfl,GG.new _ _ _,zBr.alloc zNr _⟩
 case round =>
  obtain⟨k,hk,rfl,hB,ao⟩:=hrel;by_cases aM:k<h.length
  ·have aO:h≠[]:=by intro e;rw [e] at aM;simp at aM
   obtain⟨b,off,rfl,bk⟩:=(ae HX).2.2.2 aO;obtain⟨c0,c1⟩:=bk k aM;rw [<- ao.cell (block_lt_of_cell c0)] at c0;rw [<- ao.cell (block_lt_of_cell c1)] at c1;have jw:=Yq (size:=size) aM;have zbL:=hB.lt;generalize h.getD k (0,0)=r at *;generalize fT size (h.take k)=mK at *;obtain⟨x,y⟩:=r;obtain⟨b1,b2⟩:=mK;dsimp only at *;have hB':=hB.alloc (.cells #[.int .i64 x,.int .i64 y] 123);have hR:=GG.new wr x y;have d0:=hB.c0;have d1:=hB.c1;have e0:=hB.fr 0;have e1:=hB.fr 1;dsimp only at d0 d1;have BF:=af hB;have kz:=af ao;have fp:Below w1.heap.size w1 (wr.alloc (.cells #[.int .i64 x,.int .i64 y] 123)):=ao.alloc ao.size _;have kj:=af fp;have ZQ:=af hB';have qh:=af jw;clear hB hB' ao fp jw bk hR aO;by_cases q1:size<=y
   ·by_cases q2:b2=0
    ·have yU:Hid (fT size (h.take (k+1))=(x,y)):=af (by rw [ae qh];exact if_pos ⟨q1,.inl q2⟩);subst q2;clear qh;go_wp2;go_roundw
     case rel=>exact⟨k+1,by omega,by go_num,by rw [ae yU];exact((ae BF).set x y).alloc _,(((ae kz).setCell zNr _).setCell zNr _).alloc (by have:=(ae kz).size;simp;omega) _⟩
     case measure=>simp [intOf];omega
    ·by_cases q3:y<b2
     ·have yU:Hid (fT size (h.take (k+1))=(x,y)):=af (by rw [ae qh];exact if_pos ⟨q1,.inr q3⟩);clear qh;go_wp2;go_roundw
      case rel=>exact⟨k+1,by omega,by go_num,by rw [ae yU];exact((ae BF).set x y).alloc _,(((ae kz).setCell zNr _).setCell zNr _).alloc (by have:=(ae kz).size;simp;omega) _⟩
      case measure=>simp [intOf];omega
     ·have yU:Hid (fT size (h.take (k+1))=(b1,b2)):=af (by rw [ae qh];exact if_neg (fun hh=>hh.2.elim q2 q3));clear qh;go_wp2;go_roundw
      case rel=>exact⟨k+1,by omega,by go_num,by rw [ae yU];exact ae ZQ,ae kj⟩
      case measure=>simp [intOf];omega
   ·have yU:Hid (fT size (h.take (k+1))=(b1,b2)):=af (by rw [ae qh];exact if_neg (fun hh=>q1 hh.1));clear qh;go_wp2;go_roundw
    case rel=>exact⟨k+1,by omega,by go_num,by rw [ae yU];exact ae ZQ,ae kj⟩
    case measure=>simp [intOf];omega
  ·obtain rfl:k=h.length:=by omega
   rw [List.take_length] at hB;have d0:=hB.c0;have d1:=hB.c1;have HBF:=zTr aL ao;clear hB ao;have hae:=ae HAE;clear HAE;generalize fT size h=mK at *;obtain⟨b1,b2⟩:=mK;dsimp only at *;rcases hae with ⟨q,rfl,rfl⟩ | ⟨q,rfl,rfl⟩
   ·subst q;go_wp2;go_ret2;exact⟨rfl,ae HBF⟩
   ·go_wp2;go_ret2;exact⟨rfl,ae HBF⟩
theorem zb1(n:Int)(a:Option Addr)(cap:Nat)(l:List (Int×Int))(size:Int)(w:World)(hl:GF w a cap l) :
  Calls Tryz.prog 137 #[.int .i64 n,.slice a l.length cap,.int .i64 size] w fun e w'=>e=.returned (.tuple #[.int .i64 (iC n l size),aR (jg n l size)])/\Below w.heap.size w w':=by
 by_cases hc:r7 n l=0
 ·by_cases hs:size<1\/6400<size
  ·have e1:jg n l size=1:=by unfold jg;rw [if_neg (fun h=>h hc),if_pos hs]
   have e2:iC n l size=0:=by unfold iC;rw [e1];rfl
   rw [e1,e2];exact Yr n a cap l size w hl hc hs
  ·by_cases h0:(fT size (dS n l)).2=0
   ·have e1:jg n l size=4:=by unfold jg;rw [if_neg (fun h=>h hc),if_neg hs,if_pos h0]
    have e2:iC n l size=0:=by unfold iC;rw [e1];rfl
    exact Yt n a cap l size w hl hc (by omega) (by omega) _ _ (.inl ⟨h0,e2,e1⟩)
   ·have e1:jg n l size=0:=by unfold jg;rw [if_neg (fun h=>h hc),if_neg hs,if_neg h0]
    have e2:iC n l size=(fT size (dS n l)).1:=by unfold iC;rw [e1];rfl
    exact Yt n a cap l size w hl hc (by omega) (by omega) _ _ (.inr ⟨h0,e2,e1⟩)
 ·have e1:jg n l size=r7 n l:=by unfold jg;rw [if_pos hc]
  have e2:iC n l size=0:=by unfold iC;rw [e1,if_neg hc]
  rw [e1,e2];exact zb0 n a cap l size w hl hc
end
end Go.Proofs.YtcimhnnendlblaaGreat
