/-
  Parts of the proofs, joined by program.
-/
import Derived.Test.YtchmlnmhbfaclaaGreatDoorJExa
import Derived.Maps.AppendAt
import Derived.Test.YtchmlnmhbfaclaaGreatDoorJExf
namespace Go.Proofs.YtchmlnmhbfaclaaGreatDoor
open Go.RowKit Go.Sort Go.Shelf
set_option linter.unusedVariables false
def ExO(w:World)(B:Nat)(v:Value)(l:List (Int×Int)):Prop:=w.ownsRow B 124 2 v l.length (l.flatMap exC)
theorem zap(l:List (Int×Int)):(l.flatMap exC).length=l.length * 2:=by
 induction l with
 | nil=>rfl
 | cons e r ih=>rw [List.flatMap_cons,List.length_append,ih,List.length_cons];show 2+r.length * 2=_;omega
theorem flat_get:∀ (l:List (Int×Int)) (i:Nat),i<l.length->(l.flatMap exC)[i * 2]?=some (.int .i64 (l.getD i (0,0)).1)/\(l.flatMap exC)[i * 2+1]?=some (.int .i64 (l.getD i (0,0)).2)
 | [],i,h=>by simp at h
 | e :: r,0,_=>⟨rfl,rfl⟩
 | e :: r,i+1,h=>by
  have:=flat_get r i (by simpa using h)
  rw [List.flatMap_cons]
  show([Value.int .i64 e.1,.int .i64 e.2]++r.flatMap exC)[(i+1) * 2]?=_/\([Value.int .i64 e.1,.int .i64 e.2]++r.flatMap exC)[(i+1) * 2+1]?=_
  rw [List.getElem?_append_right (by simp;omega),List.getElem?_append_right (by simp;omega)]
  simp only [List.length_cons,List.length_nil,Nat.zero_add,Nat.reduceAdd]
  rw [show(i+1) * 2-2=i * 2 by omega,show(i+1) * 2+1-2=i * 2+1 by omega]
  exact this
theorem zio(l:List (Int×Int)):∀ u∈l.flatMap exC,u.oneCell'=true:=by
 intro u hu
 obtain⟨e,_,hu⟩:=List.mem_flatMap.1 hu
 unfold exC at hu
 rcases List.mem_cons.1 hu with rfl | hu
 ·rfl
 ·rcases List.mem_cons.1 hu with rfl | hu
  ·rfl
  ·cases hu
theorem ExO.nil(w:World)(B:Nat):ExO w B (.slice none 0 0) []:=⟨by simp,.inl ⟨rfl,rfl⟩⟩
theorem ExO.exs{w:World}{B:Nat}{v:Value}{l:List (Int×Int)}(h:ExO w B v l)(hb:∀ e∈l,InI e)(hl:l.length<=8796093021952):∃ a c,v=.slice a l.length c/\Exs w a c l:=by
 rcases h.2 with ⟨rfl,h0⟩ | ⟨g,cap,cur,rfl,hB,hc,h3,h4,h5,h6⟩
 ·have:l=[]:=List.eq_nil_of_length_eq_zero h0
  subst this
  exact⟨none,0,rfl,fun e he=>(by cases he),⟨Nat.le_refl _,fun _=>rfl⟩,by decide,fun h=>absurd rfl h⟩
 ·refine⟨some ⟨g,0,none⟩,cap,rfl,hb,⟨h3,fun e=>by cases e⟩,hl,fun _=>⟨g,0,rfl,fun i hi=>?_⟩⟩
  obtain⟨q0,q1⟩:=flat_get l i hi
  rw [<- h6,List.getElem?_take,if_pos (by omega)] at q0 q1
  rw [cell_of_row _ _ _ _ _ _ hc,cell_of_row _ _ _ _ _ _ hc,Nat.zero_add]
  exact⟨by simpa using q0,by simpa using q1⟩
theorem ExO.below{w w':World}{B:Nat}{v:Value}{l:List (Int×Int)}(h:ExO w B v l)(hb:Below w.heap.size w w'):ExO w' B v l:=by
 refine⟨h.1,?_⟩
 rcases h.2 with h0 | ⟨g,cap,cur,rfl,hB,hc,h3⟩
 ·exact .inl h0
 ·exact .inr ⟨g,cap,cur,rfl,hB,(hb.block g (Array.getElem?_eq_some_iff.1 hc).1).trans hc,h3⟩
theorem ExO.base{w:World}{B B':Nat}{v:Value}{l:List (Int×Int)}(h:ExO w B v l)(hb:B'<=B):ExO w B' v l:=by
 refine⟨h.1,?_⟩
 rcases h.2 with h0 | ⟨g,cap,cur,rfl,hB,hc,h3⟩
 ·exact .inl h0
 ·exact .inr ⟨g,cap,cur,rfl,by omega,hc,h3⟩
theorem zlR:(Tryz.prog.info? 124).map (fun i=>(i.zero,i.size,i.bytes))=some (some (.agg #[.int .i64 0,.int .i64 0]),2,16):=by kernel_rfl
theorem zpw(n c:Nat)(w:World) :
  Calls Tryz.prog 309 #[.slice none n c] w fun e w'=>e=.returned (.slice none 0 0)/\w'=w:=AnyE.slices_Clone_nil zsL n c w
set_option maxHeartbeats 1000000 in
theorem zmj(x:Addr)(c:Nat)(w:World) :
  Calls Tryz.prog 309 #[.slice (some x) 0 c] w fun e w'=>∃ v,e=.returned v/\ExO w' w.heap.size v []/\Below w.heap.size w w':=by
 obtain⟨i0,hi,hz0,hz1,hz2⟩:=info_parts zlR
 have q22:∀ (w:World) (a:Option Addr) (n c n' c':Nat),(binOp .eql 96 (.slice a n c) (.slice none n' c')).run Tryz.prog w=.ok (.bool a.isNone) w:=fun w a n c n' c'=>Lib.run_eql_slice_nil w _ _ a n c n' c' Tryz.underlying96
 go_enter Tryz.func309,Tryz.ntmps309
 go_wp2_with (at_builtin;refine wpList_append_own _ rfl _ _ 96 rfl w.heap.size 124 i0 (.agg #[.int .i64 0,.int .i64 0]) 2 16 Tryz.underlying96 hi hz0 hz1 hz2 rfl (by decide) _ _ _ rfl (World.ownsRow_made w #[] 0 (Nat.le_refl _) (Nat.zero_le _) (by simp)) x 0 c [] rfl rfl (fun j u hj=>by simp at hj) (fun u hu=>by cases hu) (Nat.zero_le _) (by simp) (by simp) ?_)
 intro v' w1 hown hgrow hnil
 go_wp2
 go_ret
 exact⟨v',rfl,hown,((Below.refl _ w).alloc (Nat.le_refl _) _).grown hgrow (by simp) (by intro k hk;simp [Value.ownBlock] at hk;omega)⟩
theorem zs9(a:Option Addr)(cap:Nat)(l:List (Int×Int))(w:World)(hl:Exs w a cap l) :
  Calls Tryz.prog 309 #[.slice a l.length cap] w fun e w'=>∃ v,e=.returned v/\ExO w' w.heap.size v l/\Below w.heap.size w w':=by
 obtain⟨h1,h2,h3,h4⟩:=hl
 by_cases h0:l=[]
 ·subst h0
  cases a with
  | none=>exact(zpw _ _ w).mono fun e w' ⟨he,hw⟩=>⟨_,he,by rw [hw];exact ExO.nil _ _,by rw [hw];exact Below.refl _ _⟩
  | some x=>exact zmj x cap w
 ·obtain⟨b,off,rfl,hc⟩:=h4 h0
  obtain⟨i0,hi,hz0,hz1,hz2⟩:=info_parts zlR
  refine(AnyE.slices_Clone zsL i0 (.agg #[.int .i64 0,.int .i64 0]) 2 16 hi hz0 hz1 hz2 rfl (by decide) Tryz.sizeOf124 b off l.length cap (l.flatMap exC) w (zap l) (by unfold maxLen;omega) (by omega) (fun j u hj=>?_) (zio l)).mono ?_
  ·have hjl:j<l.length * 2:=by
    rw [<- zap]
    exact(List.getElem?_eq_some_iff.1 hj).1
   obtain⟨c0,c1⟩:=hc (j / 2) (by omega)
   obtain⟨q0,q1⟩:=flat_get l (j / 2) (by omega)
   rcases Nat.mod_two_eq_zero_or_one j with hm | hm
   ·have e:j / 2 * 2=j:=by omega
    rw [e] at c0 q0
    rw [q0] at hj
    rw [c0];exact hj
   ·have e:j / 2 * 2+1=j:=by omega
    rw [e] at q1
    rw [Nat.add_assoc,e] at c1
    rw [q1] at hj
    rw [c1];exact hj
  ·rintro e w' ⟨v,rfl,hown,_,hb⟩
   exact⟨v,rfl,hown,hb⟩
def zzh(x y:(Int×Int)):Int:=Lib.compareInt x.1 y.1
theorem ltX(x y:(Int×Int)):ltOf zzh x y=decide (x.1<y.1):=by
 unfold ltOf zzh Lib.compareInt
 by_cases h1:x.1<y.1
 ·simp [h1]
 ·by_cases h2:y.1<x.1 <;> simp [h1,h2]
theorem zDM:SWO (ltOf zzh) where
 irrefl x:=by rw [ltX];simp
 trans x y z h1 h2:=by rw [ltX] at *;simp at *;omega
 ntrans x y z h1 h2:=by rw [ltX] at *;simp at *;omega
set_option maxHeartbeats 1000000 in
theorem zlk(x y:(Int×Int))(W:World):Calls Tryz.prog 311 #[.agg #[.int .i64 x.1,.int .i64 x.2],.agg #[.int .i64 y.1,.int .i64 y.2]] W fun e w'=>e=.returned (.int .i64 (zzh x y))/\∃ q os',w'=grow (W.drewN q) os':=by
 have hcon:=fun W'=>AnyG.cmp_Compare_int zDj x.1 y.1 W'
 change ∀ W',Calls Tryz.prog 298 _ _ _ at hcon
 unfold zzh
 generalize Lib.compareInt x.1 y.1=r at hcon ⊢
 go_enter Tryz.func311,Tryz.ntmps311
 go_wp2_with (go_at_call 298;refine(hcon _).mono ?_;rintro e w' ⟨rfl,rfl⟩)
 go_ret
 exact⟨rfl,0,_,by rw [alloc_eq_grow,alloc_eq_grow,grow_grow];rfl⟩
theorem zv9(blk off size:Nat)(w:World):CmpLays Tryz.prog 311 #[] exC 2 zzh blk off size w :=
 fun _ _ _ _ x y=>zlk x y _
theorem zhg(d:Array (Int×Int)):(flatK exC 2 d).toList=d.toList.flatMap exC:=by
 apply List.ext_getElem?
 intro t
 by_cases ht:t<d.size * 2
 ·have h1:=get_flatK exC 2 d t ht
  have hs:t<(flatK exC 2 d).size:=by rw [size_flatK];exact ht
  rw [getElem!_pos _ t hs] at h1
  rw [List.getElem?_eq_getElem (by simpa using hs)]
  have e1:(flatK exC 2 d).toList[t]'(by simpa using hs)=(flatK exC 2 d)[t]:=by simp
  rw [e1,h1]
  obtain⟨q0,q1⟩:=flat_get d.toList (t / 2) (by simp;omega)
  have e2:d.toList.getD (t / 2) (0,0)=d[t / 2]! := by
   rw [getElem!_pos _ (t / 2) (by omega)]
   simp [List.getD,Array.getElem?_eq_getElem (show t / 2<d.size by omega)]
  rw [e2] at q0 q1
  rcases Nat.mod_two_eq_zero_or_one t with hm | hm
  ·rw [hm]
   have e:t / 2 * 2=t:=by omega
   rw [e] at q0
   rw [q0];rfl
  ·rw [hm]
   have e:t / 2 * 2+1=t:=by omega
   rw [e] at q1
   rw [q1];rfl
 ·rw [List.getElem?_eq_none (by simp;omega),List.getElem?_eq_none (by rw [zap];simp;omega)]
theorem zd7(w:World)(g m:Nat)(d':Array (Int×Int))(os:Array Obj):(sortWorldK exC 2 w g 0 m d' os).heap=w.heap.modify g (onCells (putCells id 0 (flatK exC 2 d')))++os:=rfl
theorem zoe{w:World}{B g cap:Nat}{cur:Array Value}{d':Array (Int×Int)}{m:Nat}{os:Array Obj}(hB:B<=g)(hg:w.heap[g]?=some (.cells cur 124 (0,0)))(hn:d'.size<=cap)(hm:cap<=maxLen)(hs:cur.size=cap * 2) :
  ExO (sortWorldK exC 2 w g 0 m d' os) B (.slice (some ⟨g,0,none⟩) d'.size cap) d'.toList/\Below g w (sortWorldK exC 2 w g 0 m d' os):=by
 have hlt:=(Array.getElem?_eq_some_iff.1 hg).1
 have hheap:(sortWorldK exC 2 w g 0 m d' os).heap[g]?=some (.cells (putCells id 0 (flatK exC 2 d') cur) 124 (0,0)):=by
  rw [zd7,Array.getElem?_append_left (by simpa using hlt),Array.getElem?_modify,if_pos rfl,hg]
  rfl
 refine⟨⟨by rw [zap],.inr ⟨g,cap,_,by simp,hB,hheap,by simpa using hn,hm,by simp [putCells,hs],?_⟩⟩,⟨rfl,rfl,rfl,?_,fun k hk=>?_⟩⟩
 ·apply List.ext_getElem?
  intro t
  rw [List.getElem?_take]
  by_cases ht:t<d'.size * 2
  ·rw [if_pos (by simpa using ht),<- zhg]
   have h2:t<cap * 2:=by omega
   simp only [Array.getElem?_toList]
   unfold putCells
   rw [Array.getElem?_mapIdx,Array.getElem?_eq_getElem (by rw [hs];exact h2),Array.getElem?_eq_getElem (by rw [size_flatK];exact ht)]
   simp only [Option.map_some]
   rw [if_pos ⟨Nat.zero_le _,by rw [size_flatK,Nat.zero_add];exact ht⟩,Nat.sub_zero,getElem!_pos _ t (by rw [size_flatK];exact ht)]
   rfl
  ·rw [if_neg (by simpa using ht),List.getElem?_eq_none (by rw [zap];simpa using ht)]
 ·rw [zd7]
  simp
 ·rw [zd7,Array.getElem?_append_left (by simpa using Nat.lt_trans hk hlt),Array.getElem?_modify,if_neg (by omega)]
set_option maxHeartbeats 1000000 in
theorem zt7(B:Nat)(v:Value)(l:List (Int×Int))(w:World)(h:ExO w B v l)(hB:B<=w.heap.size)(hl:l.length<=8796093021952) :
  Calls Tryz.prog 310 #[v,.func (.func 311) #[] #[]] w fun e w'=>e=.returned (.tuple #[])/\∃ s:List (Int×Int),s.Perm l/\s.Pairwise (fun a b=>a.1<=b.1)/\ExO w' B v s/\Below B w w':=by
 rcases h.2 with ⟨rfl,h0⟩ | ⟨g,cap,cur,rfl,hB,hc,h3,h4,h5,h6⟩
 ·have:l=[]:=List.eq_nil_of_length_eq_zero h0
  subst this
  exact(AnyF.slices_SortFunc_none zw4 none 0 _ w).mono fun e w' ⟨he,hw⟩=>⟨he,[],List.Perm.refl _,List.Pairwise.nil,by rw [hw];exact ExO.nil _ _,by rw [hw];exact Below.refl _ _⟩
 ·have hlt:=(Array.getElem?_eq_some_iff.1 hc).1
  have hH:HoldsK exC 2 w g 0 l.toArray:=by
   intro j hj
   rw [size_flatK] at hj
   have hj2:j<l.length * 2:=by simpa using hj
   rw [Nat.zero_add]
   refine⟨?_,frozen_of_row w g j _ _ hc⟩
   rw [cell_of_row _ _ _ _ _ _ hc]
   have e1:(cur.toList.take (l.length * 2))[j]?=(flatK exC 2 l.toArray).toList[j]?:=by rw [h6,zhg]
   rw [List.getElem?_take,if_pos hj2] at e1
   have hs:j<(flatK exC 2 l.toArray).size:=by rw [size_flatK];exact hj
   simp only [Array.getElem?_toList] at e1
   rw [e1,Array.getElem?_eq_getElem hs,getElem!_pos _ j hs]
   rfl
  have hcon:=AnyQ.slices_SortFunc zw4 2 Tryz.isAgg124 Tryz.sizeOf124 exC (fun _=>rfl) (fun x v hv=>zio [x] v (by simpa using hv)) zzh zDM 311 #[] g 0 cap l.toArray w (enters_of Tryz.func311 (by kernel_rfl) rfl) (zv9 g 0 _ w) hH hlt (by simp;omega)
  change Calls Tryz.prog 310 _ _ _ at hcon
  rw [List.size_toArray] at hcon
  refine hcon.mono ?_
  rintro e w' ⟨rfl,d',n,os,hp,hs,rfl⟩
  have hsz:d'.size=l.length:=by have:=hp.1;simpa using this
  obtain⟨ho,hbel⟩:=zoe (w:=w) (B:=B) (g:=g) (cap:=cap) (cur:=cur) (d':=d') (m:=n) (os:=os) hB hc (by omega) h4 h5
  rw [hsz] at ho
  refine⟨rfl,d'.toList,?_,?_,ho,hbel.mono hB⟩
  ·have:=hp.2.2
   rw [show d'.extract 0 l.length=d' by rw [<- hsz];simp,show l.toArray.extract 0 l.length=l.toArray by simp] at this
   simpa using this
  ·rw [List.pairwise_iff_getElem]
   intro i j hi hj hij
   have:=hs i j (Nat.zero_le _) hij (by simp at hj;omega)
   rw [ltX] at this
   have h1:d'[j]! = d'.toList[j]:=by rw [getElem!_pos _ j (by simpa using hj)];simp
   have h2:d'[i]! = d'.toList[i]:=by rw [getElem!_pos _ i (by simpa using hi)];simp
   rw [h1,h2] at this
   have:=of_decide_eq_false this
   omega
theorem zov(a:Option Addr)(cap:Nat)(l:List (Int×Int))(w:World)(hl:Exs w a cap l) :
  Calls Tryz.prog 265 #[.slice a l.length cap] w fun e w'=>∃ v s,e=.returned v/\s.Perm l/\s.Pairwise (fun a b=>a.1<=b.1)/\ExO w' w.heap.size v s/\Below w.heap.size w w':=by
 have HC:=zb (zs9 a cap l w hl)
 have hl3:=hl.2.2.1
 clear hl
 generalize hN:l.length=N at *
 have HN:=zb hN
 clear hN
 go_enter Tryz.func265,Tryz.ntmps265
 go_wp2_with fail
 refine(za HC).mono ?_
 rintro e w1 ⟨v,rfl,ho,hb⟩
 have HS:=zb (zt7 w.heap.size v l w1 ho hb.size (by rw [za HN];exact hl3))
 have HB:=zb hb
 clear hb ho HC
 go_wp2_with fail
 refine(za HS).mono ?_
 rintro e w2 ⟨rfl,s,hp,hs,ho,hb⟩
 have HF:=zb (And.intro hp (And.intro hs (And.intro ho ((za HB).trans hb))))
 clear hp hs ho hb
 go_wp2
 go_ret
 exact⟨v,s,rfl,(za HF).1,(za HF).2.1,(za HF).2.2.1,(za HF).2.2.2⟩
theorem zqI{T:List (Int×Int)}{k:Nat}(hk:k<T.length):zQ 0 (T.take (k+1))=zQ 0 (T.take k)++(if qK 0 (T.take k)<(T.getD k (0,0)).1 then [(qK 0 (T.take k),(T.getD k (0,0)).1-qK 0 (T.take k))] else [])/\qK 0 (T.take (k+1))=(T.getD k (0,0)).1+(T.getD k (0,0)).2:=by
 have e:T.getD k (0,0)=T[k]:=by simp [List.getD,hk]
 rw [List.take_succ_eq_append_getElem hk,Qt,zaI,e]
 refine⟨?_,rfl⟩
 show _++(_++[])=_
 rw [List.append_nil]
theorem zsQ{T:List (Int×Int)}(hT:∀ e∈T,(0<=e.1/\0<=e.2)/\e.1+e.2<=6400):∀ k,0<=qK 0 (T.take k)/\qK 0 (T.take k)<=6400:=by
 have:∀ (s:List (Int×Int)) (f:Int),0<=f->f<=6400->(∀ e∈s,(0<=e.1/\0<=e.2)/\e.1+e.2<=6400)->0<=qK f s/\qK f s<=6400:=by
  intro s
  induction s with
  | nil=>intro f h1 h2 _;exact⟨h1,h2⟩
  | cons e r ih=>intro f _ _ h;have:=h e (by simp);exact ih _ (by omega) (by omega) (fun x hx=>h x (by simp [hx]))
 intro k
 exact this _ 0 (by omega) (by omega) (fun e he=>hT e (List.mem_of_mem_take he))
theorem zsH(w:World)(x y:Value)(t:TypeId):∀ j u,[x,y][j]?=some u->(w.alloc (.cells #[x,y] t)).cell? ((⟨w.heap.size,0,none⟩:Addr).add j)=some u:=by
 intro j u hj
 rw [addr_add,cell_of_row _ _ _ _ _ (0,0) (heap_alloc_new w _)]
 match j,hj with
 | 0,hj=>simp at hj;subst hj;rfl
 | 1,hj=>simp at hj;subst hj;rfl
theorem zvP(w:World)(o:Obj)(x y:Value)(t:TypeId):∀ j u,[x,y][j]?=some u->((w.alloc o).alloc (.cells #[x,y] t)).cell? ((⟨w.heap.size+1,0,none⟩:Addr).add j)=some u:=by
 have:=zsH (w.alloc o) x y t
 rw [show(w.alloc o).heap.size=w.heap.size+1 by simp] at this
 exact this
theorem zw3(x y:Int):∀ u∈[Value.int .i64 x,Value.int .i64 y],u.oneCell'=true:=zio [(x,y)]
theorem ExO.more{w w':World}{B:Nat}{v v':Value}{l:List (Int×Int)}{x y:Int}(h:w'.ownsRow B 124 2 v' (l.length+1) (l.flatMap exC++[.int .i64 x,.int .i64 y])):ExO w' B v' (l++[(x,y)]):=by
 unfold ExO
 rw [List.length_append,List.flatMap_append]
 exact h
theorem ExO.block{w:World}{B:Nat}{v:Value}{l:List (Int×Int)}(h:ExO w B v l):∀ k,v.ownBlock=some k->B<=k/\k<w.heap.size:=World.ownsRow.lt h
theorem zsv(n:Int)(a:Option Addr)(cap:Nat)(l:List (Int×Int))(w:World)(hl:Exs w a cap l)(hc:chk n l≠0) :
  Calls Tryz.prog 212 #[.int .i64 n,.slice a l.length cap] w fun e w'=>e=.returned (.tuple #[.slice none 0 0,zK (chk n l)])/\Below w.heap.size w w':=by
 have HC:=zb (zgk n a cap l w hl)
 rw [zh _ hc] at HC ⊢
 generalize chk n l=c at *
 generalize l.length=N at *
 clear hl hc
 go_enter Tryz.func212,Tryz.ntmps212
 go_wp2_with fail
 refine(za HC).mono ?_
 rintro e w1 ⟨rfl,hb⟩
 go_wp2
 go_ret2
 exact⟨rfl,hb⟩
set_option maxHeartbeats 2000000 in
theorem zvE(n:Int)(a:Option Addr)(cap:Nat)(l:List (Int×Int))(w:World)(hl:Exs w a cap l)(hc:chk n l=0) :
  Calls Tryz.prog 212 #[.int .i64 n,.slice a l.length cap] w fun e w'=>∃ v,e=.returned (.tuple #[v,.nilIface])/\ExO w' w.heap.size v (qo n (srtL l))/\Below w.heap.size w w':=by
 obtain⟨i0,hi0,hz0,hz1,hz2⟩:=info_parts zlR
 have hck:=zgk n a cap l w hl
 rw [hc,zf] at hck
 obtain⟨h0,h1,h2,hg⟩:=zaa.1 hc
 have HC:=zb hck
 have HL:=zb hl
 have HG:=zb hg
 clear hck hl hc hg
 go_enter Tryz.func212,Tryz.ntmps212
 go_wp2_with fail
 refine(za HC).mono ?_
 rintro e w1 ⟨rfl,hb1⟩
 have HR:=zb (zov a cap l w1 ((za HL).below hb1))
 have HB1:=zb hb1
 clear hb1 HC
 go_wp2_with fail
 refine(za HR).mono ?_
 rintro e w2 ⟨vs,s,rfl,hp,hs,ho,hb2⟩
 have hse:=(za HG).srt_eq hp hs
 subst hse
 have hlen:(YtchmlnmhbfaclaaGreatDoor.srtL l).length<=200:=by rw [hp.length_eq];exact h2
 have hgs:=(za HG).perm hp
 have HB2:=zb ((za HB1).trans (hb2.mono (za HB1).size))
 have hb2s:=hb2.size
 have hb1s:=(za HB1).size
 have ho2:(w2.alloc (.cells #[.int .i64 n,.int .i64 0] 124)).ownsRow w1.heap.size 124 2 vs (YtchmlnmhbfaclaaGreatDoor.srtL l).length ((YtchmlnmhbfaclaaGreatDoor.srtL l).flatMap exC):=World.ownsRow.alloc ho _
 have HGS:=zb hgs
 have HO:=zb ho2
 have HOW:=zb ho.block
 clear ho ho2 hp hs hb2 HB1 hgs HR
 generalize hgen:YtchmlnmhbfaclaaGreatDoor.srtL l=s at *
 have HGEN:=zb hgen
 clear hgen
 go_wp2_with (at_builtin;refine wpList_append_own _ rfl _ _ 96 rfl w1.heap.size 124 i0 (.agg #[.int .i64 0,.int .i64 0]) 2 16 Tryz.underlying96 hi0 hz0 hz1 hz2 rfl (by decide) _ _ _ rfl (za HO) ⟨w2.heap.size,0,none⟩ 1 1 [.int .i64 n,.int .i64 0] rfl rfl (zsH _ _ _ _) (zw3 _ _) (by unfold maxLen;omega) (by omega) (by simp;omega) ?_)
 intro vt w3 hown3 hgrow3 hnil3
 have ho3:ExO w3 w1.heap.size vt (s++[(n,0)]):=ExO.more (w:=w2) (v:=vs) hown3
 have HB3:Hid (Below w.heap.size w w3):=zb ((((za HB2).alloc (za HB2).size _)).grown hgrow3 (by simp;omega) (fun k hk=>by have:=(za HOW k hk).1;omega))
 have hT:∀ e∈s++[(n,0)],(0<=e.1/\0<=e.2)/\e.1+e.2<=6400:=fun e he=>by
  rcases List.mem_append.1 he with he | he
  ·have:=(za HGS).all e he;omega
  ·rw [List.mem_singleton.1 he];dsimp only;omega
 have hTl:(s++[(n,0)]).length<=201:=by rw [List.length_append];simp;omega
 obtain⟨at',ct,rfl,hTx⟩:=ho3.exs (fun e he=>by have:=hT e he;unfold InI;omega) (by omega)
 have hne:s++[(n,0)]≠[]:=by simp
 obtain⟨bt,ot,rfl,hcell⟩:=hTx.2.2.2 hne
 have hbt:=block_lt_of_cell (hcell 0 (by simp)).1
 dsimp only at hbt
 have HCELL:=zb hcell
 have HT:=zb hT
 have hfr:qo n s=zQ 0 ((s++[(n,0)]).take (s++[(n,0)]).length):=by rw [List.take_length];rfl
 have HFR:=zb hfr
 rw [show(s.length:Nat)+1=(s++[(n,0)]).length by simp] at *
 clear hcell hTx ho3 hown3 hgrow3 hnil3 hT HO HOW HGS HB2 hfr hne
 generalize s++[(n,0)]=T at *
 go_wp2_with fail
 go_loopw [7,8,24] (fun rv0 fv cv wr=>∃ (k:Nat) (rv:Value),rv=rv0/\k<=T.length/\cv=.int .i64 k/\fv=.int .i64 (qK 0 (T.take k))/\ExO wr w3.heap.size rv (zQ 0 (T.take k))/\Below w3.heap.size w3 wr) (fun _ _ cv _=>T.length-(intOf cv).toNat)
 case atStart=>exact⟨0,_,rfl,Nat.zero_le _,rfl,rfl,ExO.nil _ _,Below.refl _ _⟩
 case round =>
  obtain⟨k,rv,hrv,hk,rfl,rfl,hown,hbel⟩:=hrel
  subst hrv
  by_cases hlt:k<T.length
  ·obtain⟨c0,c1⟩:=za HCELL k hlt
   rw [<- hbel.cell (p:=⟨bt,ot+k * 2,none⟩) hbt] at c0
   rw [<- hbel.cell (p:=⟨bt,ot+k * 2+1,none⟩) hbt] at c1
   obtain⟨r1,r2⟩:=zqI hlt
   obtain⟨f1,f2⟩:=zsQ (za HT) k
   have hrl:(zQ 0 (T.take k)).length<=201:=Nat.le_trans (zeQ _ _) (by simp;omega)
   have hmem:T.getD k (0,0)∈T:=by
    have:T.getD k (0,0)=T[k]:=by simp [List.getD,hlt]
    rw [this];exact List.getElem_mem hlt
   have hTk:=za HT _ hmem
   have hblk:=hown.block
   have hs3:=hbel.size
   generalize T.getD k (0,0)=e at *
   generalize qK 0 (T.take k)=f at *
   obtain⟨x,y⟩:=e
   dsimp only at *
   obtain⟨⟨t1,t2⟩,t3⟩:=hTk
   have hsm:Sm (x,y):=by unfold Sm;dsimp only;omega
   by_cases hfx:f<x
   ·rw [if_pos hfx] at r1
    have HR1:=zb r1
    have HR2:=zb r2
    have hlt2:=Nat.lt_of_lt_of_le hbt hs3
    have ho1:((wr.alloc (.cells #[.int .i64 x,.int .i64 y] 124)).alloc (.cells #[.int .i64 f,.int .i64 (x-f)] 124)).ownsRow w3.heap.size 124 2 rv (zQ 0 (T.take k)).length ((zQ 0 (T.take k)).flatMap exC):=World.ownsRow.alloc (World.ownsRow.alloc hown _) _
    have HO1:=zb ho1
    have HBEL:=zb hbel
    have HBLK:=zb hblk
    clear ho1 hown hbel r1 r2 hblk hmem
    generalize hrun:zQ 0 (T.take k)=rr at *
    have HRUN:=zb hrun
    clear hrun
    go_wp2_with (at_builtin;refine wpList_append_own _ rfl _ _ 96 rfl w3.heap.size 124 i0 (.agg #[.int .i64 0,.int .i64 0]) 2 16 Tryz.underlying96 hi0 hz0 hz1 hz2 rfl (by decide) _ _ _ rfl (za HO1) ⟨wr.heap.size+1,0,none⟩ 1 1 [.int .i64 f,.int .i64 (x-f)] rfl rfl (zvP _ _ _ _ _) (zw3 _ _) (by unfold maxLen;omega) (by omega) (by simp;omega) ?_)
    intro v' w' hown' hgrow' hn'
    have ho':ExO w' w3.heap.size v' (rr++[(f,x-f)]):=ExO.more (w:=wr) (v:=rv) hown'
    have hb':Below w3.heap.size w3 w':=(((za HBEL).alloc hs3 _).alloc (by simp;omega) _).grown hgrow' (by simp;omega) (fun j hj=>(za HBLK j hj).1)
    have hnb:some wr.heap.size≠rv.ownBlock:=fun e=>by have:=(za HBLK _ e.symm).2;omega
    have d0:w'.cell? ⟨wr.heap.size,0,none⟩=some (.int .i64 x):=hgrow'.cell (a:=⟨wr.heap.size,0,none⟩) (by rw [World.cell?_alloc_lt _ _ ⟨wr.heap.size,0,none⟩ (by simp),cell_of_row _ _ _ _ _ (0,0) (heap_alloc_new wr _)];rfl) hnb
    have d1:w'.cell? ⟨wr.heap.size,1,none⟩=some (.int .i64 y):=hgrow'.cell (a:=⟨wr.heap.size,1,none⟩) (by rw [World.cell?_alloc_lt _ _ ⟨wr.heap.size,1,none⟩ (by simp),cell_of_row _ _ _ _ _ (0,0) (heap_alloc_new wr _)];rfl) hnb
    have HBH:=zb (zhq (x,y) w' hsm)
    have HO':=zb ho'
    have HB':=zb hb'
    clear hown' hgrow' hn' ho' hb' hnb c0 c1 HO1
    go_wp2_with fail
    refine(za HBH).mono ?_
    rintro e w5 ⟨rfl,hb5⟩
    have HO5:=zb ((za HO').below hb5)
    have HB5:=zb ((za HB').trans (hb5.mono (za HB').size))
    clear hb5 d0 d1
    go_wp2
    go_roundw
    case rel=>exact⟨k+1,_,rfl,by omega,by go_num,by rw [za HR2],by rw [za HR1];exact za HO5,za HB5⟩
    case measure=>simp [intOf];omega
   ·rw [if_neg hfx,List.append_nil] at r1
    have HR1:=zb r1
    have HR2:=zb r2
    have hb1:Below w3.heap.size w3 (wr.alloc (.cells #[.int .i64 x,.int .i64 y] 124)):=hbel.alloc hs3 _
    have ho1:ExO (wr.alloc (.cells #[.int .i64 x,.int .i64 y] 124)) w3.heap.size rv (zQ 0 (T.take k)):=World.ownsRow.alloc hown _
    have HBH:=zb (zhq (x,y) (wr.alloc (.cells #[.int .i64 x,.int .i64 y] 124)) hsm)
    have HO1:=zb ho1
    have HBEL:=zb hb1
    clear ho1 hown hbel r1 r2 hblk hmem hb1
    go_wp2_with fail
    refine(za HBH).mono ?_
    rintro e w5 ⟨rfl,hb5⟩
    have HO5:=zb ((za HO1).below hb5)
    have HB5:=zb ((za HBEL).trans (hb5.mono (za HBEL).size))
    clear hb5
    go_wp2
    go_roundw
    case rel=>exact⟨k+1,_,rfl,by omega,by go_num,by rw [za HR2],by rw [za HR1];exact za HO5,za HB5⟩
    case measure=>simp [intOf];omega
  ·obtain rfl:k=T.length:=by omega
   rw [<- za HFR,<- za HGEN] at hown
   have HF:=zb hown
   have HBF:=zb ((za HB3).trans (hbel.mono (za HB3).size))
   have hs3:=(za HB3).size
   clear hown hbel
   go_wp2
   go_ret2
   exact⟨_,rfl,(za HF).base hs3,za HBF⟩
theorem za9(n:Int)(a:Option Addr)(cap:Nat)(l:List (Int×Int))(w:World)(hl:Exs w a cap l) :
  Calls Tryz.prog 212 #[.int .i64 n,.slice a l.length cap] w fun e w'=>∃ v,e=.returned (.tuple #[v,zK (chk n l)])/\ExO w' w.heap.size v (zy n l)/\Below w.heap.size w w':=by
 unfold zy
 by_cases hc:chk n l=0
 ·rw [if_pos hc]
  exact(zvE n a cap l w hl hc).mono fun e w' ⟨v,he,h1,h2⟩=>⟨v,by rw [he,hc];rfl,h1,h2⟩
 ·rw [if_neg hc]
  exact(zsv n a cap l w hl hc).mono fun e w' ⟨he,h2⟩=>⟨_,he,ExO.nil _ _,h2⟩
def ExB(w:World)(g:Nat)(e:(Int×Int)):Prop:=w.heap[g]?=some (.cells #[.int .i64 e.1,.int .i64 e.2] 124 (0,0))
theorem ExB.lt{w:World}{g:Nat}{e:(Int×Int)}(h:ExB w g e):g<w.heap.size:=(Array.getElem?_eq_some_iff.1 h).1
theorem ExB.c0{w:World}{g:Nat}{e:(Int×Int)}(h:ExB w g e):w.cell? ⟨g,0,none⟩=some (.int .i64 e.1):=by rw [cell_of_row _ _ _ _ _ _ h];rfl
theorem ExB.c1{w:World}{g:Nat}{e:(Int×Int)}(h:ExB w g e):w.cell? ⟨g,1,none⟩=some (.int .i64 e.2):=by rw [cell_of_row _ _ _ _ _ _ h];rfl
theorem ExB.fr{w:World}{g:Nat}{e:(Int×Int)}(h:ExB w g e)(i:Nat):w.frozen? ⟨g,i,none⟩=false:=frozen_of_row w g i _ _ h
theorem ExB.alloc{w:World}{g:Nat}{e:(Int×Int)}(h:ExB w g e)(o:Obj):ExB (w.alloc o) g e:=(heap_alloc_old w o h.lt).trans h
theorem ExB.set{w:World}{g:Nat}{e:(Int×Int)}(h:ExB w g e)(x y:Int):ExB ((w.setCell ⟨g,0,none⟩ (.int .i64 x)).setCell ⟨g,1,none⟩ (.int .i64 y)) g (x,y):=by
 have h1:=heap_setCell_same w g 0 _ _ (.int .i64 x) h
 have h2:=heap_setCell_same (w.setCell ⟨g,0,none⟩ (.int .i64 x)) g 1 _ _ (.int .i64 y) h1
 exact h2
theorem ExB.new(w:World)(x y:Int):ExB (w.alloc (.cells #[.int .i64 x,.int .i64 y] 124)) w.heap.size (x,y):=heap_alloc_new w _
theorem zy2(n:Int)(a:Option Addr)(cap:Nat)(l:List (Int×Int))(size:Int)(w:World)(hl:Exs w a cap l)(hc:chk n l≠0) :
  Calls Tryz.prog 188 #[.int .i64 n,.slice a l.length cap,.int .i64 size] w fun e w'=>e=.returned (.tuple #[.int .i64 0,zK (chk n l)])/\Below w.heap.size w w':=by
 have HC:=zb (za9 n a cap l w hl)
 rw [zh _ hc] at HC ⊢
 generalize chk n l=c at *
 generalize zy n l=h at *
 generalize l.length=N at *
 clear hl hc
 go_enter Tryz.func188,Tryz.ntmps188
 go_wp2_with fail
 refine(za HC).mono ?_
 rintro e w1 ⟨v,rfl,_,hb⟩
 go_wp2
 go_ret2
 exact⟨rfl,hb⟩
theorem zvK(n:Int)(a:Option Addr)(cap:Nat)(l:List (Int×Int))(size:Int)(w:World)(hl:Exs w a cap l)(hc:chk n l=0)(hs:size<1\/6400<size) :
  Calls Tryz.prog 188 #[.int .i64 n,.slice a l.length cap,.int .i64 size] w fun e w'=>e=.returned (.tuple #[.int .i64 0,zK 1])/\Below w.heap.size w w':=by
 have HC:=zb (za9 n a cap l w hl)
 rw [hc,zf] at HC
 rw [zh 1 (by decide)]
 generalize zy n l=h at *
 generalize l.length=N at *
 clear hl hc
 by_cases h1:size<1
 ·go_enter Tryz.func188,Tryz.ntmps188
  go_wp2_with fail
  refine(za HC).mono ?_
  rintro e w1 ⟨v,rfl,_,hb⟩
  go_wp2
  go_ret2
  exact⟨rfl,hb⟩
 ·have h2:6400<size:=by omega
  go_enter Tryz.func188,Tryz.ntmps188
  go_wp2_with fail
  refine(za HC).mono ?_
  rintro e w1 ⟨v,rfl,_,hb⟩
  go_wp2
  go_ret2
  exact⟨rfl,hb⟩
theorem zvJ{size:Int}{h:List (Int×Int)}{k:Nat}(hk:k<h.length):zaR size (h.take (k+1))=Zt size (zaR size (h.take k)) (h.getD k (0,0)):=by
 have e:h.getD k (0,0)=h[k]:=by simp [List.getD,hk]
 unfold zaR
 rw [List.take_succ_eq_append_getElem hk,List.foldl_append,e]
 rfl
set_option maxHeartbeats 2000000 in
theorem zw1(n:Int)(a:Option Addr)(cap:Nat)(l:List (Int×Int))(size:Int)(w:World)(hl:Exs w a cap l)(hc:chk n l=0)(hs1:1<=size)(hs2:size<=6400)(A E:Int)(hAE:((zaR size (zy n l)).2=0/\A=0/\E=4)\/((zaR size (zy n l)).2≠0/\A=(zaR size (zy n l)).1/\E=0)) :
  Calls Tryz.prog 188 #[.int .i64 n,.slice a l.length cap,.int .i64 size] w fun e w'=>e=.returned (.tuple #[.int .i64 A,zK E])/\Below w.heap.size w w':=by
 obtain⟨hsm,hlen⟩:=QK hc
 have h0:=(zaa.1 hc).2.1
 have HC:=zb (za9 n a cap l w hl)
 rw [hc,zf] at HC
 have g1:¬ size<1:=by omega
 have g2:¬ 6400<size:=by omega
 generalize zy n l=h at *
 have HAE:=zb hAE
 clear hl hc hAE
 generalize l.length=N at *
 go_enter Tryz.func188,Tryz.ntmps188
 go_wp2_with fail
 refine(za HC).mono ?_
 rintro e w1 ⟨v,rfl,ho,hb1⟩
 obtain⟨ah,ch,rfl,hx⟩:=ho.exs (fun e he=>by have:=hsm e he;unfold InI;omega) (by omega)
 have HX:=zb hx
 have HB1:=zb hb1
 have HSM:=zb hsm
 clear hx ho hb1 hsm HC
 go_wp2_with fail
 go_loopw [32] (fun cv wr=>∃ k:Nat,k<=h.length/\cv=.int .i64 k/\ExB wr w1.heap.size (zaR size (h.take k))/\Below w1.heap.size w1 wr) (fun cv _=>h.length-(intOf cv).toNat)
 case atStart=>exact⟨0,Nat.zero_le _,rfl,ExB.new _ _ _,(Below.refl _ _).alloc (Nat.le_refl _) _⟩
 case round =>
  obtain⟨k,hk,rfl,hB,hbel⟩:=hrel
  by_cases hlt:k<h.length
  ·have hne:h≠[]:=by intro e;rw [e] at hlt;simp at hlt
   obtain⟨b,off,rfl,hcell⟩:=(za HX).2.2.2 hne
   obtain⟨c0,c1⟩:=hcell k hlt
   rw [<- hbel.cell (block_lt_of_cell c0)] at c0
   rw [<- hbel.cell (block_lt_of_cell c1)] at c1
   have hst:=zvJ (size:=size) hlt
   have hblt:=hB.lt
   generalize h.getD k (0,0)=r at *
   generalize zaR size (h.take k)=best at *
   obtain⟨x,y⟩:=r
   obtain⟨b1,b2⟩:=best
   dsimp only at *
   have hB':=hB.alloc (.cells #[.int .i64 x,.int .i64 y] 124)
   have hR:=ExB.new wr x y
   have d0:=hB.c0
   have d1:=hB.c1
   have e0:=hB.fr 0
   have e1:=hB.fr 1
   dsimp only at d0 d1
   have HBW:=zb hB
   have HBE:=zb hbel
   have hbA:Below w1.heap.size w1 (wr.alloc (.cells #[.int .i64 x,.int .i64 y] 124)):=hbel.alloc hbel.size _
   have HBA:=zb hbA
   have HB':=zb hB'
   have HST:=zb hst
   clear hB hB' hbel hbA hst hcell hR hne
   by_cases q1:size<=y
   ·by_cases q2:b2=0
    ·have HS2:Hid (zaR size (h.take (k+1))=(x,y)):=zb (by rw [za HST];exact if_pos ⟨q1,.inl q2⟩)
     subst q2
     clear HST
     go_wp2
     go_roundw
     case rel=>exact⟨k+1,by omega,by go_num,by rw [za HS2];exact((za HBW).set x y).alloc _,(((za HBE).setCell (Nat.le_refl _) _).setCell (Nat.le_refl _) _).alloc (by have:=(za HBE).size;simp;omega) _⟩
     case measure=>simp [intOf];omega
    ·by_cases q3:y<b2
     ·have HS2:Hid (zaR size (h.take (k+1))=(x,y)):=zb (by rw [za HST];exact if_pos ⟨q1,.inr q3⟩)
      clear HST
      go_wp2
      go_roundw
      case rel=>exact⟨k+1,by omega,by go_num,by rw [za HS2];exact((za HBW).set x y).alloc _,(((za HBE).setCell (Nat.le_refl _) _).setCell (Nat.le_refl _) _).alloc (by have:=(za HBE).size;simp;omega) _⟩
      case measure=>simp [intOf];omega
     ·have HS2:Hid (zaR size (h.take (k+1))=(b1,b2)):=zb (by rw [za HST];exact if_neg (fun hh=>hh.2.elim q2 q3))
      clear HST
      go_wp2
      go_roundw
      case rel=>exact⟨k+1,by omega,by go_num,by rw [za HS2];exact za HB',za HBA⟩
      case measure=>simp [intOf];omega
   ·have HS2:Hid (zaR size (h.take (k+1))=(b1,b2)):=zb (by rw [za HST];exact if_neg (fun hh=>q1 hh.1))
    clear HST
    go_wp2
    go_roundw
    case rel=>exact⟨k+1,by omega,by go_num,by rw [za HS2];exact za HB',za HBA⟩
    case measure=>simp [intOf];omega
  ·obtain rfl:k=h.length:=by omega
   rw [List.take_length] at hB
   have d0:=hB.c0
   have d1:=hB.c1
   have HBF:=zb ((za HB1).trans (hbel.mono (za HB1).size))
   clear hB hbel
   have hae:=za HAE
   clear HAE
   generalize zaR size h=best at *
   obtain⟨b1,b2⟩:=best
   dsimp only at *
   rcases hae with ⟨q,rfl,rfl⟩ | ⟨q,rfl,rfl⟩
   ·subst q
    go_wp2
    go_ret2
    exact⟨rfl,za HBF⟩
   ·go_wp2
    go_ret2
    exact⟨rfl,za HBF⟩
theorem zy3(n:Int)(a:Option Addr)(cap:Nat)(l:List (Int×Int))(size:Int)(w:World)(hl:Exs w a cap l) :
  Calls Tryz.prog 188 #[.int .i64 n,.slice a l.length cap,.int .i64 size] w fun e w'=>e=.returned (.tuple #[.int .i64 (zau n l size),zK (zc7 n l size)])/\Below w.heap.size w w':=by
 by_cases hc:chk n l=0
 ·by_cases hs:size<1\/6400<size
  ·have e1:zc7 n l size=1:=by unfold zc7;rw [if_neg (fun h=>h hc),if_pos hs]
   have e2:zau n l size=0:=by unfold zau;rw [e1];rfl
   rw [e1,e2]
   exact zvK n a cap l size w hl hc hs
  ·by_cases h0:(zaR size (zy n l)).2=0
   ·have e1:zc7 n l size=4:=by unfold zc7;rw [if_neg (fun h=>h hc),if_neg hs,if_pos h0]
    have e2:zau n l size=0:=by unfold zau;rw [e1];rfl
    exact zw1 n a cap l size w hl hc (by omega) (by omega) _ _ (.inl ⟨h0,e2,e1⟩)
   ·have e1:zc7 n l size=0:=by unfold zc7;rw [if_neg (fun h=>h hc),if_neg hs,if_neg h0]
    have e2:zau n l size=(zaR size (zy n l)).1:=by unfold zau;rw [e1];rfl
    exact zw1 n a cap l size w hl hc (by omega) (by omega) _ _ (.inr ⟨h0,e2,e1⟩)
 ·have e1:zc7 n l size=chk n l:=by unfold zc7;rw [if_pos hc]
  have e2:zau n l size=0:=by unfold zau;rw [e1,if_neg hc]
  rw [e1,e2]
  exact zy2 n a cap l size w hl hc
end Go.Proofs.YtchmlnmhbfaclaaGreatDoor
