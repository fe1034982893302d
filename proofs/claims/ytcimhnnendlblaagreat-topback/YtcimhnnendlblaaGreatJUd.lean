/-
  Parts of the proofs.
-/
import Derived.Shelf.SlMaps.DeleteFunc
import Derived.Lib.SlKeysI
import Derived.Carry
import Derived.Ground.SlmdProg
import Derived.Test.YtcimhnnendlblaaGreatJCi
import Derived.Test.YtcimhnnendlblaaGreatJVws
set_option maxRecDepth 100000
set_option maxHeartbeats 16000000
set_option linter.all false
namespace Go.Proofs.YtcimhnnendlblaaGreat
open Go.RowKit
def mkAt:List (Int×List Int)->Int->Option (List Int)
 | [],_=>none
 | x :: r,z=>if x.1=z then some x.2 else mkAt r z
def nh(M:List (Int×List Int))(m:Int):List (Int×List Int):=M.filter fun x=>decide (x.1<=m)
theorem Aj:∀ {M:List (Int×List Int)} {z:Int} {I:List Int},mkAt M z=some I->(z,I)∈M
 | [],z,I,h=>by cases h
 | x :: r,z,I,h=>by
  unfold mkAt at h;split at h
  ·rename_i e
   cases h
   rw [<- e];exact List.mem_cons_self
  ·exact List.mem_cons_of_mem _ (Aj h)
theorem wk{z:Int}{I:List Int}{y:Int}:∀ {M:List (Int×List Int)},(∀ x∈M,x.1<z)->mkAt (M++[(z,I)]) y=if y=z then some I else mkAt M y
 | [],_=>by
  show(if z=y then some I else none)=if y=z then some I else none
  by_cases e:y=z
  ·rw [if_pos e,if_pos e.symm]
  ·rw [if_neg e,if_neg (fun h=>e h.symm)]
 | x :: r,h=>by
  have ih:=wk (I:=I) (y:=y) (M:=r) (fun u hu=>h u (List.mem_cons_of_mem _ hu));have hx:=h x List.mem_cons_self
  show(if x.1=y then some x.2 else mkAt (r++[(z,I)]) y)=if y=z then some I else if x.1=y then some x.2 else mkAt r y
  rw [ih];by_cases e:x.1=y
  ·rw [if_pos e,if_pos e,if_neg (by omega)]
  ·rw [if_neg e,if_neg e]
theorem Ak{m z:Int}:∀ {M:List (Int×List Int)},mkAt (nh M m) z=if z<=m then mkAt M z else none
 | []=>by simp [nh,mkAt]
 | x :: r=>by
  have ih:=Ak (m:=m) (z:=z) (M:=r);have e2:nh (x :: r) m=if x.1<=m then x :: nh r m else nh r m:=by unfold nh;rw [List.filter_cons];simp
  rw [e2];by_cases hx:x.1<=m
  ·rw [if_pos hx]
   show(if x.1=z then some x.2 else mkAt (nh r m) z)=if z<=m then (if x.1=z then some x.2 else mkAt r z) else none
   rw [ih];by_cases e:x.1=z
   ·rw [if_pos e,if_pos e,if_pos (by omega)]
   ·rw [if_neg e,if_neg e]
  ·rw [if_neg hx,ih]
   show _=if z<=m then (if x.1=z then some x.2 else mkAt r z) else none
   by_cases hz:z<=m
   ·rw [if_pos hz,if_pos hz,if_neg (by omega)]
   ·rw [if_neg hz,if_neg hz]
theorem Mz{M:List (Int×List Int)}{m:Int}(h:(M.map (·.1)).Pairwise (·<·)):((nh M m).map (·.1)).Pairwise (·<·) :=h.sublist (List.Sublist.map _ List.filter_sublist)
section
open Go.MapKept
open Go.ChangeMaps
open Go.Maps (Keyed)
def Wx(n:Nat):DataW Unit:=.lit (.int .i64 n)
def slR:Value->Option (DataW Unit×List MemPlace)
 | .slice none n c=>some (.agg [Wx n,Wx c],[])
 | .slice (some ⟨b,off,none⟩) n c=>some (.agg [Wx n,Wx c,Wx b,Wx off],[])
 | _=>none
theorem rN{n m:Nat}(h:Wx n=Wx m):n=m:=by unfold Wx at h;simp only [DataW.lit.injEq,Lit.int.injEq,true_and] at h;omega
theorem OZ{v v':Value}{d:DataW Unit}{ps ps':List MemPlace}(h:slR v=some (d,ps))(h':slR v'=some (d,ps')):v=v':=by
 unfold slR at h h';split at h
 ·rename_i n c
  simp only [Option.some.injEq,Prod.mk.injEq] at h;split at h'
  ·rename_i n' c'
   simp only [Option.some.injEq,Prod.mk.injEq] at h';have:=h.1.trans h'.1.symm;simp only [DataW.agg.injEq,List.cons.injEq,and_true] at this;rw [rN this.1,rN this.2]
  ·simp only [Option.some.injEq,Prod.mk.injEq] at h';have:=h.1.trans h'.1.symm;simp at this
  ·cases h'
 ·rename_i b off n c
  simp only [Option.some.injEq,Prod.mk.injEq] at h;split at h'
  ·simp only [Option.some.injEq,Prod.mk.injEq] at h';have:=h.1.trans h'.1.symm;simp at this
  ·rename_i b' off' n' c'
   simp only [Option.some.injEq,Prod.mk.injEq] at h';have:=h.1.trans h'.1.symm;simp only [DataW.agg.injEq,List.cons.injEq,and_true] at this;rw [rN this.1,rN this.2.1,rN this.2.2.1,rN this.2.2.2]
  ·cases h'
 ·cases h
theorem xD{z:Int}(h:-9223372036854775808<=z/\z<=9223372036854775807):(Lit.int .i64 z).wf=true:=WalkArith.wf_i64 (by omega)
theorem Lf(w:World):(zeroValue 30).run Tryz.prog w=.ok (.slice none 0 0) w:=by
 have h:(Tryz.prog.info? 30).map (fun i=>i.zero)=some (some (.slice none 0 0)):=by kernel_rfl
 cases hi:Tryz.prog.info? 30 with
 | none=>rw [hi] at h;cases h
 | some i =>rw [hi] at h;simp at h;simp [zeroValue,typeInfo,hi,h]
def kh(w:World)(B:Nat)(S:Nat->Prop)(r:Option Addr×Nat×List Int):Prop:=cj w B (OY r) r.2.2/\bj r.2.2/\r.2.2.length<=140737488351232/\∀ b,(OY r).ownBlock=some b->¬ S b
theorem cj.lt{w:World}{B:Nat}{v:Value}{L:List Int}(h:cj w B v L):∀ k,v.ownBlock=some k->k<w.heap.size:=by
 intro k hk;rcases h.2 with ⟨rfl,_⟩ | ⟨g,cap,cur,rfl,hB,hc,_⟩
 ·cases hk
 ·simp [Value.ownBlock] at hk;subst hk;exact(zAg hc).1
theorem cj.same{w w':World}{B:Nat}{v:Value}{L:List Int}(h:cj w B v L)(hs:∀ k,v.ownBlock=some k->w'.heap[k]?=w.heap[k]?):cj w' B v L:=by
 refine⟨h.1,?_⟩;rcases h.2 with h0 | ⟨g,cap,cur,rfl,hB,hc,h3⟩
 ·exact .inl h0
 ·exact .inr ⟨g,cap,cur,rfl,hB,(hs g rfl).trans hc,h3⟩
theorem kh.bs{w:World}{B:Nat}{S:Nat->Prop}{r:Option Addr×Nat×List Int}(h:kh w B S r):Bs w r.1 r.2.1 r.2.2:=h.1.bs' h.2.1 h.2.2.1
theorem kh.dZ{w w':World}{B:Nat}{S S':Nat->Prop}{r:Option Addr×Nat×List Int}(h:kh w B S r)(ht:aE S S' w w'):kh w' B S' r :=⟨h.1.same (fun k hk=>ht.block k (h.1.lt k hk) (h.2.2.2 k hk)),h.2.1,h.2.2.1,fun b hb hs=>h.2.2.2 b hb (ht.bA b (h.1.lt b hb) hs)⟩
theorem kh.below{w w':World}{B:Nat}{S:Nat->Prop}{r:Option Addr×Nat×List Int}(h:kh w B S r)(hb:Below w.heap.size w w'):kh w' B S r:=h.dZ (aE.aW hb)
theorem zaD{w:World}{B:Nat}{S:Nat->Prop}{r:Option Addr×Nat×List Int}(h:kh w B S r):∃ d,slR (OY r)=some (d,[]):=by
 rcases h.1.2 with ⟨e,h0⟩ | ⟨g,cap,cur,e,_⟩
 ·rw [e];exact⟨_,rfl⟩
 ·rw [e];exact⟨_,rfl⟩
def zk(w:World)(B:Nat)(S:Nat->Prop)(gm n:Nat)(M:List (Int×List Int)):Prop :=
 ∃ D,w.ownsMap Tryz.prog 3 slR gm n D/\(M.map (·.1)).Pairwise (·<·)/\(∀ z:Int,Maps.has D (.int .i64 z)=(mkAt M z).isSome) /\
  ∀ (z:Int) (I:List Int),mkAt M z=some I->∃ a c d,kh w B S (a,c,I)/\slR (OY (a,c,I))=some (d,[])/\∀ zd,D.atKey (.int .i64 z) zd=d
section
variable {w w':World} {B:Nat} {S S':Nat->Prop} {gm n:Nat} {M:List (Int×List Int)}
theorem zk.lt(h:zk w B S gm n M):gm<w.heap.size:=by obtain⟨D,h1,_⟩:=h;exact h1.lt
theorem zk.isMap(h:zk w B S gm n M):∃ es clock,w.heap[gm]?=some (.map es clock):=by obtain⟨D,⟨es,clock,hb,_⟩,_⟩:=h;exact⟨es,clock,hb⟩
theorem zk.Vq(h:zk w B S gm n M):(M.map (·.1)).Pairwise (·<·):=by obtain⟨D,_,h1,_⟩:=h;exact h1
theorem zk.same(h:zk w B S gm n M)(hs:w'.heap[gm]?=w.heap[gm]?)(ho:∀ r,kh w B S r->kh w' B S' r):zk w' B S' gm n M:=by obtain⟨D,⟨es,clock,hb,r⟩,h1,h2,h3⟩:=h;refine⟨D,⟨es,clock,hs.trans hb,r⟩,h1,h2,fun z I hz=>?_⟩;obtain⟨a,c,d,q1,q2⟩:=h3 z I hz;exact⟨a,c,d,ho _ q1,q2⟩
theorem zk.made(w:World)(B:Nat)(S:Nat->Prop):zk (w.alloc (.map #[] 0)) B S w.heap.size 0 [] :=⟨.map [],World.ownsMap_made w _ _ _,List.Pairwise.nil,fun z=>rfl,fun z I hz=>by cases hz⟩
theorem zk.look(h:zk w B S gm n M){z:Int}(hz:-9223372036854775808<=z/\z<=9223372036854775807) :
  ∃ v,(Instr.lookup 73 (.map (some gm)) (.int .i64 z) true).run Tryz.prog w=.ok (.tuple #[v,.bool (mkAt M z).isSome]) w/\(mkAt M z=none->v=.slice none 0 0)/\∀ I,mkAt M z=some I->∃ a c,kh w B S (a,c,I)/\v=.slice a I.length c:=by
 obtain⟨D,az,_,hD,hI⟩:=h;have dt:=Maps.keyOf_int_mk (P:=Tryz.prog) zu3 (xD hz);have cY:slR (.slice none 0 0)=some (.agg [Wx 0,Wx 0],[]):=rfl;obtain⟨v,ps,bw,hv⟩:=az.look_ok (Maps.int_keyed zu3) Tryz.underlying73 (Lf w) cY dt;refine⟨v,by rw [bw,hD],fun hn=>?_,fun I hs=>?_⟩
 ·have gI:Maps.has D (.int .i64 z)=false:=by rw [hD,hn];rfl
  rw [Maps.atKey_of_not_has gI] at hv;exact OZ hv cY
 ·obtain⟨a,c,d,q1,q2,q3⟩:=hI z I hs;rw [q3] at hv;exact⟨a,c,q1,OZ hv q2⟩
theorem zk.store(h:zk w B S gm n M){z:Int}(hz:0<=z/\z<=9223372036854775807)(da:∀ x∈M,x.1<z){a:Option Addr}{c:Nat}{I:List Int}(hv:kh w B S (a,c,I))(hn:n<=100000)(hS:S gm) :
  ∃ w',(Instr.mapUpdate 73 (.map (some gm)) (.int .i64 z) (.slice a I.length c)).run Tryz.prog w=.ok () w'/\zk w' B S gm (n+1) (M++[(z,I)])/\w.mapTurned w' gm:=by
 obtain⟨D,az,hr,hD,hI⟩:=h;obtain⟨d,hd⟩:=zaD hv;have hK:=Maps.int_keyed (P:=Tryz.prog) zu3;have dt:=Maps.keyOf_int_mk (P:=Tryz.prog) zu3 (xD (z:=z) ⟨by omega,hz.2⟩);obtain⟨w',bw,ew,ht⟩:=az.store hK Tryz.underlying73 (by unfold maxLen;omega) dt hd;have jM:WideAt.IsKeyLit (.int .i64 z):=hK.key dt;have j5:aE S S w w':=aE.grown ht.grown (fun k hk=>by cases hk;exact hS);refine⟨w',bw,⟨_,ew,?_,fun y=>?_,fun y J hy=>?_⟩,ht⟩
 ·rw [List.map_append];refine List.pairwise_append.2 ⟨hr,by simp,fun x hx y hy=>?_⟩;obtain⟨u,hu,rfl⟩:=List.mem_map.1 hx;simp at hy;subst hy;exact da u hu
 ·rw [wk da];by_cases e:y=z
  ·subst e;rw [if_pos rfl,Maps.has_put_same az.isMap jM];rfl
  ·have aO:Lit.int .i64 y≠Lit.int .i64 z:=by intro e2;simp only [Lit.int.injEq,true_and] at e2;exact e e2
   rw [if_neg e,Maps.has_put_other aO,hD]
 ·rw [wk da] at hy;by_cases e:y=z
  ·subst e;rw [if_pos rfl] at hy;obtain rfl:=zOi hy;exact⟨a,c,d,hv.dZ j5,hd,fun zd=>Maps.atKey_put_same az.isMap jM _ _⟩
  ·have aO:Lit.int .i64 y≠Lit.int .i64 z:=by intro e2;simp only [Lit.int.injEq,true_and] at e2;exact e e2
   rw [if_neg e] at hy;obtain⟨a',c',d',q1,q2,q3⟩:=hI y J hy;exact⟨a',c',d',q1.dZ j5,q2,fun zd=>by rw [Maps.atKey_put_other aO];exact q3 zd⟩
def gone(m:Int)(k:Lit)(_:DataW Unit):Bool:=match k with | .int _ z=>decide (m<z) | _=>false
theorem X5{m z:Int}(es:List (Lit×DataW Unit)):Maps.has (Lib.deleteFuncD (gone m) (.map es)) (.int .i64 z)=(Maps.has (DataW.map es) (.int .i64 z) && decide (z<=m)):=by
 show(es.filter fun p=>!gone m p.1 p.2).any (fun p=>p.1.sameKey (.int .i64 z))=(es.any (fun p=>p.1.sameKey (.int .i64 z)) && decide (z<=m))
 induction es with
 | nil=>rfl
 | cons p r ih =>
  rw [List.filter_cons,List.any_cons];by_cases e:p.1=.int .i64 z
  ·have hg:gone m p.1 p.2=decide (m<z):=by rw [e];rfl
   have hs:p.1.sameKey (.int .i64 z)=true:=by rw [e];simp [Lit.sameKey]
   rw [hg,hs];by_cases hz:z<=m
   ·rw [if_pos (by simp;omega),List.any_cons,hs];simp [hz]
   ·rw [if_neg (by simp;omega),ih];simp [hz]
  ·have hs:p.1.sameKey (.int .i64 z)=false:=Maps.sameKey_ne e;rw [hs,Bool.false_or];split
   ·rw [List.any_cons,hs,Bool.false_or,ih]
   ·exact ih
theorem zci{m z:Int}(hz:z<=m)(es:List (Lit×DataW Unit))(zd:DataW Unit):(Lib.deleteFuncD (gone m) (.map es)).atKey (.int .i64 z) zd=(DataW.map es).atKey (.int .i64 z) zd:=by unfold Lib.deleteFuncD DataW.atKey;dsimp only;rw [Maps.find_filter_keep (fun p hp=>?_)];have e:=WideAt.sameKey_eq hp;rw [e];simp [gone];omega
theorem zk.cut(h:zk w B S gm n M){m:Int}(hS:S gm){D:DataW Unit}(az:w.ownsMap Tryz.prog 3 slR gm n D)(hD:∀ z:Int,Maps.has D (.int .i64 z)=(mkAt M z).isSome)
  (hI:∀ (z:Int) (I:List Int),mkAt M z=some I->∃ a c d,kh w B S (a,c,I)/\slR (OY (a,c,I))=some (d,[])/\∀ zd,D.atKey (.int .i64 z) zd=d)
  (ew:w'.ownsMap Tryz.prog 3 slR gm n (Lib.deleteFuncD (gone m) D)) (hg:w.grownBy w' (some gm)):zk w' B S gm n (nh M m):=by
 have hr:=h.Vq;obtain⟨es,rfl⟩:=az.isMap;have j5:aE S S w w':=aE.grown hg (fun k hk=>by cases hk;exact hS);refine⟨_,ew,Mz hr,fun z=>?_,fun z I hz=>?_⟩
 ·rw [X5,hD,Ak];by_cases hz:z<=m
  ·simp [hz]
  ·simp [hz]
 ·rw [Ak] at hz;by_cases hzm:z<=m
  ·rw [if_pos hzm] at hz;obtain⟨a,c,d,q1,q2,q3⟩:=hI z I hz;exact⟨a,c,d,q1.dZ j5,q2,fun zd=>by rw [zci hzm];exact q3 zd⟩
  ·rw [if_neg hzm] at hz;cases hz
end
end
def ft(u gm p g:Nat)(k:Nat):Prop:=k=u\/k=gm\/bA p g k
structure Ud (w:World) (B u gm p g c:Nat) (L:List Int) (n:Nat) (M:List (Int×List Int)):Prop where
 bu:B<=u
 bm:B<=gm
 uf:¬ bA p g u
 mf:¬ bA p g gm
 lT:w.heap[u]?=some (.cells #[.pointer (some ⟨p,0,none⟩),.int .i64 n,.map (some gm)] 75 (0,0))
 hp:Hp w B p g c L
 map:zk w B (ft u gm p g) gm n M
 num:∀ x∈M,1<=x.1/\x.1<=(n:Int)
 fK:∀ x∈M,aB x.2/\x.2.length=L.length
section
variable {w w':World} {B u gm p g c:Nat} {L:List Int} {n:Nat} {M:List (Int×List Int)}
theorem Ud.ult(h:Ud w B u gm p g c L n M):u<w.heap.size:=(zAg h.lT).1
theorem Ud.ne(h:Ud w B u gm p g c L n M):gm≠u:=by intro e;obtain⟨es,clock,hb⟩:=h.map.isMap;rw [e,h.lT] at hb;simp at hb
theorem Ud.cells(h:Ud w B u gm p g c L n M):w.cell? ⟨u,0,none⟩=some (.pointer (some ⟨p,0,none⟩))/\w.cell? ⟨u,1,none⟩=some (.int .i64 n)/\w.cell? ⟨u,2,none⟩=some (.map (some gm)):=by refine⟨?_,?_,?_⟩ <;> rw [cell_of_row _ _ _ _ _ _ h.lT] <;> rfl
theorem Ud.ge(h:Ud w B u gm p g c L n M)(k:Nat)(hk:ft u gm p g k):B<=k:=by
 rcases hk with rfl | rfl | hk
 ·exact h.bu
 ·exact h.bm
 ·exact h.hp.Gn k hk
theorem yY{u gm p g g':Nat}(ht:aE (bA p g) (bA p g') w w'):aE (ft u gm p g) (ft u gm p g') w w' :=
 ⟨ht.os,ht.tape,ht.output,ht.size,fun k hk hn=>ht.block k hk (fun hf=>hn (.inr (.inr hf))),fun k hk hs=>by
  rcases hs with rfl | rfl | hs
  ·exact .inl rfl
  ·exact .inr (.inl rfl)
  ·exact .inr (.inr (ht.bA k hk hs))⟩
theorem Ud.heap(h:Ud w B u gm p g c L n M){g' c':Nat}{L':List Int}(hh:Hp w' B p g' c' L')(ht:aE (bA p g) (bA p g') w w')(hl:L'.length=L.length):Ud w' B u gm p g' c' L' n M :=⟨h.bu,h.bm,fun hf=>h.uf (ht.bA u h.ult hf),fun hf=>h.mf (ht.bA gm h.map.lt hf),(ht.block u h.ult h.uf).trans h.lT,hh,h.map.same (ht.block gm h.map.lt h.mf) (fun r hr=>hr.dZ (yY ht)),h.num,fun x hx=>⟨(h.fK x hx).1,(h.fK x hx).2.trans hl.symm⟩⟩
theorem Ud.below(h:Ud w B u gm p g c L n M)(hb:Below w.heap.size w w'):Ud w' B u gm p g c L n M:=h.heap (h.hp.below hb) (aE.aW hb) rfl
theorem UT(h:Hp w B p g c L)(hB:B<=w.heap.size) :
  Calls Tryz.prog 7 #[.pointer (some ⟨p,0,none⟩)] w fun e w'=>∃ u gm,e=.returned (.pointer (some ⟨u,0,none⟩))/\Ud w' B u gm p g c L 0 []/\Below w.heap.size w w':=by
 have HH:=af h;clear h;have D1:=@run_makeMap Tryz.prog;go_enter Tryz.func7,Tryz.ntmps7
 go_wp2;go_ret;have ay:Below w.heap.size w (w.alloc (.map #[] 0)):=zBr.alloc zNr _;have aK:Below w.heap.size w ((w.alloc (.map #[] 0)).alloc (.cells #[.pointer (some ⟨p,0,none⟩),.int .i64 0,.map (some w.heap.size)] 75)):=ay.alloc ay.size _;have hp:=(ae HH).BJ;have hg:=(ae HH).Yk;refine⟨w.heap.size+1,w.heap.size,by simp,⟨by omega,hB,fun hf=>?_,fun hf=>?_,?_,(ae HH).below aK,?_,fun x hx=>(by cases hx),fun x hx=>(by cases hx)⟩,aK⟩
 ·rcases hf with e | e <;> omega
 ·rcases hf with e | e <;> omega
 ·have:=heap_alloc_new (w.alloc (.map #[] 0)) (.cells #[.pointer (some ⟨p,0,none⟩),.int .i64 0,.map (some w.heap.size)] 75);rw [aH] at this;exact this
 ·refine(zk.made w B (ft (w.heap.size+1) w.heap.size p g)).same (Below.heap_alloc _ _ _ (by rw [aH];omega)) (fun r hr=>hr.below (zBr.alloc zNr _))
theorem Hq(h:Ud w B u gm p g c L n M){m:Int}(hm:-9223372036854775808<=m/\m<=9223372036854775807){I:List Int}(hI:mkAt M m=some I) :
  ∃ a cap,kh w B (ft u gm p g) (a,cap,I)/\Calls Tryz.prog 35 #[.pointer (some ⟨u,0,none⟩),.int .i64 m] w fun e w'=>e=.returned (.tuple #[.slice a I.length cap,.nilIface])/\w=w':=by
 obtain⟨v,bw,_,hv⟩:=h.map.look hm;obtain⟨a,cap,ho,rfl⟩:=hv I hI;obtain⟨c0,c1,c2⟩:=h.cells;rw [hI] at bw;refine⟨a,cap,ho,?_⟩;clear h hv hI c0 c1 ho;generalize I.length=N at *;go_enter Tryz.func35,Tryz.ntmps35
 go_wp2;go_ret2;exact⟨rfl,rfl⟩
end
section
variable {w w':World} {B u gm p g c:Nat} {L:List Int} {n:Nat} {M:List (Int×List Int)}
theorem Hp.same(h:Hp w B p g c L)(hp:w'.heap[p]?=w.heap[p]?)(hg:w'.heap[g]?=w.heap[g]?):Hp w' B p g c L:=by obtain⟨cur,hr⟩:=h.row;exact⟨h.bp,h.ne,hp.trans h.lT,⟨cur,hr.1,hg.trans hr.2.1,hr.2.2⟩,h.kV,h.aV⟩
theorem Ud.lt(h:Ud w B u gm p g c L n M)(k:Nat)(hk:ft u gm p g k):k<w.heap.size:=by
 rcases hk with rfl | rfl | rfl | rfl
 ·exact h.ult
 ·exact h.map.lt
 ·exact h.hp.BJ
 ·exact h.hp.Yk
theorem Ud.more(h:Ud w B u gm p g c L n M) :
  (w.setCell ⟨u,1,none⟩ (.int .i64 ((n:Int)+1))).heap[u]?=some (.cells #[.pointer (some ⟨p,0,none⟩),.int .i64 ((n:Int)+1),.map (some gm)] 75 (0,0)) /\
  Hp (w.setCell ⟨u,1,none⟩ (.int .i64 ((n:Int)+1))) B p g c L/\zk (w.setCell ⟨u,1,none⟩ (.int .i64 ((n:Int)+1))) B (ft u gm p g) gm n M/\aE (ft u gm p g) (ft u gm p g) w (w.setCell ⟨u,1,none⟩ (.int .i64 ((n:Int)+1))):=by
 have ht:aE (ft u gm p g) (ft u gm p g) w (w.setCell ⟨u,1,none⟩ (.int .i64 ((n:Int)+1))):=aE.setCell w _ (.inl rfl);have ho:∀ k,k≠u->(w.setCell ⟨u,1,none⟩ (.int .i64 ((n:Int)+1))).heap[k]?=w.heap[k]?:=fun k hk=>heap_setCell_other _ _ _ _ hk
 refine⟨?_,h.hp.same (ho p (fun e=>h.uf (.inl e.symm))) (ho g (fun e=>h.uf (.inr e.symm))),h.map.same (ho gm h.ne) (fun r hr=>hr.dZ ht),ht⟩;rw [heap_setCell_same w u 1 _ _ _ h.lT];rfl
theorem QO(h:Ud w B u gm p g c L n M)(hB:B<=w.heap.size)(hn:n<=90000) :
  Calls Tryz.prog 8 #[.pointer (some ⟨u,0,none⟩)] w fun e w'=>e=.returned (.int .i64 ((n:Int)+1))/\Ud w' B u gm p g c L (n+1) (M++[((n:Int)+1,L)])/\aE (ft u gm p g) (ft u gm p g) w w':=by
 obtain⟨c0,c1,c2⟩:=h.cells;have K4:w.frozen? ⟨u,1,none⟩=false:=frozen_of_row w u 1 _ _ h.lT;obtain⟨m1,m2,m3,m4⟩:=h.more;have zhG:=h.ult;have nF:(w.setCell ⟨u,1,none⟩ (.int .i64 ((n:Int)+1))).heap.size=w.heap.size:=by simp
 have jS:(w.setCell ⟨u,1,none⟩ (.int .i64 ((n:Int)+1))).cell? ⟨u,0,none⟩=some (.pointer (some ⟨p,0,none⟩))/\(w.setCell ⟨u,1,none⟩ (.int .i64 ((n:Int)+1))).cell? ⟨u,1,none⟩=some (.int .i64 ((n:Int)+1))/\(w.setCell ⟨u,1,none⟩ (.int .i64 ((n:Int)+1))).cell? ⟨u,2,none⟩=some (.map (some gm)):=by refine⟨?_,?_,?_⟩ <;> rw [cell_of_row _ _ _ _ _ _ m1] <;> rfl
 obtain⟨d0,d1,d2⟩:=jS;have ic:Hid (Calls Tryz.prog 9 #[.pointer (some ⟨p,0,none⟩)] (w.setCell ⟨u,1,none⟩ (.int .i64 ((n:Int)+1))).drew fun e w2=>∃ a' c' w3,e=.returned (.slice a' L.length c')/\(Instr.mapUpdate 73 (.map (some gm)) (.int .i64 ((n:Int)+1)) (.slice a' L.length c')).run Tryz.prog w2=.ok () w3 /\
   w2.cell? ⟨u,0,none⟩=some (.pointer (some ⟨p,0,none⟩))/\w2.cell? ⟨u,1,none⟩=some (.int .i64 ((n:Int)+1))/\w2.cell? ⟨u,2,none⟩=some (.map (some gm))/\w3.cell? ⟨u,0,none⟩=some (.pointer (some ⟨p,0,none⟩))/\w3.cell? ⟨u,1,none⟩=some (.int .i64 ((n:Int)+1))/\w3.cell? ⟨u,2,none⟩=some (.map (some gm))/\Ud w3 B u gm p g c L (n+1) (M++[((n:Int)+1,L)])/\aE (ft u gm p g) (ft u gm p g) w w3):=af (by
  refine(cZ p g c B L _ (show Hp (w.setCell ⟨u,1,none⟩ (.int .i64 ((n:Int)+1))).drew B p g c L from⟨m2.bp,m2.ne,m2.lT,m2.row,m2.kV,m2.aV⟩)).mono ?_;rintro e w2 ⟨a',c',rfl,ho,aK⟩;have ze0:Below w.heap.size (w.setCell ⟨u,1,none⟩ (.int .i64 ((n:Int)+1))) w2:=⟨aK.os,aK.tape,aK.output,by simpa using aK.size,fun k hk=>aK.block k (by simpa using hk)⟩;have hblk:∀ k,k<w.heap.size->w2.heap[k]?=(w.setCell ⟨u,1,none⟩ (.int .i64 ((n:Int)+1))).heap[k]?:=ze0.block;have zhJ:aE (ft u gm p g) (ft u gm p g) (w.setCell ⟨u,1,none⟩ (.int .i64 ((n:Int)+1))) w2:=aE.aW (by rw [nF];exact ze0);have cL:(w.setCell ⟨u,1,none⟩ (.int .i64 ((n:Int)+1))).drew.heap.size=w.heap.size:=nF;rw [cL] at ho;have iP:zk w2 B (ft u gm p g) gm n M:=m3.same (hblk gm h.map.lt) (fun r hr=>hr.dZ zhJ);have az:kh w2 B (ft u gm p g) (a',c',L):=⟨ho.lower hB,h.hp.kV,by have:=h.hp.len;dsimp only;omega,fun b hb hs=>by have h1:=ho.block b hb;have h2:=h.lt b hs;omega⟩;obtain⟨w3,bw,qO,j5⟩:=iP.store (z:=(n:Int)+1) (by omega) (fun x hx=>by have:=h.num x hx;omega) az (by omega) (.inr (.inl rfl));have zeo:aE (ft u gm p g) (ft u gm p g) w2 w3:=aE.grown j5.grown (fun k hk=>by cases hk;exact .inr (.inl rfl));have bR:∀ k,k<w.heap.size->k≠gm->w3.heap[k]?=w2.heap[k]?:=fun k hk aO=>j5.grown.block k (by have:=ze0.size;simp at this;omega) (fun e=>aO (zOi e))
  have BM:=(hblk u zhG).trans m1;have hu3:=(bR u zhG (fun e=>h.ne e.symm)).trans BM;refine⟨a',c',w3,rfl,bw,?_,?_,?_,?_,?_,?_,⟨h.bu,h.bm,h.uf,h.mf,?_,?_,qO,fun x hx=>?_,fun x hx=>?_⟩,(m4.trans zhJ).trans zeo⟩
  ·rw [cell_of_row _ _ _ _ _ _ BM];rfl
  ·rw [cell_of_row _ _ _ _ _ _ BM];rfl
  ·rw [cell_of_row _ _ _ _ _ _ BM];rfl
  ·rw [cell_of_row _ _ _ _ _ _ hu3];rfl
  ·rw [cell_of_row _ _ _ _ _ _ hu3];rfl
  ·rw [cell_of_row _ _ _ _ _ _ hu3];rfl
  ·rw [hu3];simp
  ·exact m2.same ((bR p h.hp.BJ (fun e=>h.mf (.inl e.symm))).trans (hblk p h.hp.BJ)) ((bR g h.hp.Yk (fun e=>h.mf (.inr e.symm))).trans (hblk g h.hp.Yk))
  ·rcases zMa hx with hx | hx
   ·have:=h.num x hx;omega
   ·rw [zMs hx];dsimp only;omega
  ·rcases zMa hx with hx | hx
   ·exact h.fK x hx
   ·rw [zMs hx];exact⟨h.hp.aV,rfl⟩)
 clear h m1 m2 m3 m4 nF hB;generalize L.length=N at *;go_enter Tryz.func8,Tryz.ntmps8
 go_wp2_with fail
 generalize w.setCell ⟨u,1,none⟩ (.int .i64 ((n:Int)+1))=w1 at *;go_region_held3 (fun w'=>w'.cell? ⟨u,0,none⟩=some (.pointer (some ⟨p,0,none⟩))/\w'.cell? ⟨u,1,none⟩=some (.int .i64 ((n:Int)+1))/\w'.cell? ⟨u,2,none⟩=some (.map (some gm))) (first | exact⟨s0,s1,s2⟩ | go_keep | (go_split_ands;refine⟨?_,?_,?_⟩ <;> go_keep))
  ((go_at_call 9;refine(ae ic).mono ?_;rintro e w2 ⟨a',c',w3,rfl,bw,r0,r1,r2,s0,s1,s2,Xg,ht⟩))
 have HU:=af Xg;have HT:=af ht;clear Xg ht ic c0 c1 c2 d0 d1 d2 r0 r1 r2 s0 s2;go_wp2;go_ret;exact⟨rfl,ae HU,ae HT⟩
end
section
open Go.Shelf
def RV:Ren:={ f:=fun | 5=>38 | n=>n,t:=fun | 23=>73 | 26=>3 | 24=>30 | 27=>80 | 0=>0 | 4=>4 | n=>n,g:=fun n=>n }
theorem zht:SlLaysDf.n5 Tryz.prog RV:={ mixed:=by kernel_rfl,f5:=⟨ "maps.DeleteFunc[map[int][]byte,int,[]byte]",by decide,Tryz.func38.trans rfl⟩,t0:=Tryz.underlying0,a0:=Tryz.isAgg0,z0:=Tryz.sizeOf0,v0:=Tryz.zeroValue0,t4:=Tryz.underlying4,a4:=Tryz.isAgg4,z4:=Tryz.sizeOf4,v4:=Tryz.zeroValue4,t23:=Tryz.underlying73,a23:=Tryz.isAgg73,z23:=Tryz.sizeOf73,v23:=Tryz.zeroValue73,a24:=Tryz.isAgg30,z24:=Tryz.sizeOf30,a26:=Tryz.isAgg3,z26:=Tryz.sizeOf3,t27:=Tryz.underlying80,a27:=Tryz.isAgg80,z27:=Tryz.sizeOf80,v27:=Tryz.zeroValue80 }
section
variable {w w':World} {B u gm p g c:Nat} {L:List Int} {n:Nat} {M:List (Int×List Int)}
theorem TU(m x:Int)(v:Value)(b:Nat)(W:World)(hc:W.cell? ⟨b,0,none⟩=some (.int .i64 m)) :
  Calls Tryz.prog 39 #[.int .i64 x,v,.pointer (some ⟨b,0,none⟩)] W fun e w'=>e=.returned (.bool (decide (m<x)))/\W=w':=by
 go_enter Tryz.func39,Tryz.ntmps39
 go_wp2
 all_goals (go_ret;exact⟨by simp_all,rfl⟩)
theorem QP(h:Ud w B u gm p g c L n M)(hB:B<=w.heap.size){m:Int}(hm:-9223372036854775808<=m/\m<=9223372036854775807){I:List Int}(hI:mkAt M m=some I) :
  Calls Tryz.prog 11 #[.pointer (some ⟨u,0,none⟩),.int .i64 m] w fun e w'=>e=.returned .nilIface/\∃ g' c',Ud w' B u gm p g' c' I n (nh M m)/\aE (ft u gm p g) (ft u gm p g') w w':=by
 have Ur:Below w.heap.size w (w.alloc (.cells #[.int .i64 m] 3)):=zBr.alloc zNr _;have hu:=h.below Ur;have eQ:=Aj hI;obtain⟨hfI,Z7⟩:=h.fK _ eQ;dsimp only at hfI Z7;obtain⟨a,cap,ho,JA⟩:=Hq hu hm hI;have HT:=af JA;have XU:Bs (w.alloc (.cells #[.int .i64 m] 3)) a cap I:=ho.bs;have HR:=af (pz hu.hp (by have:=Ur.size;omega) XU hfI Z7);have py:(w.alloc (.cells #[.int .i64 m] 3)).cell? ⟨w.heap.size,0,none⟩=some (.int .i64 m):=by simp
 have jS:=hu.cells;have HD:Hid (∀ w2 g' c',Hp w2 B p g' c' I->aE (bA p g) (bA p g') (w.alloc (.cells #[.int .i64 m] 3)) w2 ->
   w2.cell? ⟨u,2,none⟩=some (.map (some gm))/\Calls Tryz.prog 38 #[.map (some gm),.func (.func 39) #[] #[.pointer (some ⟨w.heap.size,0,none⟩)]] w2 fun e w3=>e=.returned (.tuple #[])/\Ud w3 B u gm p g' c' I n (nh M m)/\aE (ft u gm p g) (ft u gm p g') w w3):=af (fun w2 g' c' JM iu=>by
  have BM:=hu.heap JM iu Z7;refine⟨BM.cells.2.2,?_⟩;have nH:w2.cell? ⟨w.heap.size,0,none⟩=some (.int .i64 m):=by rw [<- py];refine World.cell?_of_block (a:=⟨w.heap.size,0,none⟩) (iu.block w.heap.size (by simp) (fun hf=>?_));have h1:=h.hp.BJ;have h2:=h.hp.Yk;rcases hf with e | e <;> omega
  have Xx:w.heap.size<w2.heap.size:=by have:=iu.size;rw [aH] at this;omega
  have JN:=h.map.lt;obtain⟨D,az,hr,hD,hIm⟩:=BM.map;have kK:=AnyDf.maps_DeleteFunc zht (Maps.int_keyed (P:=Tryz.prog) zu3) slR (gone m) 39 #[.pointer (some ⟨w.heap.size,0,none⟩)] gm n D w2 (enters_of Tryz.func39 (by kernel_rfl) rfl) az (fun W key val kl yd yp hg hk hv=>by obtain⟨x,rfl,rfl,_⟩:=Maps.keyOf_i64 (P:=Tryz.prog) zu3 hk;refine(TU m x val w.heap.size W (hg.cell nH (fun e=>by have:=zOi e;dsimp only at this;omega))).mono ?_;rintro e w' ⟨rfl,rfl⟩;exact⟨rfl,World.grownBy.refl W none⟩);change Calls _ 38 _ _ _ at kK;refine kK.mono ?_;rintro e w3 ⟨rfl,sy,hg3⟩;have qO:=BM.map.cut (m:=m) (.inr (.inl rfl)) az hD hIm sy hg3;have bR:∀ k,k<w2.heap.size->k≠gm->w3.heap[k]?=w2.heap[k]?:=fun k hk aO=>hg3.block k hk (fun e=>aO (zOi e))
  have zeo:aE (ft u gm p g') (ft u gm p g') w2 w3:=aE.grown hg3 (fun k hk=>by cases hk;exact .inr (.inl rfl));refine⟨rfl,⟨BM.bu,BM.bm,BM.uf,BM.mf,(bR u BM.ult (fun e=>BM.ne e.symm)).trans BM.lT,BM.hp.same (bR p BM.hp.BJ (fun e=>BM.mf (.inl e.symm))) (bR g' BM.hp.Yk (fun e=>BM.mf (.inr e.symm))),qO,fun x hx=>BM.num x (List.mem_filter.1 hx).1,fun x hx=>BM.fK x (List.mem_filter.1 hx).1⟩,((aE.aW Ur).trans (yY iu)).trans zeo⟩)
 obtain⟨e0,e1,e2⟩:=jS;clear h hu eQ hfI Z7 ho XU hI JA Ur e1 hB hm;generalize I.length=N at *;go_enter Tryz.func11,Tryz.ntmps11
 go_wp2_with fail
 refine(ae HT).mono ?_;rintro e w1 ⟨rfl,hw⟩;subst hw;generalize w.alloc (.cells #[.int .i64 m] 3)=wa at *;go_wp2_with fail
 refine(ae HR).mono ?_;rintro e w2 ⟨rfl,g',c',JM,iu⟩;obtain⟨q2,hd⟩:=ae HD w2 g' c' JM iu;have HDC:=af hd;clear JM iu hd HD HR HT e0 e2 py;go_wp2_with fail
 refine(ae HDC).mono ?_;rintro e w3 ⟨rfl,Xg,ht⟩;have HU:=af Xg;have Uw:=af ht;clear Xg ht HDC q2;go_wp2;go_ret;exact⟨rfl,g',c',ae HU,ae Uw⟩
end
end
section
open Go.Maps
open Go.Sort
open Go.Shelf
section
variable {w w':World} {B u gm p g c:Nat} {L:List Int} {n:Nat} {M:List (Int×List Int)}
theorem EV(h:Ud w B u gm p g c L n M){m:Int}(hm:-9223372036854775808<=m/\m<=9223372036854775807){I:List Int}(hI:mkAt M m=some I) :
  Calls Tryz.prog 10 #[.pointer (some ⟨u,0,none⟩),.int .i64 m] w fun e w'=>∃ v,e=.returned (.tuple #[v,.nilIface])/\vv w' w.heap.size v (ir I L I.length)/\Below w.heap.size w w':=by
 have eQ:=Aj hI;obtain⟨hfI,Z7⟩:=h.fK _ eQ;dsimp only at hfI Z7;obtain⟨a,cap,ho,JA⟩:=Hq h hm hI;have HT:=af JA;have XU:Bs w a cap I:=ho.bs;have fS:=h.hp.kV;have hlen:=h.hp.len;have HB:=af (cZ p g c B L w h.hp);have HD:Hid (∀ W a' c',Below w.heap.size w W->cj W w.heap.size (.slice a' L.length c') L->Calls Tryz.prog 36 #[.slice a I.length cap,.slice a' L.length c'] W fun e w'=>∃ v,e=.returned (.tuple #[v,.nilIface])/\vv w' w.heap.size v (ir I L I.length)/\Below w.heap.size w w'):=af (fun W a' c' hW hO=>by
  obtain⟨a2,c2,e2,aK⟩:=hO.bs fS (by omega);simp only [Value.slice.injEq,true_and] at e2;obtain⟨rfl,rfl⟩:=e2;rw [<- Z7];refine(A9 a a' cap c' I L W (XU.below hW) aK Z7 (by omega)).mono ?_;rintro e w' ⟨v,rfl,wL,hb⟩;obtain⟨rs,h1,h2,h3⟩:=wL;refine⟨v,by rw [aA],⟨rs,h1,?_,fun r hr=>?_⟩,hW.trans (hb.mono hW.size)⟩
  ·refine⟨h2.1,?_⟩;rcases h2.2 with h0 | ⟨g',cap',cur,e,hB',h5⟩
   ·exact .inl h0
   ·exact .inr ⟨g',cap',cur,e,Nat.le_trans hW.size hB',h5⟩
  ·have:=h3 r hr;exact⟨⟨this.1.1,this.1.2.1,this.1.2.2.lower hW.size⟩,this.2.1,this.2.2.1,this.2.2.2.lower hW.size⟩)
 obtain⟨e0,e1,e2⟩:=h.cells;clear h eQ hfI ho hI JA XU fS hlen e1 e2 hm;generalize ir I L I.length=DF at *;generalize I.length=N at *;rw [<- Z7] at HB HD;clear Z7;go_enter Tryz.func10,Tryz.ntmps10
 go_wp2_with fail
 refine(ae HT).mono ?_;rintro e w1 ⟨rfl,hw⟩;subst hw;go_wp2_with fail
 refine(ae HB).mono ?_;rintro e w2 ⟨a',c',rfl,K2,aK⟩;have HD2:=af (ae HD w2 a' c' aK K2);clear K2 aK HB HD HT e0;go_wp2_with fail
 refine(ae HD2).mono ?_;rintro e w3 ⟨v,rfl,wL,bR⟩;have HC:=af wL;have cT:=af bR;clear wL bR HD2;go_wp2;go_ret2;exact⟨v,rfl,ae HC,ae cT⟩
end
end
end Go.Proofs.YtcimhnnendlblaaGreat
