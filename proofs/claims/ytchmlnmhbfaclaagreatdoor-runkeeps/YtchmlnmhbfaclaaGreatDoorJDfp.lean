/-
  Parts of the proofs, joined by program.
-/
import Derived.Test.YtchmlnmhbfaclaaGreatDoorJDfr
import Derived.Test.YtchmlnmhbfaclaaGreatDoorJVws
import Derived.Maps.OwnSet
import Derived.Test.YtchmlnmhbfaclaaGreatDoorJPgp
import Derived.Test.YtchmlnmhbfaclaaGreatDoorJDf
namespace Go.Proofs.YtchmlnmhbfaclaaGreatDoor
open Go.RowKit Go.MapKept Go.ChangeMaps Go.Sort Go.Shelf
open Go.Maps (Keyed)
set_option linter.unusedVariables false
def inP(X p j:Nat):Bool:=decide (X / 32<=j) && decide (j<p / 32)
theorem zvo(X j:Nat):inP X X j=false:=by
 unfold inP
 rw [Bool.and_eq_false_iff,decide_eq_false_iff_not,decide_eq_false_iff_not]
 omega
theorem zvp{X p:Nat}(h:X<=p)(j:Nat):inP X (p+(32-p % 32)) j=(inP X p j || (j == p / 32)):=by
 unfold inP
 have h1:(p+(32-p % 32)) / 32=p / 32+1:=by omega
 have h2:X / 32<=p / 32:=by omega
 rw [h1,Bool.eq_iff_iff]
 simp only [Bool.and_eq_true,Bool.or_eq_true,decide_eq_true_eq,beq_iff_eq]
 omega
theorem zyM{X n p:Nat}(h1:X<=p)(h2:p=X\/(p % 32=0/\p<X+n+32/\X<X+n))(h3:X+n<=p)(j:Nat):inP X p j=true ↔ ∃ k,k<n/\(X+k) / 32=j:=by
 unfold inP
 simp only [Bool.and_eq_true,decide_eq_true_eq]
 constructor
 ·rintro ⟨h4,h5⟩
  rcases h2 with rfl | ⟨h6,h7,h8⟩
  ·omega
  ·by_cases h:X / 32=j
   ·exact⟨0,by omega,by omega⟩
   ·exact⟨32 * j-X,by omega,by omega⟩
 ·rintro ⟨k,hk,rfl⟩
  rcases h2 with rfl | ⟨h6,h7,h8⟩
  ·omega
  ·constructor
   ·omega
   ·omega
theorem zn4(l:List (Int×List Int×List Int))(c:(Int×List Int×List Int))(j:Nat):touch (l++[c]) j=(touch l j || (List.range c.2.2.length).any (fun k=>(c.1.toNat+k) / 32 == j)):=by
 unfold touch
 rw [List.any_append]
 simp
theorem zwJ{l:List (Int×List Int×List Int)}(h:pgE l=0):∀ c∈l,0<=c.1/\c.1<6400/\c.1+c.2.2.length<=6400:=by
 induction l with
 | nil=>intro c hc;cases hc
 | cons d r ih =>
  unfold pgE at h
  by_cases hd:d.1<0\/6400<=d.1\/6400-d.1<d.2.2.length
  ·rw [if_pos hd] at h;cases h
  ·rw [if_neg hd] at h
   intro c hc
   rcases List.mem_cons.1 hc with rfl | hc
   ·omega
   ·exact ih h c hc
theorem zmy{l:List (Int×List Int×List Int)}(h:pgE l=0){j:Nat}(hj:touch l j=true):j<200:=by
 obtain⟨c,hc,k,hk,rfl⟩:=zfj.1 hj
 have:=zwJ h c hc
 omega
def PgM(w:World)(gm q:Nat)(t:Nat->Bool):Prop :=
 ∃ D:DataW Unit,w.ownsMap Tryz.prog 3 (plainElem Tryz.prog 3) gm q D/\(∀ z:Int,Maps.has D (.int .i64 z)=true->0<=z)/\∀ j:Nat,Maps.has D (.int .i64 j)=t j
theorem PgM.made(w:World):PgM (w.alloc (.map #[] 0)) w.heap.size 0 (fun _=>false):=⟨.map [],World.ownsMap_made w _ _ _,fun z hz=>(by cases hz),fun j=>rfl⟩
theorem PgM.lt{w:World}{gm q:Nat}{t:Nat->Bool}(h:PgM w gm q t):gm<w.heap.size:=by
 obtain⟨D,h1,_⟩:=h
 exact h1.lt
theorem PgM.same{w w':World}{gm q:Nat}{t:Nat->Bool}(h:PgM w gm q t)(hs:w'.heap[gm]?=w.heap[gm]?):PgM w' gm q t:=by
 obtain⟨D,⟨es,clock,hb,r⟩,h2⟩:=h
 exact⟨D,⟨es,clock,hs.trans hb,r⟩,h2⟩
theorem zsa:(Tryz.prog.info? 3).map (fun i=>(i.zero,i.size,i.bytes))=some (some (.int .i64 0),1,8):=by kernel_rfl
theorem zpM(w:World):(zeroValue 3).run Tryz.prog w=.ok (.int .i64 0) w:=by
 obtain⟨i0,hi0,hz0,hz1,hz2⟩:=info_parts zsa
 simp [zeroValue,typeInfo,hi0,hz0]
theorem zpT(j:Nat)(hj:j<1000):(Lit.int .i64 (j:Int)).wf=true:=WalkArith.wf_i64 (by omega)
theorem PgM.look{w:World}{gm q:Nat}{t:Nat->Bool}(h:PgM w gm q t)(j:Nat)(hj:j<1000):∃ c:Int,(Instr.lookup 303 (.map (some gm)) (.int .i64 j) false).run Tryz.prog w=.ok (.int .i64 c) w:=by
 obtain⟨D,h1,h2,h3⟩:=h
 have hkey:=Maps.keyOf_int_mk (P:=Tryz.prog) Tryz.underlying3 (zpT j hj)
 obtain⟨c,hrun,_,_⟩:=h1.lookup_int (Maps.int_keyed Tryz.underlying3) Tryz.underlying303 Tryz.underlying3 (zpM w) hkey
 exact⟨c,hrun⟩
theorem PgM.store{w:World}{gm q:Nat}{t:Nat->Bool}(h:PgM w gm q t)(hq:q<100000000)(j:Nat)(hj:j<1000)(x:Int)(hx:(Lit.int .i64 x).wf=true) :
  ∃ w',(Instr.mapUpdate 303 (.map (some gm)) (.int .i64 j) (.int .i64 x)).run Tryz.prog w=.ok () w'/\PgM w' gm (q+1) (fun i=>t i || (i == j))/\w.mapTurned w' gm:=by
 obtain⟨D,h1,h2,h3⟩:=h
 have hK:=Maps.int_keyed (P:=Tryz.prog) Tryz.underlying3
 have hkey:=Maps.keyOf_int_mk (P:=Tryz.prog) Tryz.underlying3 (zpT j hj)
 obtain⟨w',hrun,hown',ht⟩:=h1.store hK Tryz.underlying303 (by unfold maxLen;omega) hkey (plainElem_int Tryz.underlying3 (a:=x) hx)
 have hlit:WideAt.IsKeyLit (.int .i64 (j:Int)):=hK.key hkey
 refine⟨w',hrun,⟨_,hown',fun z hz=>?_,fun i=>?_⟩,ht⟩
 ·by_cases e:z=j
  ·omega
  ·have hne:Lit.int .i64 z≠Lit.int .i64 (j:Int):=by
    intro e2;simp only [Lit.int.injEq,true_and] at e2;exact e e2
   rw [Maps.has_put_other hne] at hz
   exact h2 z hz
 ·by_cases e:i=j
  ·subst e
   rw [Maps.has_put_same h1.isMap hlit]
   simp
  ·have hne:Lit.int .i64 (i:Int)≠Lit.int .i64 (j:Int):=by
    intro e2;simp only [Lit.int.injEq,true_and] at e2;omega
   show Maps.has _ _=(t i || (i == j))
   rw [Maps.has_put_other hne,h3 i,beq_eq_false_iff_ne.2 e,Bool.or_false]
theorem PgM.keys{w:World}{gm q:Nat}{t:Nat->Bool}{D:DataW Unit}(h1:w.ownsMap Tryz.prog 3 (plainElem Tryz.prog 3) gm q D)(h2:∀ z:Int,Maps.has D (.int .i64 z)=true->0<=z)(h3:∀ j:Nat,Maps.has D (.int .i64 j)=t j)(ht:∀ j,t j=true->j<200) :
  (((List.range 200).filter t).map (fun i:Nat=>(i:Int))).Perm (intKeys D):=by
 refine CollectedI.perm (left:=fun _=>false) ⟨?_,fun z=>?_⟩ h1 (Maps.int_keyed Tryz.underlying3) Tryz.underlying3 (fun _=>rfl)
 ·exact List.pairwise_map.2 ((List.nodup_range.filter _).imp (fun hne e=>hne (by omega)))
 ·constructor
  ·intro hz
   obtain⟨i,hi,rfl⟩:=List.mem_map.1 hz
   refine⟨?_,rfl⟩
   rw [h3]
   exact(List.mem_filter.1 hi).2
  ·rintro ⟨hz,_⟩
   have h0:=h2 z hz
   obtain⟨i,rfl⟩:∃ i:Nat,z=i:=⟨z.toNat,by omega⟩
   rw [h3] at hz
   exact List.mem_map.2 ⟨i,List.mem_filter.2 ⟨List.mem_range.2 (ht i hz),hz⟩,rfl⟩
theorem zr2(gm:Nat)(W:World):Calls Tryz.prog 294 #[.map (some gm)] W fun e w'=>e=.returned (.func (.func 326) #[] #[.pointer (some ⟨W.heap.size,0,none⟩)])/\w'=W.alloc (.cells #[.map (some gm)] 303) :=
 (callsIn_wide (n:=5)).1 (AnyZI.keys_in zve Fence.wide 5 trivial rfl (some gm) W)
def pgT(t:Nat->Bool):List Int:=((List.range 200).filter t).map (fun i:Nat=>(i:Int))
theorem zAK(t:Nat->Bool):(pgT t).Pairwise (·<·):=by
 unfold pgT
 exact List.pairwise_map.2 ((List.pairwise_lt_range.filter _).imp (fun h=>by omega))
theorem zfs(gm q:Nat)(t:Nat->Bool)(W:World)(h:PgM W gm q t)(ht:∀ j,t j=true->j<200) :
  Calls Tryz.prog 293 #[.func (.func 326) #[] #[.pointer (some ⟨W.heap.size,0,none⟩)]] (W.alloc (.cells #[.map (some gm)] 303)) fun e w' =>
   ∃ v,e=.returned v/\w'.ownsRow W.heap.size 3 1 v (pgT t).length ((pgT t).map encZ)/\Below W.heap.size W w':=by
 obtain⟨D0,hown,hneg,hD⟩:=h
 have hperm:=PgM.keys hown hneg hD ht
 have hsz:Maps.size D0<=200:=by
  have h1:=hperm.length_eq
  have h2:(((List.range 200).filter t).map (fun i:Nat=>(i:Int))).length<=200:=by
   rw [List.length_map]
   exact Nat.le_trans (List.length_filter_le _ _) (by simp)
  obtain⟨es,clock,_,_,_,e⟩:=hown
  rw [h1,e] at h2
  unfold intKeys at h2
  rw [List.length_map] at h2
  rw [e]
  exact h2
 have hmax:Maps.size D0<=maxLen:=by unfold maxLen;omega
 have hbytes:Maps.size D0 * 8<=140737488355328:=by omega
 have hbl:=hown.lt
 have hseq:SeqGives Fence.wide 2 Tryz.prog 326 #[.pointer (some ⟨W.heap.size,0,none⟩)] encZ (fun ss=>ss.Perm (intKeys D0)) (Maps.size D0) (W.alloc (.cells #[.map (some gm)] 303)) :=
  AnyZI.keys_gives (ρ:=zfW) { zve with } Fence.wide _ trivial rfl (by omega) W.heap.size gm q D0 _ (by simp) (by simp) (by
   obtain⟨es,clock,hb,Ft,hs,hD⟩:=hown
   exact⟨es,clock,(Below.heap_alloc _ _ gm hbl).trans hb,Ft,hs,hD⟩)
 have cS:=AnyZI.sorted_in zqr Fence.wide 5 trivial trivial trivial trivial rfl (by omega) (zwq _) (enters_of Tryz.func325 (by kernel_rfl) rfl) 326 #[.pointer (some ⟨W.heap.size,0,none⟩)] trivial (enters_of Tryz.func326 (by kernel_rfl) rfl) _ _ hmax hbytes _ hseq
 change CallsIn _ _ Tryz.prog 293 _ _ _ at cS
 refine((callsIn_wide).1 cS).mono ?_
 rintro e w' ⟨dv,ss,rfl,hS,hrow,hnil,hb⟩
 have hr:=ownsRow_base_a (base':=W.heap.size) hrow (by simp)
 have hps:=hS.trans hperm.symm
 have e:ss.mergeSort (fun x y=>decide (x<=y))=pgT t:=(mergeSort_of_perm_i hps).trans (List.mergeSort_of_pairwise ((zAK t).imp (fun hlt=>by simp only [leI,decide_eq_true_eq];omega)))
 have hlen:ss.length=(pgT t).length:=by rw [<- e,List.length_mergeSort]
 rw [e,hlen] at hr
 exact⟨dv,rfl,hr,((Below.refl _ W).alloc (Nat.le_refl _) _).trans (hb.mono (by simp))⟩
set_option maxRecDepth 100000 in
theorem znX(x:Int)(a1 a2:Option Addr)(n1 c1 n2 c2:Nat)(w:World)(h0:0<=x)(h1:x<6400)(h2:x+n2<=6400) :
  Calls Tryz.prog 292 #[chV x a1 n1 c1 a2 n2 c2] w fun e w'=>e=.returned (.bool true)/\Below w.heap.size w w':=by
 have HB:=zb ((Below.refl _ w).alloc (Nat.le_refl _) (.cells #[.int .i64 x,.slice a1 n1 c1,.slice a2 n2 c2] 387))
 have h3:(n2:Int)<=6400-x:=by omega
 unfold chV
 go_enter Tryz.func292,Tryz.ntmps292
 go_wp2
 go_ret
 exact⟨rfl,za HB⟩
end Go.Proofs.YtchmlnmhbfaclaaGreatDoor
namespace Go.Proofs.YtchmlnmhbfaclaaGreatDoor
open Go.RowKit
set_option linter.unusedVariables false
theorem za4{p:Nat->Bool}{m:Nat}:∀ k,(∀ i,m<=i->i<m+k->p i=false)->(List.range (m+k)).filter p=(List.range m).filter p
 | 0,_=>rfl
 | k+1,h=>by
  rw [show m+(k+1)=m+k+1 by omega,List.range_succ,List.filter_append,za4 k (fun i h1 h2=>h i h1 (by omega))]
  have:([m+k].filter p)=[]:=by simp [h (m+k) (by omega) (by omega)]
  rw [this,List.append_nil]
theorem zp1{K L:List Int}{m:Nat}(hK:K.length=32 * m)(hL:L.length=32 * m)(hm:m<=200):pgE (dfK K L K.length)=0/\pgT (touch (dfK K L K.length))=(qz K L m).map (fun i:Nat=>(i:Int)):=by
 have hlm:K.length=L.length:=by rw [hK,hL]
 obtain⟨h0,h1⟩:=zv1 hlm (by omega)
 have hd:=zgd hlm K.length (Nat.le_refl _)
 refine⟨h0,?_⟩
 unfold pgT qz
 obtain⟨k,hk⟩:∃ k,m+k=200:=⟨200-m,by omega⟩
 have e200:List.range 200=List.range (m+k):=by rw [hk]
 rw [e200,za4 k (fun i hi _=>?_)]
 ·congr 1
  apply List.filter_congr
  intro i hi
  have hi':=List.mem_range.1 hi
  rw [Bool.eq_iff_iff,h1 i (by omega),decide_eq_true_iff]
  rfl
 ·cases ht:touch (dfK K L K.length) i with
  | false=>rfl
  | true =>
   obtain⟨c,hc,j,hj,he⟩:=zfj.1 ht
   obtain⟨p,n,rfl,h2,h3,h4⟩:=hd.all c hc
   have hln:(ZJ K L p n).2.2.length=n:=by
    show((L.drop p).take n).length=n
    rw [List.length_take,List.length_drop];omega
   have hpt:(ZJ K L p n).1.toNat=p:=Int.toNat_natCast p
   rw [hln] at hj
   rw [hpt] at he
   omega
theorem zvC{l:List (Int×List Int×List Int)}{k:Nat}(h:k<l.length):l.getD k (0,[],[])∈l:=by
 have:l.getD k (0,[],[])=l[k]:=by simp [List.getD,h]
 rw [this]
 exact List.getElem_mem h
end Go.Proofs.YtchmlnmhbfaclaaGreatDoor
namespace Go.Proofs.YtchmlnmhbfaclaaGreatDoor
open Go.RowKit Go.MapKept Go.ChangeMaps Go.Sort Go.Shelf
set_option linter.unusedVariables false
theorem PgM.ext{w:World}{gm q:Nat}{t s:Nat->Bool}(h:PgM w gm q t)(e:∀ j,t j=s j):PgM w gm q s:=by
 have:t=s:=funext e
 rw [<- this]
 exact h
theorem zn5{l:List (Int×List Int×List Int)}{k X n p:Nat}(hk:k<l.length)(hx:(l.getD k (0,[],[])).1=(X:Int))(hn:(l.getD k (0,[],[])).2.2.length=n)(h1:X<=p)(h2:p=X\/(p % 32=0/\p<X+n+32/\X<X+n))(h3:X+n<=p)(j:Nat) :
  (touch (l.take k) j || inP X p j)=touch (l.take (k+1)) j:=by
 rw [zdm hk,zn4,hx,hn,Int.toNat_natCast]
 congr 1
 rw [Bool.eq_iff_iff,zyM h1 h2 h3 j,List.any_eq_true]
 constructor
 ·rintro ⟨i,hi,e⟩
  exact⟨i,List.mem_range.2 hi,by simpa using e⟩
 ·rintro ⟨i,hi,e⟩
  exact⟨i,List.mem_range.1 hi,by simpa using e⟩
set_option maxRecDepth 100000 in
set_option maxHeartbeats 1000000 in
theorem zjH(al:Option Addr)(cl:Nat)(l:List (Int×List Int×List Int))(w:World)(hl:Chs w al cl l)(h0:pgE l=0)(hn:l.length<=100000) :
  Calls Tryz.prog 242 #[.slice al l.length cl] w fun e w'=>∃ v,e=.returned (.tuple #[v,.nilIface])/\w'.ownsRow w.heap.size 3 1 v (pgT (touch l)).length ((pgT (touch l)).map encZ)/\Below w.heap.size w w':=by
 have hmm:=@run_makeMap Tryz.prog
 have HL:=zb hl
 have HP:=zb (fun(k:Nat) (hk:k<l.length)=>zwJ h0 _ (zvC hk))
 have HT:=zb (fun(j:Nat) (hj:touch l j=true)=>zmy h0 hj)
 have HNX:=zb (fun(k X n p:Nat) (hk:k<l.length) hx hn h1 h2 h3=>zn5 (l:=l) (k:=k) (X:=X) (n:=n) (p:=p) hk hx hn h1 h2 h3)
 clear hl h0
 generalize hm:l.length=m at *
 have HM:=zb hm
 clear hm
 go_enter Tryz.func242,Tryz.ntmps242
 go_wp2_with fail
 go_loopw [12] (fun kv wr=>∃ k q:Nat,k<=m/\kv=.int .i64 k/\q<=201 * k/\PgM wr w.heap.size q (touch (l.take k))/\Below w.heap.size w wr) (fun kv _=>m-(intOf kv).toNat)
 case atStart=>exact⟨0,0,Nat.zero_le _,rfl,Nat.le_refl _,PgM.made w,(Below.refl _ w).alloc (Nat.le_refl _) _⟩
 case round =>
  obtain⟨k,q,hk,rfl,hq,hpm,hbel⟩:=hrel
  by_cases hlt:k<m
  ·have hkl:k<l.length:=by rw [za HM];exact hlt
   obtain⟨b,off,s1,d1,s2,d2,rfl,q0,q1,q2,h1,h2⟩:=((za HL).below hbel).at hkl
   obtain⟨g0,g1,g2⟩:=za HP k hlt
   have hnx:=fun X n p=>za HNX k X n p hlt
   generalize l.getD k (0,[],[])=c at *
   obtain⟨x,O,N⟩:=c
   dsimp only at *
   obtain⟨X,rfl⟩:=Int.eq_ofNat_of_zero_le g0
   have hOl:=h1.2.2.1
   have hbA:Below wr.heap.size wr (wr.alloc (.cells #[.int .i64 X,.slice s1 O.length d1,.slice s2 N.length d2] 387)):=(Below.refl _ wr).alloc (Nat.le_refl _) _
   have hBA:Hid ((wr.alloc (.cells #[.int .i64 X,.slice s1 O.length d1,.slice s2 N.length d2] 387)).heap[wr.heap.size]?=some (.cells #[.int .i64 X,.slice s1 O.length d1,.slice s2 N.length d2] 387 (0,0))):=zb (heap_alloc_new wr _)
   have HW:=zb (znX X s1 s2 O.length d1 N.length d2 (wr.alloc (.cells #[.int .i64 X,.slice s1 O.length d1,.slice s2 N.length d2] 387)) g0 g1 g2)
   unfold chV at HW
   have HNX2:=zb (fun p h1 h2 h3=>hnx X N.length p rfl rfl h1 h2 h3)
   have HPM:=zb (hpm.same (hbA.block _ hpm.lt))
   have HBT:=zb (hbel.trans (hbA.mono hbel.size))
   have hszA:w.heap.size<wr.heap.size:=hpm.lt
   generalize O.length=o at *
   generalize hNn:N.length=n at *
   clear h1 h2 hnx hpm hbel hNn hbA
   go_wp2_with fail
   refine(za HW).mono ?_
   rintro e w2 ⟨rfl,hb2⟩
   have hblk:w2.heap[wr.heap.size]?=some (.cells #[.int .i64 X,.slice s1 o d1,.slice s2 n d2] 387 (0,0)):=(hb2.block _ (by simp)).trans (za hBA)
   have HPM2:=zb ((za HPM).same (hb2.block _ (by simp;omega)))
   have HB2:=zb ((za HBT).trans (hb2.mono (za HBT).size))
   have e0:w2.cell? ⟨wr.heap.size,0,none⟩=some (.int .i64 X):=by rw [cell_of_row _ _ _ _ _ _ hblk];rfl
   have e2:w2.cell? ⟨wr.heap.size,2,none⟩=some (.slice s2 n d2):=by rw [cell_of_row _ _ _ _ _ _ hblk];rfl
   clear hb2 hblk HPM HBT HW hBA
   have hX1:(X:Int)+n<=6400:=by omega
   go_wp2_with fail
   go_loopw [8] (fun av wq=>∃ p q':Nat,av=.int .i64 p/\X<=p/\(p=X\/(p % 32=0/\p<X+n+32/\X<X+n))/\q'<=201 * k+(p / 32-X / 32)/\PgM wq w.heap.size q' (fun j=>touch (l.take k) j || inP X p j)/\Below w.heap.size w wq) (fun av _=>X+n+64-(intOf av).toNat)
   case atStart=>exact⟨X,q,rfl,Nat.le_refl _,.inl rfl,by omega,(za HPM2).ext (fun j=>by rw [zvo,Bool.or_false]),za HB2⟩
   case round =>
    obtain⟨p,q',rfl,hXp,hpd,hq',hpm,hbel⟩:=hrel
    by_cases hpl:p<X+n
    ·obtain⟨c,hlook⟩:=hpm.look (p / 32) (by omega)
     obtain⟨w4,hst,hpm4,htn⟩:=hpm.store (by omega) (p / 32) (by omega) (wrap64 (c+1)) (wrap64_wf _)
     have e1:((p / 32:Nat):Int)=(p:Int) / 32:=by omega
     rw [e1] at hlook hst
     have HPM4:=zb hpm4
     have HB4:=zb (hbel.grown htn.grown hbel.size (fun j hj=>by cases hj;exact Nat.le_refl _))
     have t1:(p:Int)<(X:Int)+n:=by omega
     clear hpm hbel hpm4 htn
     go_wp2
     go_roundw
     case rel =>
      refine⟨p+(32-p % 32),q'+1,?_,by omega,.inr (by omega),by omega,(za HPM4).ext (fun j=>by rw [zvp hXp,Bool.or_assoc]),za HB4⟩
      congr 1
      omega
     case measure=>simp [intOf];omega
    ·have HPM3:=zb (hpm.ext (za HNX2 p hXp hpd (by omega)))
     have HB3:=zb hbel
     have t1:¬ ((p:Int)<(X:Int)+n):=by omega
     clear hpm hbel
     go_wp2
     go_roundw
     case rel=>exact⟨k+1,q',by omega,by go_num,by omega,za HPM3,za HB3⟩
     case measure=>simp [intOf];omega
  ·obtain rfl:k=m:=by omega
   have hfl:l.take k=l:=by rw [<- za HM,List.take_length]
   rw [hfl] at hpm
   have HK:=zb (zr2 w.heap.size wr)
   have HS:=zb (zfs w.heap.size q (touch l) wr hpm (za HT))
   have HB:=zb hbel
   clear hpm hbel
   go_wp2_with fail
   refine(za HK).mono ?_
   rintro e w2 ⟨rfl,rfl⟩
   go_wp2_with fail
   refine(za HS).mono ?_
   rintro e w3 ⟨v,rfl,hrow,hb3⟩
   have HR:=zb (ownsRow_base_a (base':=w.heap.size) hrow (za HB).size)
   have HB3:=zb ((za HB).trans (hb3.mono (za HB).size))
   clear hrow hb3 HS HK
   go_wp2
   go_ret2
   exact⟨v,rfl,za HR,za HB3⟩
end Go.Proofs.YtchmlnmhbfaclaaGreatDoor
