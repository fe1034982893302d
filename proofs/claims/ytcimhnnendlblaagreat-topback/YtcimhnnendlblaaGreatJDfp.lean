/-
  Parts of the proofs.
-/
import Derived.Test.YtcimhnnendlblaaGreatJDfr
import Derived.Test.YtcimhnnendlblaaGreatJVws
import Derived.Maps.OwnSet
import Derived.Test.YtcimhnnendlblaaGreatJPgp
set_option maxRecDepth 100000
set_option maxHeartbeats 16000000
set_option linter.all false
namespace Go.Proofs.YtcimhnnendlblaaGreat
open Go.RowKit
section
open Go.MapKept
open Go.ChangeMaps
open Go.Sort
open Go.Shelf
open Go.Maps (Keyed)
def inP(X p j:Nat):Bool:=decide (X / 32<=j) && decide (j<p / 32)
theorem WX(X j:Nat):inP X X j=false:=by unfold inP;rw [Bool.and_eq_false_iff,decide_eq_false_iff_not,decide_eq_false_iff_not];omega
theorem WY{X p:Nat}(h:X<=p)(j:Nat):inP X (p+(32-p % 32)) j=(inP X p j || (j == p / 32)):=by
 unfold inP;have h1:(p+(32-p % 32)) / 32=p / 32+1:=by omega
 have h2:X / 32<=p / 32:=by omega
 rw [h1,Bool.eq_iff_iff];simp only [Bool.and_eq_true,Bool.or_eq_true,decide_eq_true_eq,beq_iff_eq];omega
theorem zbw{X n p:Nat}(h1:X<=p)(h2:p=X\/(p % 32=0/\p<X+n+32/\X<X+n))(h3:X+n<=p)(j:Nat):inP X p j=true ↔ ∃ k,k<n/\(X+k) / 32=j:=by
 unfold inP;simp only [Bool.and_eq_true,decide_eq_true_eq];constructor
 ·rintro ⟨h4,h5⟩;rcases h2 with rfl | ⟨h6,h7,h8⟩
  ·omega
  ·by_cases h:X / 32=j
   ·exact⟨0,by omega,by omega⟩
   ·exact⟨32 * j-X,by omega,by omega⟩
 ·rintro ⟨k,hk,rfl⟩;rcases h2 with rfl | ⟨h6,h7,h8⟩
  ·omega
  ·constructor
   ·omega
   ·omega
theorem Lt(l:List (Int×List Int×List Int))(c:(Int×List Int×List Int))(j:Nat):iS (l++[c]) j=(iS l j || (List.range c.2.2.length).any (fun k=>(c.1.toNat+k) / 32 == j)):=by unfold iS;rw [List.any_append];simp
theorem VG{l:List (Int×List Int×List Int)}(h:pgE l=0):∀ c∈l,0<=c.1/\c.1<6400/\c.1+c.2.2.length<=6400:=by
 induction l with
 | nil=>intro c hc;cases hc
 | cons d r ih =>
  unfold pgE at h;by_cases hd:d.1<0\/6400<=d.1\/6400-d.1<d.2.2.length
  ·rw [if_pos hd] at h;cases h
  ·rw [if_neg hd] at h;intro c hc;rcases zMc hc with rfl | hc
   ·omega
   ·exact ih h c hc
theorem Hn{l:List (Int×List Int×List Int)}(h:pgE l=0){j:Nat}(hj:iS l j=true):j<200:=by obtain⟨c,hc,k,hk,rfl⟩:=vL.1 hj;have:=VG h c hc;omega
def BU(w:World)(gm q:Nat)(t:Nat->Bool):Prop :=∃ D:DataW Unit,w.ownsMap Tryz.prog 3 (plainElem Tryz.prog 3) gm q D/\(∀ z:Int,Maps.has D (.int .i64 z)=true->0<=z)/\∀ j:Nat,Maps.has D (.int .i64 j)=t j
theorem BU.made(w:World):BU (w.alloc (.map #[] 0)) w.heap.size 0 (fun _=>false):=⟨.map [],World.ownsMap_made w _ _ _,fun z hz=>(by cases hz),fun j=>rfl⟩
theorem BU.lt{w:World}{gm q:Nat}{t:Nat->Bool}(h:BU w gm q t):gm<w.heap.size:=by obtain⟨D,h1,_⟩:=h;exact h1.lt
theorem BU.same{w w':World}{gm q:Nat}{t:Nat->Bool}(h:BU w gm q t)(hs:w'.heap[gm]?=w.heap[gm]?):BU w' gm q t:=by obtain⟨D,⟨es,clock,hb,r⟩,h2⟩:=h;exact⟨D,⟨es,clock,hs.trans hb,r⟩,h2⟩
theorem Sl:(Tryz.prog.info? 3).map (fun i=>(i.zero,i.size,i.bytes))=some (some (.int .i64 0),1,8):=by kernel_rfl
theorem QB(w:World):(zeroValue 3).run Tryz.prog w=.ok (.int .i64 0) w:=by obtain⟨i0,eP,cY,dw,dz⟩:=info_parts Sl;simp [zeroValue,typeInfo,eP,cY]
theorem OL(j:Nat)(hj:j<1000):(Lit.int .i64 (j:Int)).wf=true:=WalkArith.wf_i64 (by omega)
theorem BU.look{w:World}{gm q:Nat}{t:Nat->Bool}(h:BU w gm q t)(j:Nat)(hj:j<1000):∃ c:Int,(Instr.lookup 164 (.map (some gm)) (.int .i64 j) false).run Tryz.prog w=.ok (.int .i64 c) w:=by obtain⟨D,h1,h2,h3⟩:=h;have dt:=Maps.keyOf_int_mk (P:=Tryz.prog) zu3 (OL j hj);obtain⟨c,bw,_,_⟩:=h1.lookup_int (Maps.int_keyed zu3) zu164 zu3 (QB w) dt;exact⟨c,bw⟩
theorem BU.store{w:World}{gm q:Nat}{t:Nat->Bool}(h:BU w gm q t)(hq:q<100000000)(j:Nat)(hj:j<1000)(x:Int)(hx:(Lit.int .i64 x).wf=true) :
  ∃ w',(Instr.mapUpdate 164 (.map (some gm)) (.int .i64 j) (.int .i64 x)).run Tryz.prog w=.ok () w'/\BU w' gm (q+1) (fun i=>t i || (i == j))/\w.mapTurned w' gm:=by
 obtain⟨D,h1,h2,h3⟩:=h;have hK:=Maps.int_keyed (P:=Tryz.prog) zu3;have dt:=Maps.keyOf_int_mk (P:=Tryz.prog) zu3 (OL j hj);obtain⟨w',bw,ew,ht⟩:=h1.store hK zu164 (by unfold maxLen;omega) dt (plainElem_int zu3 (a:=x) hx);have jM:WideAt.IsKeyLit (.int .i64 (j:Int)):=hK.key dt;refine⟨w',bw,⟨_,ew,fun z hz=>?_,fun i=>?_⟩,ht⟩
 ·by_cases e:z=j
  ·omega
  ·have aO:Lit.int .i64 z≠Lit.int .i64 (j:Int):=by intro e2;simp only [Lit.int.injEq,true_and] at e2;exact e e2
   rw [Maps.has_put_other aO] at hz;exact h2 z hz
 ·by_cases e:i=j
  ·subst e;rw [Maps.has_put_same h1.isMap jM];simp
  ·have aO:Lit.int .i64 (i:Int)≠Lit.int .i64 (j:Int):=by intro e2;simp only [Lit.int.injEq,true_and] at e2;omega
   show Maps.has _ _=(t i || (i == j))
   rw [Maps.has_put_other aO,h3 i,beq_eq_false_iff_ne.2 e,Bool.or_false]
theorem BU.keys{w:World}{gm q:Nat}{t:Nat->Bool}{D:DataW Unit}(h1:w.ownsMap Tryz.prog 3 (plainElem Tryz.prog 3) gm q D)(h2:∀ z:Int,Maps.has D (.int .i64 z)=true->0<=z)(h3:∀ j:Nat,Maps.has D (.int .i64 j)=t j)(ht:∀ j,t j=true->j<200) :
  (((List.range 200).filter t).map (fun i:Nat=>(i:Int))).Perm (intKeys D):=by
 refine CollectedI.perm (left:=fun _=>false) ⟨?_,fun z=>?_⟩ h1 (Maps.int_keyed zu3) zu3 (fun _=>rfl)
 ·exact List.pairwise_map.2 ((List.nodup_range.filter _).imp (fun aO e=>aO (by omega)))
 ·constructor
  ·intro hz;obtain⟨i,hi,rfl⟩:=List.mem_map.1 hz;refine⟨?_,rfl⟩;rw [h3];exact(List.mem_filter.1 hi).2
  ·rintro ⟨hz,_⟩;have h0:=h2 z hz;obtain⟨i,rfl⟩:∃ i:Nat,z=i:=⟨z.toNat,by omega⟩;rw [h3] at hz;exact List.mem_map.2 ⟨i,List.mem_filter.2 ⟨List.mem_range.2 (ht i hz),hz⟩,rfl⟩
theorem Sh(gm:Nat)(W:World):Calls Tryz.prog 239 #[.map (some gm)] W fun e w'=>e=.returned (.func (.func 264) #[] #[.pointer (some ⟨W.heap.size,0,none⟩)])/\w'=W.alloc (.cells #[.map (some gm)] 164) :=(callsIn_wide (n:=5)).1 (AnyZI.keys_in Pw Fence.wide 5 trivial rfl (some gm) W)
def K0(t:Nat->Bool):List Int:=((List.range 200).filter t).map (fun i:Nat=>(i:Int))
theorem zdU(t:Nat->Bool):(K0 t).Pairwise (·<·):=by unfold K0;exact List.pairwise_map.2 ((List.pairwise_lt_range.filter _).imp (fun h=>by omega))
theorem xH(gm q:Nat)(t:Nat->Bool)(W:World)(h:BU W gm q t)(ht:∀ j,t j=true->j<200) :
  Calls Tryz.prog 227 #[.func (.func 264) #[] #[.pointer (some ⟨W.heap.size,0,none⟩)]] (W.alloc (.cells #[.map (some gm)] 164)) fun e w' =>∃ v,e=.returned v/\w'.ownsRow W.heap.size 3 1 v (K0 t).length ((K0 t).map encZ)/\Below W.heap.size W w':=by
 obtain⟨D0,az,zey,hD⟩:=h;have lq:=BU.keys az zey hD ht;have cL:Maps.size D0<=200:=by
  have h1:=lq.length_eq;have h2:(((List.range 200).filter t).map (fun i:Nat=>(i:Int))).length<=200:=by rw [zLm];exact Nat.le_trans (List.length_filter_le _ _) (by simp)
  obtain⟨es,clock,_,_,_,e⟩:=az;rw [h1,e] at h2;unfold intKeys at h2;rw [zLm] at h2;rw [e];exact h2
 have F8:Maps.size D0<=maxLen:=by unfold maxLen;omega
 have tn:Maps.size D0 * 8<=140737488355328:=by omega
 have iq:=az.lt;have M7:SeqGives Fence.wide 2 Tryz.prog 264 #[.pointer (some ⟨W.heap.size,0,none⟩)] encZ (fun ss=>ss.Perm (intKeys D0)) (Maps.size D0) (W.alloc (.cells #[.map (some gm)] 164)) :=AnyZI.keys_gives (ρ:=wD) { Pw with } Fence.wide _ trivial rfl (by omega) W.heap.size gm q D0 _ (by simp) (by simp) (by obtain⟨es,clock,hb,Ft,hs,hD⟩:=az;exact⟨es,clock,(Below.heap_alloc _ _ gm iq).trans hb,Ft,hs,hD⟩);have cS:=AnyZI.sorted_in Fg Fence.wide 5 trivial trivial trivial trivial rfl (by omega) (LI _) (enters_of Tryz.func253 (by kernel_rfl) rfl) 264 #[.pointer (some ⟨W.heap.size,0,none⟩)] trivial (enters_of Tryz.func264 (by kernel_rfl) rfl) _ _ F8 tn _ M7;change CallsIn _ _ Tryz.prog 227 _ _ _ at cS;refine((callsIn_wide).1 cS).mono ?_;rintro e w' ⟨dv,ss,rfl,hS,bn,pw,hb⟩;have hr:=ownsRow_base_a (base':=W.heap.size) bn (by simp);have Z3:=hS.trans lq.symm;have e:ss.mergeSort (fun x y=>decide (x<=y))=K0 t:=(mergeSort_of_perm_i Z3).trans (List.mergeSort_of_pairwise ((zdU t).imp (fun aM=>by simp only [leI,decide_eq_true_eq];omega)));have hlen:ss.length=(K0 t).length:=by rw [<- e,List.length_mergeSort]
 rw [e,hlen] at hr;exact⟨dv,rfl,hr,((Below.refl _ W).alloc zNr _).trans (hb.mono (by simp))⟩
theorem Lh(x:Int)(a1 a2:Option Addr)(n1 c1 n2 c2:Nat)(w:World)(h0:0<=x)(h1:x<6400)(h2:x+n2<=6400) :
  Calls Tryz.prog 238 #[xg x a1 n1 c1 a2 n2 c2] w fun e w'=>e=.returned (.bool true)/\Below w.heap.size w w':=by
 have HB:=af ((Below.refl _ w).alloc zNr (.cells #[.int .i64 x,.slice a1 n1 c1,.slice a2 n2 c2] 83));have h3:(n2:Int)<=6400-x:=by omega
 unfold xg;go_enter Tryz.func238,Tryz.ntmps238
 go_wp2;go_ret;exact⟨rfl,ae HB⟩
end
theorem mZ{p:Nat->Bool}{m:Nat}:∀ k,(∀ i,m<=i->i<m+k->p i=false)->(List.range (m+k)).filter p=(List.range m).filter p
 | 0,_=>rfl
 | k+1,h=>by
  rw [show m+(k+1)=m+k+1 by omega,List.range_succ,List.filter_append,mZ k (fun i h1 h2=>h i h1 (by omega))];have:([m+k].filter p)=[]:=by simp [h (m+k) (by omega) (by omega)]
  rw [this,List.append_nil]
theorem QR{K L:List Int}{m:Nat}(hK:K.length=32 * m)(hL:L.length=32 * m)(hm:m<=200):pgE (ir K L K.length)=0/\K0 (iS (ir K L K.length))=(ff K L m).map (fun i:Nat=>(i:Int)):=by
 have K3:K.length=L.length:=by rw [hK,hL]
 obtain⟨h0,h1⟩:=YF K3 (by omega);have hd:=tv K3 K.length zNr;refine⟨h0,?_⟩;unfold K0 ff;obtain⟨k,hk⟩:∃ k,m+k=200:=⟨200-m,by omega⟩;have e200:List.range 200=List.range (m+k):=by rw [hk]
 rw [e200,mZ k (fun i hi _=>?_)]
 ·congr 1
  apply List.filter_congr;intro i hi;have hi':=List.mem_range.1 hi;rw [Bool.eq_iff_iff,h1 i (by omega),decide_eq_true_iff];rfl
 ·cases ht:iS (ir K L K.length) i with
  | false=>rfl
  | true =>
   obtain⟨c,hc,j,hj,he⟩:=vL.1 ht;obtain⟨p,n,rfl,h2,h3,h4⟩:=hd.all c hc;have nJ:(eo K L p n).2.2.length=n:=by
    show((L.drop p).take n).length=n
    rw [zLt,zLd];omega
   have hpt:(eo K L p n).1.toNat=p:=zTn p;rw [nJ] at hj;rw [hpt] at he;omega
theorem Ym{l:List (Int×List Int×List Int)}{k:Nat}(h:k<l.length):l.getD k (0,[],[])∈l:=by
 have:l.getD k (0,[],[])=l[k]:=by simp [List.getD,h]
 rw [this];exact List.getElem_mem h
section
open Go.MapKept
open Go.ChangeMaps
open Go.Sort
open Go.Shelf
theorem BU.ext{w:World}{gm q:Nat}{t s:Nat->Bool}(h:BU w gm q t)(e:∀ j,t j=s j):BU w gm q s:=by have:t=s:=funext e;rw [<- this];exact h
theorem Lu{l:List (Int×List Int×List Int)}{k X n p:Nat}(hk:k<l.length)(hx:(l.getD k (0,[],[])).1=(X:Int))(hn:(l.getD k (0,[],[])).2.2.length=n)(h1:X<=p)(h2:p=X\/(p % 32=0/\p<X+n+32/\X<X+n))(h3:X+n<=p)(j:Nat) :
  (iS (l.take k) j || inP X p j)=iS (l.take (k+1)) j:=by
 rw [ru hk,Lt,hx,hn,zTn]
 congr 1
 rw [Bool.eq_iff_iff,zbw h1 h2 h3 j,List.any_eq_true];constructor
 ·rintro ⟨i,hi,e⟩;exact⟨i,List.mem_range.2 hi,by simpa using e⟩
 ·rintro ⟨i,hi,e⟩;exact⟨i,List.mem_range.1 hi,by simpa using e⟩
theorem Dc(al:Option Addr)(cl:Nat)(l:List (Int×List Int×List Int))(w:World)(hl:Qz w al cl l)(h0:pgE l=0)(hn:l.length<=100000) :
  Calls Tryz.prog 201 #[.slice al l.length cl] w fun e w'=>∃ v,e=.returned (.tuple #[v,.nilIface])/\w'.ownsRow w.heap.size 3 1 v (K0 (iS l)).length ((K0 (iS l)).map encZ)/\Below w.heap.size w w':=by
 have D1:=@run_makeMap Tryz.prog;have HL:=af hl;have HP:=af (fun(k:Nat) (hk:k<l.length)=>VG h0 _ (Ym hk));have HT:=af (fun(j:Nat) (hj:iS l j=true)=>Hn h0 hj);have Lc:=af (fun(k X n p:Nat) (hk:k<l.length) hx hn h1 h2 h3=>Lu (l:=l) (k:=k) (X:=X) (n:=n) (p:=p) hk hx hn h1 h2 h3);clear hl h0;generalize hm:l.length=m at *;have HM:=af hm;clear hm;go_enter Tryz.func201,Tryz.ntmps201
 go_wp2_with fail
 go_loopw [12] (fun kv wr=>∃ k q:Nat,k<=m/\kv=.int .i64 k/\q<=201 * k/\BU wr w.heap.size q (iS (l.take k))/\Below w.heap.size w wr) (fun kv _=>m-(intOf kv).toNat)
 case atStart=>exact⟨0,0,Nat.zero_le _,rfl,zNr,BU.made w,(Below.refl _ w).alloc zNr _⟩
 case round =>
  obtain⟨k,q,hk,rfl,hq,uK,ao⟩:=hrel;by_cases aM:k<m
  ·have BR:k<l.length:=by rw [ae HM];exact aM
   obtain⟨b,off,s1,d1,s2,d2,rfl,q0,q1,q2,h1,h2⟩:=((ae HL).below ao).at BR;obtain⟨g0,g1,g2⟩:=ae HP k aM;have hnx:=fun X n p=>ae Lc k X n p aM
   generalize l.getD k (0,[],[])=c at *;obtain⟨x,O,N⟩:=c;dsimp only at *;obtain⟨X,rfl⟩:=Int.eq_ofNat_of_zero_le g0;have hOl:=h1.2.2.1;have fp:Below wr.heap.size wr (wr.alloc (.cells #[.int .i64 X,.slice s1 O.length d1,.slice s2 N.length d2] 83)):=(Below.refl _ wr).alloc zNr _;have mI:Hid ((wr.alloc (.cells #[.int .i64 X,.slice s1 O.length d1,.slice s2 N.length d2] 83)).heap[wr.heap.size]?=some (.cells #[.int .i64 X,.slice s1 O.length d1,.slice s2 N.length d2] 83 (0,0))):=af (heap_alloc_new wr _);have HW:=af (Lh X s1 s2 O.length d1 N.length d2 (wr.alloc (.cells #[.int .i64 X,.slice s1 O.length d1,.slice s2 N.length d2] 83)) g0 g1 g2);unfold xg at HW;have zlR:=af (fun p h1 h2 h3=>hnx X N.length p rfl rfl h1 h2 h3);have HPM:=af (uK.same (fp.block _ uK.lt));have HBT:=af (ao.trans (fp.mono ao.size));have zmn:w.heap.size<wr.heap.size:=uK.lt;generalize O.length=o at *;generalize hNn:N.length=n at *;clear h1 h2 hnx uK ao hNn fp;go_wp2_with fail
   refine(ae HW).mono ?_;rintro e w2 ⟨rfl,aK⟩;have hblk:w2.heap[wr.heap.size]?=some (.cells #[.int .i64 X,.slice s1 o d1,.slice s2 n d2] 83 (0,0)):=(aK.block _ (by simp)).trans (ae mI);have zlN:=af ((ae HPM).same (aK.block _ (by simp;omega)));have br:=zTr HBT aK;have e0:w2.cell? ⟨wr.heap.size,0,none⟩=some (.int .i64 X):=by rw [cell_of_row _ _ _ _ _ _ hblk];rfl
   have e2:w2.cell? ⟨wr.heap.size,2,none⟩=some (.slice s2 n d2):=by rw [cell_of_row _ _ _ _ _ _ hblk];rfl
   clear aK hblk HPM HBT HW mI;have Td:(X:Int)+n<=6400:=by omega
   go_wp2_with fail
   go_loopw [8] (fun av wq=>∃ p q':Nat,av=.int .i64 p/\X<=p/\(p=X\/(p % 32=0/\p<X+n+32/\X<X+n))/\q'<=201 * k+(p / 32-X / 32)/\BU wq w.heap.size q' (fun j=>iS (l.take k) j || inP X p j)/\Below w.heap.size w wq) (fun av _=>X+n+64-(intOf av).toNat)
   case atStart=>exact⟨X,q,rfl,zNr,.inl rfl,by omega,(ae zlN).ext (fun j=>by rw [WX,Bool.or_false]),ae br⟩
   case round =>
    obtain⟨p,q',rfl,hXp,hpd,hq',uK,ao⟩:=hrel;by_cases pM:p<X+n
    ·obtain⟨c,bX⟩:=uK.look (p / 32) (by omega);obtain⟨w4,jw,zhS,j5⟩:=uK.store (by omega) (p / 32) (by omega) (wrap64 (c+1)) (wrap64_wf _);have e1:((p / 32:Nat):Int)=(p:Int) / 32:=by omega
     rw [e1] at bX jw;have zlL:=af zhS;have ez:=af (ao.grown j5.grown ao.size (fun j hj=>by cases hj;exact zNr));have t1:(p:Int)<(X:Int)+n:=by omega
     clear uK ao zhS j5;go_wp2;go_roundw
     case rel =>
      refine⟨p+(32-p % 32),q'+1,?_,by omega,.inr (by omega),by omega,(ae zlL).ext (fun j=>by rw [WY hXp,Bool.or_assoc]),ae ez⟩
      congr 1
      omega
     case measure=>simp [intOf];omega
    ·have zlM:=af (uK.ext (ae zlR p hXp hpd (by omega)));have cT:=af ao;have t1:¬ ((p:Int)<(X:Int)+n):=by omega
     clear uK ao;go_wp2;go_roundw
     case rel=>exact⟨k+1,q',by omega,by go_num,by omega,ae zlM,ae cT⟩
     case measure=>simp [intOf];omega
  ·obtain rfl:k=m:=by omega
   have pN:l.take k=l:=by rw [<- ae HM,List.take_length]
   rw [pN] at uK;have HK:=af (Sh w.heap.size wr);have HS:=af (xH w.heap.size q (iS l) wr uK (ae HT));have HB:=af ao;clear uK ao;go_wp2_with fail
   refine(ae HK).mono ?_;rintro e w2 ⟨rfl,rfl⟩;go_wp2_with fail
   refine(ae HS).mono ?_;rintro e w3 ⟨v,rfl,bn,bR⟩;have HR:=af (ownsRow_base_a (base':=w.heap.size) bn (ae HB).size);have cT:=zTr HB bR;clear bn bR HS HK;go_wp2;go_ret2;exact⟨v,rfl,ae HR,ae cT⟩
end
end Go.Proofs.YtcimhnnendlblaaGreat
