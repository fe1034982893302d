/-
  Parts of the proofs, joined by program.
-/
import Derived.Test.YtchmlnmhbfaclaaGreatDoorJIm
import Derived.Test.YtchmlnmhbfaclaaGreatDoorJNum
import Derived.Test.YtchmlnmhbfaclaaGreatDoorJChp
import Derived.Test.YtchmlnmhbfaclaaGreatDoorJRtp
namespace Go.Proofs.YtchmlnmhbfaclaaGreatDoor
open Go.RowKit
set_option linter.unusedVariables false
def inC(z:Int):List Value:=[.int .i64 z]
theorem zaN(z:Int):(inC z).length=1:=rfl
theorem zeg(z:Int):∀ u∈inC z,u.oneCell'=true:=by
 intro u hu
 rw [List.mem_singleton.1 hu]
 rfl
theorem zaG:(Tryz.prog.info? 3).map (fun i=>(i.zero,i.size,i.bytes))=some (some (.int .i64 0),1,8):=by kernel_rfl
theorem Sls.num{w:World}{b off cap:Nat}{l:List Int}(hc:∀ i x,l[i]?=some x->∀ j u,(inC x)[j]?=some u->w.cell? ⟨b,off+i * 1+j,none⟩=some u){i:Nat}{e:Int}(h:l[i]?=some e):w.cell? ⟨b,off+i,none⟩=some (.int .i64 e):=by
 have:=hc i e h 0 _ rfl
 rw [Nat.mul_one,Nat.add_zero] at this
 exact this
end Go.Proofs.YtchmlnmhbfaclaaGreatDoor
namespace Go.Proofs.YtchmlnmhbfaclaaGreatDoor
set_option linter.unusedVariables false
def rk(a:List Int):Nat:=a.foldl (fun n x=>n * 41+x.toNat) 0
def Dg(a:List Int):Prop:=∀ x∈a,1<=x/\x<=40
theorem zx0(a:List Int):∀ n:Nat,a.foldl (fun n x=>n * 41+x.toNat) n=n * 41 ^ a.length+rk a:=by
 unfold rk
 induction a with
 | nil=>intro n;simp
 | cons x r ih =>
  intro n
  simp only [List.foldl_cons,List.length_cons]
  rw [ih (n * 41+x.toNat),ih (0 * 41+x.toNat),Nat.pow_succ,Nat.add_mul,Nat.zero_mul,Nat.zero_add]
  rw [show n * 41 * 41 ^ r.length=n * (41 ^ r.length * 41) by rw [Nat.mul_assoc,Nat.mul_comm 41]]
  omega
theorem zea(x:Int)(a:List Int):rk (x :: a)=x.toNat * 41 ^ a.length+rk a:=by
 have:=zx0 a (0 * 41+x.toNat)
 rw [Nat.zero_mul,Nat.zero_add] at this
 show a.foldl (fun n x=>n * 41+x.toNat) (0 * 41+x.toNat)=_
 rw [Nat.zero_mul,Nat.zero_add]
 exact this
theorem zbZ(a:List Int)(x:Int):rk (a++[x])=rk a * 41+x.toNat:=by
 unfold rk
 rw [List.foldl_append]
 rfl
theorem Dg.tail{x:Int}{a:List Int}(h:Dg (x :: a)):Dg a:=fun y hy=>h y (by simp [hy])
theorem Dg.snoc{x:Int}{a:List Int}(h:Dg a)(h1:1<=x)(h2:x<=40):Dg (a++[x]):=fun y hy=>by
 rcases List.mem_append.1 hy with hy | hy
 ·exact h y hy
 ·rw [List.mem_singleton.1 hy];exact⟨h1,h2⟩
theorem zou{a:List Int}(h:Dg a):rk a<41 ^ a.length:=by
 induction a with
 | nil=>simp [rk]
 | cons x r ih =>
  have h1:=h x (by simp)
  have h2:=ih h.tail
  rw [zea,List.length_cons,Nat.pow_succ]
  have h3:x.toNat * 41 ^ r.length<=40 * 41 ^ r.length:=Nat.mul_le_mul_right _ (by omega)
  omega
theorem zAr{a:List Int}(h:Dg a)(hn:a≠[]):41 ^ (a.length-1)<=rk a:=by
 cases a with
 | nil=>exact absurd rfl hn
 | cons x r =>
  have h1:=h x (by simp)
  rw [zea,List.length_cons,Nat.add_sub_cancel]
  have h3:1 * 41 ^ r.length<=x.toNat * 41 ^ r.length:=Nat.mul_le_mul_right _ (by omega)
  omega
theorem zbu{a b:List Int}(ha:Dg a)(hb:Dg b)(h:a.length<b.length):rk a<rk b:=by
 have h1:=zou ha
 have h2:=zAr hb (by intro e;rw [e] at h;simp at h)
 have h3:41 ^ a.length<=41 ^ (b.length-1):=Nat.pow_le_pow_right (by decide) (by omega)
 omega
theorem zAq:∀ {a b:List Int},Dg a->Dg b->rk a=rk b->a=b:=by
 intro a
 induction a with
 | nil =>
  intro b _ hb h
  cases b with
  | nil=>rfl
  | cons y s =>
   have:=zbu (a:=[]) (b:=y :: s) (fun x hx=>by cases hx) hb (by simp)
   omega
 | cons x r ih =>
  intro b ha hb h
  cases b with
  | nil =>
   have:=zbu (a:=[]) (b:=x :: r) (fun x hx=>by cases hx) ha (by simp)
   omega
  | cons y s =>
   have hl:r.length=s.length:=by
    rcases Nat.lt_trichotomy r.length s.length with hl | hl | hl
    ·have:=zbu ha hb (by simpa using hl);omega
    ·exact hl
    ·have:=zbu hb ha (by simpa using hl);omega
   rw [zea,zea,hl] at h
   have h1:=zou ha.tail
   have h2:=zou hb.tail
   rw [hl] at h1
   have hx:=ha x (by simp)
   have hy:=hb y (by simp)
   have hxy:x.toNat=y.toNat:=by
    rcases Nat.lt_trichotomy x.toNat y.toNat with hq | hq | hq
    ·have h3:(x.toNat+1) * 41 ^ s.length<=y.toNat * 41 ^ s.length:=Nat.mul_le_mul_right _ (by omega)
     rw [Nat.add_mul,Nat.one_mul] at h3
     omega
    ·exact hq
    ·have h3:(y.toNat+1) * 41 ^ s.length<=x.toNat * 41 ^ s.length:=Nat.mul_le_mul_right _ (by omega)
     rw [Nat.add_mul,Nat.one_mul] at h3
     omega
   rw [hxy] at h
   have hrs:rk r=rk s:=by omega
   rw [show x=y by omega,ih ha.tail hb.tail hrs]
def Way(roots:List Int)(refs:Int->List Int)(p:List Int)(h:Int):Prop :=
 ∀ Q:List Int->Int->Prop,(∀ r,r∈roots->Q [r] r)->(∀ q g x,Q q g->x∈refs g->Q (q++[x]) x)->Q p h
theorem Way.root{roots:List Int}{refs:Int->List Int}{r:Int}(h:r∈roots):Way roots refs [r] r:=fun Q h1 h2=>h1 r h
theorem Way.step{roots:List Int}{refs:Int->List Int}{q:List Int}{g x:Int}(w:Way roots refs q g)(h:x∈refs g):Way roots refs (q++[x]) x:=fun Q h1 h2=>h2 q g x (w Q h1 h2) h
theorem Way.ind{roots:List Int}{refs:Int->List Int}(P:List Int->Int->Prop)(hr:∀ r,r∈roots->P [r] r)(hs:∀ q g x,Way roots refs q g->x∈refs g->P q g->P (q++[x]) x){p:List Int}{h:Int}(w:Way roots refs p h):P p h :=
 (w (fun p h=>Way roots refs p h/\P p h) (fun r hm=>⟨.root hm,hr r hm⟩) (fun q g x hq hx=>⟨hq.1.step hx,hs q g x hq.1 hx hq.2⟩)).2
theorem Way.parts{roots:List Int}{refs:Int->List Int}{p:List Int}{h:Int}(w:Way roots refs p h):h∈roots\/∃ q g,Way roots refs q g/\h∈refs g :=
 w.ind (fun p h=>h∈roots\/∃ q g,Way roots refs q g/\h∈refs g) (fun r hr=>.inl hr) (fun q g x wq hx _=>.inr ⟨q,g,wq,hx⟩)
section
variable {roots:List Int} {refs:Int->List Int}
theorem Way.dg(hr:Dg roots)(hf:∀ g,Dg (refs g)){p:List Int}{h:Int}(w:Way roots refs p h):Dg p/\1<=h/\h<=40/\p≠[]:=by
 refine w.ind (fun p h=>Dg p/\1<=h/\h<=40/\p≠[]) (fun r hm=>?_) (fun q g x _ hm ih=>?_)
 ·have:=hr _ hm
  exact⟨fun y hy=>by rw [List.mem_singleton.1 hy];exact this,this.1,this.2,by simp⟩
 ·have:=hf _ _ hm
  exact⟨ih.1.snoc this.1 this.2,this.1,this.2,by simp⟩
structure Still (roots:List Int) (refs:Int->List Int) (W:Int->List Int):Prop where
 base:∀ r∈roots,W r≠[]/\rk (W r)<=rk [r]
 next:∀ h,W h≠[]->∀ x∈refs h,W x≠[]/\rk (W x)<=rk (W h++[x])
 way:∀ h,W h≠[]->Way roots refs (W h) h
theorem Still.least{W:Int->List Int}(s:Still roots refs W){p:List Int}{h:Int}(w:Way roots refs p h):W h≠[]/\rk (W h)<=rk p:=by
 refine w.ind (fun p h=>W h≠[]/\rk (W h)<=rk p) (fun r hm=>s.base _ hm) (fun q g x _ hm ih=>?_)
 obtain⟨h1,h2⟩:=s.next _ ih.1 _ hm
 refine⟨h1,Nat.le_trans h2 ?_⟩
 rw [zbZ,zbZ]
 have:=ih.2
 omega
theorem Still.one(hr:Dg roots)(hf:∀ g,Dg (refs g)){V W:Int->List Int}(s:Still roots refs V)(t:Still roots refs W)(h:Int):V h=W h:=by
 by_cases h1:V h=[]
 ·by_cases h2:W h=[]
  ·rw [h1,h2]
  ·exact absurd h1 (s.least (t.way h h2)).1
 ·by_cases h2:W h=[]
  ·exact absurd h2 (t.least (s.way h h1)).1
  ·have a:=s.least (t.way h h2)
   have b:=t.least (s.way h h1)
   exact zAq ((s.way h h1).dg hr hf).1 ((t.way h h2).dg hr hf).1 (by omega)
end
section
variable {roots:List Int} {refs:Int->List Int}
end
section
variable {roots:List Int} {refs:Int->List Int}
end
def hd(p:List Int):Int:=p.getLastD 0
def ld(p:List Int):Int:=hd p.dropLast
theorem zbC(q:List Int)(x:Int):hd (q++[x])=x:=by unfold hd;simp
theorem zyG(q:List Int)(x:Int):ld (q++[x])=hd q:=by unfold ld;simp
def zjR(P:List (List Int))(x:Int):Bool:=P.any (fun p=>hd p == x)
theorem zeV{P:List (List Int)}{x:Int}:zjR P x=true ↔ ∃ p∈P,hd p=x:=by
 unfold zjR
 rw [List.any_eq_true]
 constructor
 ·rintro ⟨p,hp,e⟩;exact⟨p,hp,beq_iff_eq.1 e⟩
 ·rintro ⟨p,hp,e⟩;exact⟨p,hp,beq_iff_eq.2 e⟩
theorem zlF{P:List (List Int)}{x:Int}(h:zjR P x=false):∀ p∈P,hd p≠x:=fun p hp e=>by
 rw [zeV.2 ⟨p,hp,e⟩] at h
 cases h
theorem zrG(P:List (List Int))(q:List Int)(x:Int):zjR (P++[q]) x=(zjR P x || (hd q == x)):=by
 unfold zjR
 rw [List.any_append]
 simp
def mtS(q:List Int)(P:List (List Int))(x:Int):List (List Int):=if zjR P x=true then P else P++[q++[x]]
def mtL(q:List Int)(P:List (List Int))(l:List Int):List (List Int):=l.foldl (mtS q) P
theorem zm9(q:List Int)(P:List (List Int))(l:List Int)(x:Int):mtL q P (l++[x])=mtS q (mtL q P l) x:=by
 unfold mtL
 rw [List.foldl_append]
 rfl
theorem zyu(q:List Int)(P:List (List Int))(x:Int):∃ A,mtS q P x=P++A:=by
 unfold mtS
 split
 ·exact⟨[],by simp⟩
 ·exact⟨_,rfl⟩
theorem zed(q:List Int):∀ (l:List Int) (P:List (List Int)),∃ A,mtL q P l=P++A
 | [],P=>⟨[],by simp [mtL]⟩
 | x :: l,P=>by
  obtain⟨A,hA⟩:=zyu q P x
  obtain⟨B,hB⟩:=zed q l (mtS q P x)
  refine⟨A++B,?_⟩
  show mtL q (mtS q P x) l=_
  rw [hB,hA,List.append_assoc]
def nwH(q:List Int)(P:List (List Int))(l:List Int):List Int:=((mtL q P l).drop P.length).map hd
theorem zlw(q:List Int)(P:List (List Int))(l:List Int):P.map hd++nwH q P l=(mtL q P l).map hd:=by
 unfold nwH
 obtain⟨A,hA⟩:=zed q l P
 rw [hA,List.drop_left,List.map_append]
theorem zuM(q:List Int)(P:List (List Int))(l:List Int)(x:Int):nwH q P (l++[x])=if zjR (mtL q P l) x=true then nwH q P l else nwH q P l++[x]:=by
 unfold nwH
 rw [zm9]
 unfold mtS
 obtain⟨A,hA⟩:=zed q l P
 split
 ·rfl
 ·rw [hA,List.append_assoc,List.drop_left,List.drop_left,List.map_append]
  simp [zbC]
theorem zyg(q:List Int)(P:List (List Int))(l:List Int):(nwH q P l).length+P.length=(mtL q P l).length:=by
 have:=congrArg List.length (zlw q P l)
 rw [List.length_append,List.length_map,List.length_map] at this
 omega
def srt(l:List Int):List Int:=l.mergeSort (fun x y=>decide (x<=y))
theorem zcZ{l:List Int}{x:Int}:x∈srt l ↔ x∈l:=by unfold srt;exact List.mem_mergeSort
theorem zk0(l:List Int):(srt l).length=l.length:=by unfold srt;rw [List.length_mergeSort]
theorem zmJ(l:List Int):(srt l).Pairwise (·<=·):=by
 have:=List.pairwise_mergeSort (le:=fun x y:Int=>decide (x<=y)) (fun a b c h1 h2=>by simp at *;omega) (fun a b=>by simp;omega) l
 unfold srt
 exact this.imp (fun h=>by simpa using h)
def bfP(roots:List Int)(refs:Int->List Int):Nat->List (List Int)
 | 0=>mtL [] [] (srt roots)
 | i+1=>match (bfP roots refs i)[i]? with
  | some q=>mtL q (bfP roots refs i) (srt (refs (hd q)))
  | none=>bfP roots refs i
theorem znP{roots:List Int}{refs:Int->List Int}{i:Nat}{q:List Int}(h:(bfP roots refs i)[i]?=some q):bfP roots refs (i+1)=mtL q (bfP roots refs i) (srt (refs (hd q))):=by
 show(match (bfP roots refs i)[i]? with | some q=>_ | none=>_)=_
 rw [h]
theorem znQ{roots:List Int}{refs:Int->List Int}{i:Nat}(h:(bfP roots refs i).length<=i):bfP roots refs (i+1)=bfP roots refs i:=by
 show(match (bfP roots refs i)[i]? with | some q=>_ | none=>_)=_
 rw [List.getElem?_eq_none h]
theorem znR{roots:List Int}{refs:Int->List Int}{i:Nat}(h:(bfP roots refs i).length<=i):∀ j,i<=j->bfP roots refs j=bfP roots refs i
 | 0,hj=>by rw [show i=0 by omega]
 | j+1,hj=>by
  by_cases e:i=j+1
  ·rw [e]
  ·have:=znR h j (by omega)
   rw [znQ (by rw [this];omega),this]
structure Bf (roots:List Int) (refs:Int->List Int) (P:List (List Int)) (i:Nat):Prop where
 way:∀ p∈P,Way roots refs p (hd p)
 rise:P.Pairwise (fun a b=>rk a<rk b)
 one:(P.map hd).Nodup
 orig:∀ p∈P,p.dropLast=[]\/∃ j,j<i/\P[j]?=some p.dropLast
 root:∀ r∈roots,∃ p∈P,hd p=r/\rk p<=rk [r]
 next:∀ j,j<i->∀ q,P[j]?=some q->∀ x∈refs (hd q),∃ p∈P,hd p=x/\rk p<=rk (q++[x])
theorem zeU(q:List Int):∀ (l:List Int) (P:List (List Int)),Dg l->l.Pairwise (·<=·)->P.Pairwise (fun a b=>rk a<rk b)->(P.map hd).Nodup ->
  (∀ p∈P,rk p<=rk q * 41\/∃ y,p=q++[y]/\1<=y/\∀ x∈l,y<=x) ->
  (mtL q P l).Pairwise (fun a b=>rk a<rk b)/\((mtL q P l).map hd).Nodup/\(∀ p∈mtL q P l,p∈P\/∃ x∈l,p=q++[x])/\(∀ x∈l,∃ p∈mtL q P l,hd p=x/\rk p<=rk (q++[x]))
 | [],P,_,_,h1,h2,_=>⟨h1,h2,fun p hp=>.inl hp,fun x hx=>by cases hx⟩
 | x :: l,P,hd1,hs,h1,h2,h3=>by
  have hx:=hd1 x (by simp)
  have hsx:=List.pairwise_cons.1 hs
  have hrx:rk (q++[x])=rk q * 41+x.toNat:=zbZ q x
  show(mtL q (mtS q P x) l).Pairwise _/\_
  have hle:∀ p∈P,rk p<=rk (q++[x]):=fun p hp=>by
   rcases h3 p hp with h | ⟨y,rfl,hy1,hy⟩
   ·omega
   ·have:=hy x (by simp)
    rw [zbZ,zbZ];omega
  cases hm:zjR P x with
  | true =>
   have e:mtS q P x=P:=by unfold mtS;rw [if_pos hm]
   have e2:mtL q P (x :: l)=mtL q P l:=by show mtL q (mtS q P x) l=_;rw [e]
   obtain⟨a,b,c,d⟩:=zeU q l P hd1.tail hsx.2 h1 h2 (fun p hp=>by
    rcases h3 p hp with h | ⟨y,e,hy1,hy⟩
    ·exact .inl h
    ·exact .inr ⟨y,e,hy1,fun z hz=>hy z (by simp [hz])⟩)
   rw [e,e2]
   refine⟨a,b,fun p hp=>?_,fun z hz=>?_⟩
   ·rcases c p hp with h | ⟨z,hz,h⟩
    ·exact .inl h
    ·exact .inr ⟨z,by simp [hz],h⟩
   ·rcases List.mem_cons.1 hz with rfl | hz
    ·obtain⟨p,hp,hpe⟩:=zeV.1 hm
     obtain⟨A,hA⟩:=zed q l P
     exact⟨p,by rw [hA];exact List.mem_append.2 (.inl hp),hpe,hle p hp⟩
    ·exact d z hz
  | false =>
   have e:mtS q P x=P++[q++[x]]:=by unfold mtS;rw [hm];rfl
   have e2:mtL q P (x :: l)=mtL q (P++[q++[x]]) l:=by show mtL q (mtS q P x) l=_;rw [e]
   have hno:=zlF hm
   have hlt:∀ p∈P,rk p<rk (q++[x]):=fun p hp=>by
    rcases h3 p hp with h | ⟨y,rfl,hy1,hy⟩
    ·omega
    ·have h4:=hy x (by simp)
     have h5:=hno _ hp
     rw [zbC] at h5
     rw [zbZ,zbZ];omega
   obtain⟨a,b,c,d⟩:=zeU q l (P++[q++[x]]) hd1.tail hsx.2
    (List.pairwise_append.2 ⟨h1,by simp,fun p hp r hr=>by rw [List.mem_singleton.1 hr];exact hlt p hp⟩)
    (by
     rw [List.map_append,List.nodup_append]
     refine⟨h2,by simp,fun u hu v hv=>?_⟩
     obtain⟨p,hp,rfl⟩:=List.mem_map.1 hu
     simp [zbC] at hv
     rw [hv]
     exact hno p hp)
    (fun p hp=>by
     rcases List.mem_append.1 hp with hp | hp
     ·rcases h3 p hp with h | ⟨y,e,hy1,hy⟩
      ·exact .inl h
      ·exact .inr ⟨y,e,hy1,fun z hz=>hy z (by simp [hz])⟩
     ·rw [List.mem_singleton.1 hp]
      exact .inr ⟨x,rfl,hx.1,fun z hz=>hsx.1 z hz⟩)
   rw [e,e2]
   refine⟨a,b,fun p hp=>?_,fun z hz=>?_⟩
   ·rcases c p hp with h | ⟨z,hz,h⟩
    ·rcases List.mem_append.1 h with h | h
     ·exact .inl h
     ·rw [List.mem_singleton.1 h];exact .inr ⟨x,by simp,rfl⟩
    ·exact .inr ⟨z,by simp [hz],h⟩
   ·rcases List.mem_cons.1 hz with rfl | hz
    ·obtain⟨A,hA⟩:=zed q l (P++[q++[z]])
     exact⟨q++[z],by rw [hA];simp,zbC q z,Nat.le_refl _⟩
    ·exact d z hz
theorem zb4{k:Nat}{h:Int}:h∈(List.range k).map (fun j:Nat=>(j:Int)+1) ↔ 1<=h/\h<=k:=by
 rw [List.mem_map]
 constructor
 ·rintro ⟨j,hj,rfl⟩
  have:=List.mem_range.1 hj
  omega
 ·rintro ⟨h1,h2⟩
  exact⟨(h-1).toNat,List.mem_range.2 (by omega),by omega⟩
section
variable {roots:List Int} {refs:Int->List Int}
theorem zwd(hr:Dg roots):Bf roots refs (bfP roots refs 0) 0:=by
 obtain⟨a,b,c,d⟩:=zeU [] (srt roots) [] (fun x hx=>hr x (zcZ.1 hx)) (zmJ roots) (by simp) (by simp) (fun p hp=>by cases hp)
 refine⟨fun p hp=>?_,a,b,fun p hp=>?_,fun r hm=>?_,fun j hj=>absurd hj (Nat.not_lt_zero j)⟩
 ·rcases c p hp with h | ⟨x,hx,rfl⟩
  ·cases h
  ·rw [zbC];exact .root (zcZ.1 hx)
 ·rcases c p hp with h | ⟨x,hx,rfl⟩
  ·cases h
  ·exact .inl rfl
 ·exact d r (zcZ.2 hm)
theorem Bf.step(hr:Dg roots)(hf:∀ g,Dg (refs g)){P:List (List Int)}{i:Nat}(h:Bf roots refs P i){q:List Int}(hq:P[i]?=some q):Bf roots refs (mtL q P (srt (refs (hd q)))) (i+1):=by
 have hqm:=List.mem_of_getElem? hq
 have hqi:=(List.getElem?_eq_some_iff.1 hq).1
 have hqw:=h.way q hqm
 have hqd:=hqw.dg hr hf
 have hq1:1<=rk q:=by
  have:=zAr hqd.1 hqd.2.2.2
  have h2:0<41 ^ (q.length-1):=Nat.pow_pos (by decide)
  omega
 have hbig:∀ p∈P,rk p<=rk q * 41:=fun p hp=>by
  have hpd:=(h.way p hp).dg hr hf
  obtain⟨p0,x,rfl⟩:∃ p0 x,p=p0++[x]:=⟨p.dropLast,p.getLast hpd.2.2.2,(List.dropLast_concat_getLast hpd.2.2.2).symm⟩
  have hxb:=hpd.1 x (by simp)
  rw [zbZ]
  rcases h.orig _ hp with e | ⟨j,hj,e⟩
  ·rw [List.dropLast_concat] at e
   subst e
   have:rk ([]:List Int)=0:=rfl
   omega
  ·rw [List.dropLast_concat] at e
   have hlt:rk p0<rk q:=by
    obtain⟨hj2,e2⟩:=List.getElem?_eq_some_iff.1 e
    obtain⟨hi2,e3⟩:=List.getElem?_eq_some_iff.1 hq
    have:=List.pairwise_iff_getElem.1 h.rise j i hj2 hi2 hj
    rw [e2,e3] at this
    exact this
   omega
 obtain⟨a,b,c,d⟩:=zeU q (srt (refs (hd q))) P (fun x hx=>hf _ x (zcZ.1 hx)) (zmJ _) h.rise h.one (fun p hp=>.inl (hbig p hp))
 obtain⟨A,hA⟩:=zed q (srt (refs (hd q))) P
 have hsub:∀ p∈P,p∈mtL q P (srt (refs (hd q))):=fun p hp=>by rw [hA];exact List.mem_append.2 (.inl hp)
 have hat:∀ j,j<P.length->(mtL q P (srt (refs (hd q))))[j]?=P[j]?:=fun j hj=>by rw [hA,List.getElem?_append_left hj]
 refine⟨fun p hp=>?_,a,b,fun p hp=>?_,fun r hm=>?_,fun j hj q' hq' x hx=>?_⟩
 ·rcases c p hp with hp | ⟨x,hx,rfl⟩
  ·exact h.way p hp
  ·rw [zbC];exact .step hqw (zcZ.1 hx)
 ·rcases c p hp with hp | ⟨x,hx,rfl⟩
  ·rcases h.orig p hp with e | ⟨j,hj,e⟩
   ·exact .inl e
   ·exact .inr ⟨j,by omega,(hat j (List.getElem?_eq_some_iff.1 e).1).trans e⟩
  ·rw [List.dropLast_concat]
   exact .inr ⟨i,by omega,(hat i hqi).trans hq⟩
 ·obtain⟨p,hp,h1,h2⟩:=h.root r hm
  exact⟨p,hsub p hp,h1,h2⟩
 ·by_cases e:j=i
  ·subst e
   rw [hat j hqi,hq] at hq'
   obtain rfl:=Option.some.inj hq'
   exact d x (zcZ.2 hx)
  ·rw [hat j (by omega)] at hq'
   obtain⟨p,hp,h1,h2⟩:=h.next j (by omega) q' hq' x hx
   exact⟨p,hsub p hp,h1,h2⟩
theorem zzk(hr:Dg roots)(hf:∀ g,Dg (refs g)):∀ i,i<=(bfP roots refs i).length\/(bfP roots refs i).length<=i->Bf roots refs (bfP roots refs i) i:=by
 intro i _
 induction i with
 | zero=>exact zwd hr
 | succ i ih =>
  have hi:=ih (by omega)
  by_cases hl:i<(bfP roots refs i).length
  ·rw [znP (List.getElem?_eq_getElem hl)]
   exact hi.step hr hf (List.getElem?_eq_getElem hl)
  ·rw [znQ (by omega)]
   exact⟨hi.way,hi.rise,hi.one,fun p hp=>by
    rcases hi.orig p hp with e | ⟨j,hj,e⟩
    ·exact .inl e
    ·exact .inr ⟨j,by omega,e⟩,hi.root,fun j hj q hq=>by
    have:=(List.getElem?_eq_some_iff.1 hq).1
    exact hi.next j (by omega) q hq⟩
theorem Bf.len(hr:Dg roots)(hf:∀ g,Dg (refs g)){P:List (List Int)}{i:Nat}(h:Bf roots refs P i):P.length<=40:=by
 have hsub:∀ x∈P.map hd,x∈(List.range 40).map (fun j:Nat=>(j:Int)+1):=fun x hx=>by
  obtain⟨p,hp,rfl⟩:=List.mem_map.1 hx
  have:=(h.way p hp).dg hr hf
  exact zb4.2 ⟨this.2.1,this.2.2.1⟩
 have key:∀ (a b:List Int),a.Nodup->(∀ x∈a,x∈b)->a.length<=b.length:=by
  intro a
  induction a with
  | nil=>intro b _ _;simp
  | cons x a ih =>
   intro b hn hs
   have hx:=hs x (by simp)
   have h2:=ih (b.erase x) (List.nodup_cons.1 hn).2 (fun y hy=>(List.mem_erase_of_ne (fun e=>(List.nodup_cons.1 hn).1 (by rw [<- e];exact hy))).2 (hs y (by simp [hy])))
   rw [List.length_erase_of_mem hx] at h2
   have:0<b.length:=List.length_pos_of_mem hx
   rw [List.length_cons]
   omega
 have:=key _ _ h.one hsub
 rw [List.length_map,List.length_map,List.length_range] at this
 exact this
def wyF(P:List (List Int))(x:Int):List Int:=(P.find? (fun p=>hd p == x)).getD []
theorem Bf.uniq{P:List (List Int)}{i:Nat}(h:Bf roots refs P i):∀ p∈P,∀ p'∈P,hd p=hd p'->p=p':=fun p hp p' hp' e=>by
 obtain⟨j,hj,rfl⟩:=List.getElem_of_mem hp
 obtain⟨k,hk,rfl⟩:=List.getElem_of_mem hp'
 have hn:=h.one
 have:j=k:=by
  have hp:=List.pairwise_iff_getElem.1 hn
  rcases Nat.lt_trichotomy j k with h | h | h
  ·exact absurd (by rw [List.getElem_map,List.getElem_map];exact e) (hp j k (by simpa using hj) (by simpa using hk) h)
  ·exact h
  ·exact absurd (by rw [List.getElem_map,List.getElem_map];exact e.symm) (hp k j (by simpa using hk) (by simpa using hj) h)
 subst this
 rfl
theorem Bf.still(hr:Dg roots)(hf:∀ g,Dg (refs g)){P:List (List Int)}{i:Nat}(h:Bf roots refs P i)(hi:P.length<=i):Still roots refs (wyF P):=by
 have huniq:=h.uniq
 show Still roots refs (fun x=>(P.find? (fun p=>hd p == x)).getD [])
 have hget:∀ p∈P,(P.find? (fun r=>hd r == hd p)).getD []=p:=fun p hp=>by
  cases hc:P.find? (fun r=>hd r == hd p) with
  | none=>exact absurd (List.find?_eq_none.1 hc p hp) (by simp)
  | some r =>
   have h1:=List.mem_of_find?_eq_some hc
   have h2:=List.find?_some hc
   rw [beq_iff_eq] at h2
   exact huniq r h1 p hp h2
 have hnn:∀ p∈P,p≠[]:=fun p hp=>((h.way p hp).dg hr hf).2.2.2
 have hfrom:∀ x,(P.find? (fun p=>hd p == x)).getD []≠[]->∃ p∈P,hd p=x/\(P.find? (fun p=>hd p == x)).getD []=p:=fun x hx=>by
  cases hc:P.find? (fun r=>hd r == x) with
  | none=>rw [hc] at hx;exact absurd rfl hx
  | some r =>
   have h2:=List.find?_some hc
   rw [beq_iff_eq] at h2
   exact⟨r,List.mem_of_find?_eq_some hc,h2,rfl⟩
 refine⟨fun r hm=>?_,fun g hg x hx=>?_,fun g hg=>?_⟩
 ·obtain⟨p,hp,rfl,h2⟩:=h.root r hm
  show(P.find? (fun p'=>hd p' == hd p)).getD []≠[]/\rk ((P.find? (fun p'=>hd p' == hd p)).getD [])<=_
  rw [hget p hp]
  exact⟨hnn p hp,h2⟩
 ·obtain⟨p,hp,rfl,e⟩:=hfrom g hg
  rw [e]
  obtain⟨j,hj,e2⟩:=List.getElem_of_mem hp
  obtain⟨p',hp',rfl,h2⟩:=h.next j (by omega) p (by rw [<- e2];exact List.getElem?_eq_getElem hj) x hx
  rw [hget p' hp']
  exact⟨hnn p' hp',h2⟩
 ·obtain⟨p,hp,rfl,e⟩:=hfrom g hg
  rw [e]
  exact h.way p hp
end
end Go.Proofs.YtchmlnmhbfaclaaGreatDoor
namespace Go.Proofs.YtchmlnmhbfaclaaGreatDoor
open Go.RowKit
set_option linter.unusedVariables false
def qB(L:List Int)(acc:List Int)(x:Int):List Int:=if zO L x≠0 then acc else if acc.any (fun y=>y == x)=true then acc else acc++[x]
def zgx(L l:List Int)(k:Nat):List Int:=(l.take k).foldl (qB L) []
def QY(L:List Int)(h:Int):List Int:=zgx L (zP L h).2 (zP L h).1.toNat
theorem zjA{L l:List Int}{k:Nat}(hk:k<l.length):zgx L l (k+1)=qB L (zgx L l k) (l.getD k 0):=by
 unfold zgx
 rw [List.take_succ_eq_append_getElem hk,List.foldl_append]
 simp [List.getD,hk]
theorem zln(L acc:List Int)(x:Int):(qB L acc x).length<=acc.length+1:=by
 unfold qB
 split
 ·omega
 ·split
  ·omega
  ·simp
theorem zmU(L l:List Int):∀ k,(zgx L l k).length<=k:=by
 intro k
 induction k with
 | zero=>simp [zgx]
 | succ k ih =>
  by_cases hk:k<l.length
  ·rw [zjA hk]
   exact Nat.le_trans (zln _ _ _) (by omega)
  ·have:zgx L l (k+1)=zgx L l k:=by unfold zgx;rw [List.take_of_length_le (by omega),List.take_of_length_le (by omega)]
   rw [this]
   omega
section
variable {roots:List Int} {refs:Int->List Int}
def wyO(roots:List Int)(refs:Int->List Int):Int->List Int:=wyF (bfP roots refs 40)
theorem zaV(hr:Dg roots)(hf:∀ g,Dg (refs g)):Still roots refs (wyO roots refs):=by
 have h:=zzk hr hf 40 (Nat.le_total _ _)
 exact h.still hr hf (h.len hr hf)
theorem Still.eq(hr:Dg roots)(hf:∀ g,Dg (refs g)){V:Int->List Int}(s:Still roots refs V)(h:Int):V h=wyO roots refs h:=s.one hr hf (zaV hr hf) h
theorem Way.steps{p:List Int}{h:Int}(w:Way roots refs p h):p≠[]/\p.getD 0 0∈roots/\p.getD (p.length-1) 0=h/\∀ j,1<=j->j<p.length->p.getD j 0∈refs (p.getD (j-1) 0):=by
 refine w.ind (fun p h=>p≠[]/\p.getD 0 0∈roots/\p.getD (p.length-1) 0=h/\∀ j,1<=j->j<p.length->p.getD j 0∈refs (p.getD (j-1) 0)) (fun r hm=>⟨by simp,hm,rfl,fun j h1 h2=>by simp at h2;omega⟩) (fun q g x w hx ih=>?_)
 ·obtain⟨i1,i2,i3,i4⟩:=ih
  have hq:0<q.length:=List.length_pos_iff.2 i1
  have at1:∀ j,j<q.length->(q++[x]).getD j 0=q.getD j 0:=fun j hj=>by simp [List.getD,List.getElem?_append_left hj]
  have at2:(q++[x]).getD q.length 0=x:=by simp [List.getD]
  refine⟨by simp,by rw [at1 0 hq];exact i2,by rw [List.length_append];exact at2,fun j h1 h2=>?_⟩
  rw [List.length_append,List.length_singleton] at h2
  by_cases e:j=q.length
  ·subst e
   rw [at2,at1 _ (by omega),i3]
   exact hx
  ·rw [at1 j (by omega),at1 (j-1) (by omega)]
   exact i4 j h1 (by omega)
theorem Way.all(hr:Dg roots)(hf:∀ g,Dg (refs g)){p:List Int}{h:Int}(w:Way roots refs p h):wyO roots refs h≠[]:=((zaV hr hf).least w).1
end
def rtH(L:List Int):List Int:=(zk L 8).map (·.2)
theorem zaw{L:List Int}(hf:Fine L):Dg (rtH L):=fun x hx=>by
 obtain⟨r,hr,rfl⟩:=List.mem_map.1 hx
 exact(zgt hf.ok).pos r hr
theorem zsA{L:List Int}:∀ (l acc:List Int),(∀ x∈acc,zO L x=0)->∀ x∈l.foldl (qB L) acc,zO L x=0
 | [],acc,h=>h
 | y :: l,acc,h=>by
  refine zsA l (qB L acc y) (fun x hx=>?_)
  unfold qB at hx
  by_cases hc:zO L y=0
  ·rw [if_neg (fun h=>h hc)] at hx
   split at hx
   ·exact h x hx
   ·rcases List.mem_append.1 hx with hx | hx
    ·exact h x hx
    ·rw [List.mem_singleton.1 hx];exact hc
  ·rw [if_pos hc] at hx;exact h x hx
theorem zmS{L:List Int}{h x:Int}(hx:x∈QY L h):zO L x=0:=zsA _ [] (fun x hx=>by cases hx) x hx
theorem qW(L:List Int)(h:Int):Dg (QY L h):=fun x hx=>zm.1 (zq.1 (zmS hx)).2.1
def wyL(L:List Int)(h:Int):List Int:=wyO (rtH L) (QY L) h
def lvB(L:List Int)(h:Int):Bool:=decide (wyL L h≠[])
def ddK(L:List Int)(k:Nat):List Int:=((List.range k).map (fun j:Nat=>(j:Int)+1)).filter fun h=>decide (zg L h≠0) && !lvB L h
theorem zde{L:List Int}(hf:Fine L):Still (rtH L) (QY L) (wyL L):=zaV (zaw hf) (qW L)
theorem zfb{L:List Int}(hf:Fine L){h:Int}(hn:wyL L h≠[]):zO L h=0:=by
 have s:=zde hf
 have w:=s.way h hn
 rcases w.parts with hm | ⟨q,g,_,hx⟩
 ·obtain⟨r,hr,rfl⟩:=List.mem_map.1 hm
  obtain⟨i,hi,hq,e⟩:=Qc.1 hr
  obtain⟨o1,o2,o3⟩:=zeZ hf hi hq
  have er:r.2=(rowAt L i).getD 10 0:=by rw [<- e];rfl
  rw [er]
  exact zq.2 ⟨hf.len0,zm.2 ⟨o1,o2⟩,o3⟩
 ·exact zmS hx
theorem zfO{L:List Int}{k:Nat}{h:Int}:h∈ddK L k ↔ (1<=h/\h<=k)/\zg L h≠0/\wyL L h=[]:=by
 unfold ddK lvB
 rw [List.mem_filter,zb4,Bool.and_eq_true,decide_eq_true_iff,Bool.not_eq_true',decide_eq_false_iff_not,Decidable.not_not]
section
variable {roots:List Int} {refs:Int->List Int}
theorem Bf.least(hr:Dg roots)(hf:∀ g,Dg (refs g)){P:List (List Int)}{i:Nat}(h:Bf roots refs P i)(hi:P.length<=i):(∀ p∈P,wyO roots refs (hd p)=p)/\∀ x,wyO roots refs x≠[]->wyO roots refs x∈P:=by
 have huniq:=h.uniq
 have hst:=h.still hr hf hi
 have heq:=fun x=>hst.eq hr hf x
 refine⟨fun p hp=>?_,fun x hx=>?_⟩
 ·rw [<- heq (hd p)]
  unfold wyF
  cases hc:P.find? (fun r=>hd r == hd p) with
  | none=>exact absurd (List.find?_eq_none.1 hc p hp) (by simp)
  | some r =>
   have h2:=List.find?_some hc
   rw [beq_iff_eq] at h2
   exact huniq r (List.mem_of_find?_eq_some hc) p hp h2
 ·rw [<- heq x] at hx ⊢
  unfold wyF at hx ⊢
  cases hc:P.find? (fun r=>hd r == x) with
  | none=>rw [hc] at hx;exact absurd rfl hx
  | some r=>exact List.mem_of_find?_eq_some hc
def bfA(roots:List Int)(refs:Int->List Int):List (List Int):=bfP roots refs 40
theorem zBS{i:Nat}(hi:i<=40)(hl:(bfP roots refs i).length<=i):bfP roots refs i=bfA roots refs:=(znR hl 40 hi).symm
theorem zcK(hr:Dg roots)(hf:∀ g,Dg (refs g)):(∀ p∈bfA roots refs,wyO roots refs (hd p)=p)/\(∀ x,wyO roots refs x≠[]->wyO roots refs x∈bfA roots refs)/\((bfA roots refs).map hd).Nodup/\(bfA roots refs).length<=40/\∀ p∈bfA roots refs,p≠[]/\(p.dropLast=[]\/p.dropLast∈bfA roots refs):=by
 have h:=zzk hr hf 40 (Nat.le_total _ _)
 have hl:=h.len hr hf
 obtain⟨a,b⟩:=h.least hr hf hl
 refine⟨a,b,h.one,hl,fun p hp=>⟨((h.way p hp).dg hr hf).2.2.2,?_⟩⟩
 rcases h.orig p hp with e | ⟨j,_,e⟩
 ·exact .inl e
 ·exact .inr (List.mem_of_getElem? e)
theorem zzo(hr:Dg roots)(hf:∀ g,Dg (refs g))(x:Int):zjR (bfA roots refs) x=decide (wyO roots refs x≠[]):=by
 obtain⟨a,b,_,_,c⟩:=zcK hr hf
 rw [Bool.eq_iff_iff,zeV,decide_eq_true_iff]
 constructor
 ·rintro ⟨p,hp,rfl⟩
  rw [a p hp]
  exact(c p hp).1
 ·intro hx
  have hm:=b x hx
  refine⟨_,hm,?_⟩
  have hw:=(zaV hr hf).way x hx
  have:=hw.steps.2.2.1
  unfold hd
  rw [List.getLastD_eq_getLast?,List.getLast?_eq_getElem?]
  exact this
end
theorem zpU{L:List Int}(hf:Fine L){p:List Int}{x:Int}(w:Way (rtH L) (QY L) p x):zO L x=0:=zfb hf (w.all (zaw hf) (qW L))
def bfL(L:List Int):List (List Int):=bfA (rtH L) (QY L)
section
variable {L:List Int}
theorem zzm(hf:Fine L)(x:Int):zjR (bfL L) x=lvB L x:=by
 have:=zzo (zaw hf) (qW L) x
 exact this
end
theorem ziy(L:List Int)(k:Nat):(ddK L k).length<=k:=by
 unfold ddK
 exact Nat.le_trans (List.length_filter_le _ _) (by simp)
theorem zv2(L:List Int)(k:Nat):ddK L (k+1)=if zg L ((k:Int)+1)≠0/\lvB L ((k:Int)+1)=false then ddK L k++[(k:Int)+1] else ddK L k:=by
 unfold ddK
 rw [List.range_succ,List.map_append,List.filter_append]
 by_cases h:zg L ((k:Int)+1)≠0/\lvB L ((k:Int)+1)=false
 ·rw [if_pos h]
  simp [h.1,h.2]
 ·rw [if_neg h]
  by_cases h1:zg L ((k:Int)+1)=0
  ·simp [h1]
  ·have h2:lvB L ((k:Int)+1)=true:=by
    cases e:lvB L ((k:Int)+1) with
    | true=>rfl
    | false=>exact absurd ⟨h1,e⟩ h
   simp [h2]
theorem zrB(q:List Int):∀ (l:List Int) (P:List (List Int)),(mtL q P l).length<=P.length+l.length
 | [],P=>by simp [mtL]
 | x :: l,P=>by
  have h1:=zrB q l (mtS q P x)
  have h2:(mtS q P x).length<=P.length+1:=by
   unfold mtS
   split
   ·omega
   ·simp
  show(mtL q (mtS q P x) l).length<=_
  rw [List.length_cons]
  omega
def swL(L:List Int)(D:List Int):List Int:=D.foldl (fun b h=>qh b h) L
structure Swept (L c:List Int) (D:List Int):Prop where
 fine:Fine c
 len:c.length=L.length
 keep:∀ k,1<=k->k<=40->k ∉ D->zg c k=zg L k/\ze c k=ze L k
 gone:∀ k∈D,1<=k->k<=40->zg c k=0
 tail:∀ j,200<=j->c.getD j 0=L.getD j 0
theorem Swept.rows{L c D:List Int}(s:Swept L c D):∀ i,i<8->rowAt c i=rowAt L i:=fun i hi=>by
 have hl:=s.fine.len
 have hl2:=s.len
 apply zJ
 ·rw [zu (by omega),zu (by omega)]
 ·intro j hj
  rw [zu (by omega)] at hj
  rw [zF hj,zF hj]
  exact s.tail _ (by omega)
theorem Swept.refl{L:List Int}(hf:Fine L):Swept L L []:=⟨hf,rfl,fun _ _ _ _=>⟨rfl,rfl⟩,fun k hk=>(by cases hk),fun _ _=>rfl⟩
theorem Swept.more{L c D:List Int}(s:Swept L c D){h:Int}(hc:zO L h=0)(hn:h ∉ D)(hr:h ∉ rtH L):zO c h=0/\frE c h=0/\Swept L (qh c h) (D++[h]):=by
 obtain⟨q1,q2,q3⟩:=zq.1 hc
 have hh:=zm.1 q2
 obtain⟨k1,k2⟩:=s.keep h hh.1 hh.2 hn
 have hc2:zO c h=0:=zq.2 ⟨s.fine.len0,q2,by rw [k1];exact q3⟩
 have hno:∀ i,i<8->zj (rowAt c i)=true->(rowAt c i).getD 10 0≠h:=fun i hi hq e=>by
  rw [s.rows i hi] at hq e
  exact hr (List.mem_map.2 ⟨_,Zq hi hq,e⟩)
 obtain⟨f,fo,fs,fl,ft⟩:=zcg s.fine hc2 hno
 refine⟨hc2,zcF.2 ⟨hc2,List.any_eq_false.2 (fun r hrm=>?_)⟩,f,fl.trans s.len,fun k h1 h2 hk=>?_,fun k hk=>?_,fun j hj=>(ft j hj).trans (s.tail j hj)⟩
 ·obtain⟨i,hi,hq,rfl⟩:=Qc.1 hrm
  rw [beq_iff_eq]
  exact hno i hi hq
 ·have hk1:k ∉ D:=fun hm=>hk (List.mem_append.2 (.inl hm))
  have hk2:k≠h:=fun e=>hk (List.mem_append.2 (.inr (by rw [e];simp)))
  obtain⟨a1,a2⟩:=fo k h1 h2 hk2
  obtain⟨b1,b2⟩:=s.keep k h1 h2 hk1
  exact⟨a1.trans b1,a2.trans b2⟩
 ·intro k1 k2
  by_cases e:k=h
  ·subst e;exact fs
  ·rcases List.mem_append.1 hk with hk | hk
   ·rw [(fo k k1 k2 e).1];exact s.gone k hk k1 k2
   ·exact absurd (List.mem_singleton.1 hk) e
theorem zhD{L:List Int}(hf:Fine L):∀ (D E:List Int),(E++D).Nodup->(∀ h∈E++D,zO L h=0/\h ∉ rtH L)->∀ c,Swept L c E->Swept L (swL c D) (E++D)
 | [],E,_,_,c,s=>by rw [List.append_nil];exact s
 | h :: D,E,hn,hall,c,s=>by
  have hh:=hall h (by simp)
  have hnE:h ∉ E:=fun hm=>by
   rw [List.nodup_append] at hn
   exact hn.2.2 h hm h (by simp) rfl
  have s2:=(s.more hh.1 hnE hh.2).2.2
  have e:E++h :: D=E++[h]++D:=by simp
  rw [e] at hn hall ⊢
  exact zhD hf D (E++[h]) hn hall (qh c h) s2
section
variable {L c:List Int}
theorem zl8(hf:Fine L):(ddK L 40).Nodup/\∀ h∈ddK L 40,zO L h=0/\h ∉ rtH L:=by
 refine⟨?_,fun h hh=>?_⟩
 ·unfold ddK
  exact List.Pairwise.filter _ (List.pairwise_map.2 (List.nodup_range.imp (fun hne e=>hne (by omega))))
 ·obtain⟨⟨h1,h2⟩,ht,hw⟩:=zfO.1 hh
  refine⟨zq.2 ⟨hf.len0,zm.2 ⟨h1,h2⟩,ht⟩,fun hm=>?_⟩
  exact((zde hf).base h hm).1 hw
theorem zbn(hf:Fine L):Swept L (swL L (ddK L 40)) (ddK L 40):=by
 obtain⟨h1,h2⟩:=zl8 hf
 have:=zhD hf (ddK L 40) [] (by simpa using h1) (by simpa using h2) L (Swept.refl hf)
 simpa using this
end
end Go.Proofs.YtchmlnmhbfaclaaGreatDoor
