/-
  Parts of the proofs, joined by program.
-/
import Derived.Test.YtchmlnmhbfaclaaGreatDoorJImp
namespace Go.Proofs.YtchmlnmhbfaclaaGreatDoor
open Go.RowKit
set_option linter.unusedVariables false
def zbH(c:(Int×List Int×List Int)):Int:=c.1+c.2.1.length
def ziC(l:List (Int×List Int×List Int))(i:Nat)(x y:Int):List (Int×List Int×List Int) :=
 match l.getLast? with
 | some c=>if zbH c=i then l.dropLast++[(c.1,c.2.1++[x],c.2.2++[y])] else l++[((i:Int),[x],[y])]
 | none=>[((i:Int),[x],[y])]
def dfK(a b:List Int):Nat->List (Int×List Int×List Int)
 | 0=>[]
 | i+1=>if a.getD i 0=b.getD i 0 then dfK a b i else ziC (dfK a b i) i (a.getD i 0) (b.getD i 0)
def ZJ(a b:List Int)(p n:Nat):(Int×List Int×List Int):=((p:Int),(a.drop p).take n,(b.drop p).take n)
structure Df (a b:List Int) (i:Nat) (l:List (Int×List Int×List Int)):Prop where
 all:∀ c∈l,∃ p n:Nat,c=ZJ a b p n/\1<=n/\p+n<=i/\∀ k,p<=k->k<p+n->a.getD k 0≠b.getD k 0
 gap:l.Pairwise (fun c d=>zbH c<d.1)
 cov:∀ k,k<i->a.getD k 0≠b.getD k 0->∃ c∈l,c.1<=k/\(k:Int)<zbH c
theorem Qz{a b:List Int}{p n:Nat}(h:p+n<=a.length):zbH (ZJ a b p n)=((p+n:Nat):Int):=by
 unfold zbH ZJ
 dsimp only
 rw [List.length_take,List.length_drop]
 omega
theorem ZD{a:List Int}{p n:Nat}(h:p+n<a.length):(a.drop p).take n++[a.getD (p+n) 0]=(a.drop p).take (n+1):=by
 rw [List.take_add_one,List.getElem?_drop]
 have:a[p+n]?=some (a.getD (p+n) 0):=by simp [List.getD,h]
 rw [this]
 rfl
theorem zgd{a b:List Int}(hl:a.length=b.length):∀ i,i<=a.length->Df a b i (dfK a b i):=by
 intro i
 induction i with
 | zero=>intro _;exact⟨fun c hc=>(by cases hc),List.Pairwise.nil,fun k hk=>absurd hk (Nat.not_lt_zero k)⟩
 | succ i ih =>
  intro hi
  have h:=ih (by omega)
  show Df a b (i+1) (if a.getD i 0=b.getD i 0 then dfK a b i else ziC (dfK a b i) i (a.getD i 0) (b.getD i 0))
  generalize dfK a b i=l at h
  by_cases he:a.getD i 0=b.getD i 0
  ·rw [if_pos he]
   refine⟨fun c hc=>?_,h.gap,fun k hk hne=>?_⟩
   ·obtain⟨p,n,h1,h2,h3,h4⟩:=h.all c hc
    exact⟨p,n,h1,h2,by omega,h4⟩
   ·by_cases e:k=i
    ·subst e;exact absurd he hne
    ·exact h.cov k (by omega) hne
  ·rw [if_neg he]
   have hone:(((i:Int),[a.getD i 0],[b.getD i 0]):(Int×List Int×List Int))=ZJ a b i 1:=by
    unfold ZJ
    have e1:=ZD (a:=a) (p:=i) (n:=0) (by omega)
    have e2:=ZD (a:=b) (p:=i) (n:=0) (by omega)
    rw [List.take_zero,List.nil_append,Nat.add_zero] at e1 e2
    rw [<- e1,<- e2]
   have hnew:∀ l':List (Int×List Int×List Int),(∀ c∈l',∃ p n:Nat,c=ZJ a b p n/\1<=n/\p+n<=i/\∀ k,p<=k->k<p+n->a.getD k 0≠b.getD k 0)->l'.Pairwise (fun c d=>zbH c<d.1)->(∀ c∈l',zbH c<i)->(∀ k,k<i->a.getD k 0≠b.getD k 0->∃ c∈l',c.1<=k/\(k:Int)<zbH c)->Df a b (i+1) (l'++[((i:Int),[a.getD i 0],[b.getD i 0])]):=fun l' g1 g2 g3 g4=>by
    rw [hone]
    refine⟨fun c hc=>?_,?_,fun k hk hne=>?_⟩
    ·rcases List.mem_append.1 hc with hc | hc
     ·obtain⟨p,n,h1,h2,h3,h4⟩:=g1 c hc
      exact⟨p,n,h1,h2,by omega,h4⟩
     ·rw [List.mem_singleton.1 hc]
      exact⟨i,1,rfl,by omega,by omega,fun k h1 h2=>by rw [show k=i by omega];exact he⟩
    ·rw [List.pairwise_append]
     refine⟨g2,List.pairwise_singleton _ _,fun c hc d hd=>?_⟩
     rw [List.mem_singleton.1 hd]
     exact g3 c hc
    ·by_cases e:k=i
     ·subst e
      refine⟨ZJ a b k 1,by simp,?_,?_⟩
      ·exact Int.le_refl _
      ·rw [Qz (by omega)];omega
     ·obtain⟨c,hc,h5⟩:=g4 k (by omega) hne
      exact⟨c,by simp [hc],h5⟩
   unfold ziC
   cases hlast:l.getLast? with
   | none =>
    have:l=[]:=List.getLast?_eq_none_iff.1 hlast
    subst this
    exact hnew [] (fun c hc=>by cases hc) List.Pairwise.nil (fun c hc=>by cases hc) h.cov
   | some c =>
    obtain⟨l',rfl⟩:=List.getLast?_eq_some_iff.1 hlast
    dsimp only
    have hc:c∈l'++[c]:=by simp
    obtain⟨p,n,rfl,hn,hpn,hdf⟩:=h.all c hc
    have hend:=Qz (a:=a) (b:=b) (p:=p) (n:=n) (by omega)
    have hgap:=List.pairwise_append.1 h.gap
    by_cases hei:zbH (ZJ a b p n)=i
    ·rw [if_pos hei,List.dropLast_concat]
     have hpi:p+n=i:=by omega
     have hext:(((ZJ a b p n).1,(ZJ a b p n).2.1++[a.getD i 0],(ZJ a b p n).2.2++[b.getD i 0]):(Int×List Int×List Int))=ZJ a b p (n+1):=by
      unfold ZJ
      dsimp only
      rw [<- hpi,ZD (by omega),ZD (by omega)]
     rw [hext]
     refine⟨fun d hd=>?_,?_,fun k hk hne=>?_⟩
     ·rcases List.mem_append.1 hd with hd | hd
      ·obtain⟨q,m,h1,h2,h3,h4⟩:=h.all d (by simp [hd])
       exact⟨q,m,h1,h2,by omega,h4⟩
      ·rw [List.mem_singleton.1 hd]
       refine⟨p,n+1,rfl,by omega,by omega,fun k h1 h2=>?_⟩
       by_cases e:k=i
       ·subst e;exact he
       ·exact hdf k h1 (by omega)
     ·rw [List.pairwise_append]
      refine⟨hgap.1,List.pairwise_singleton _ _,fun d hd e hee=>?_⟩
      rw [List.mem_singleton.1 hee]
      exact hgap.2.2 d hd (ZJ a b p n) (List.mem_singleton.2 rfl)
     ·by_cases e:k=i
      ·subst e
       refine⟨ZJ a b p (n+1),by simp,?_,?_⟩
       ·show(p:Int)<=k;omega
       ·rw [Qz (by omega)];omega
      ·obtain⟨d,hd,h5,h6⟩:=h.cov k (by omega) hne
       rcases List.mem_append.1 hd with hd | hd
       ·exact⟨d,by simp [hd],h5,h6⟩
       ·rw [List.mem_singleton.1 hd] at h5 h6
        refine⟨ZJ a b p (n+1),by simp,h5,?_⟩
        rw [Qz (by omega)]
        rw [hend] at h6
        omega
    ·rw [if_neg hei]
     refine hnew (l'++[ZJ a b p n]) h.all h.gap (fun d hd=>?_) h.cov
     rcases List.mem_append.1 hd with hd | hd
     ·have h7:=hgap.2.2 d hd _ (List.mem_singleton.2 rfl)
      have h8:(ZJ a b p n).1=(p:Int):=rfl
      omega
     ·rw [List.mem_singleton.1 hd]
      omega
def pgE:List (Int×List Int×List Int)->Int
 | []=>0
 | c :: l=>if c.1<0\/6400<=c.1\/6400-c.1<c.2.2.length then 1 else pgE l
def touch(l:List (Int×List Int×List Int))(j:Nat):Bool:=l.any (fun c=>(List.range c.2.2.length).any (fun k=>(c.1.toNat+k) / 32 == j))
theorem zfj{l:List (Int×List Int×List Int)}{j:Nat}:touch l j=true ↔ ∃ c∈l,∃ k:Nat,k<c.2.2.length/\(c.1.toNat+k) / 32=j:=by
 unfold touch
 rw [List.any_eq_true]
 constructor
 ·rintro ⟨c,hc,h⟩
  obtain⟨k,hk,h⟩:=List.any_eq_true.1 h
  exact⟨c,hc,k,List.mem_range.1 hk,by simpa using h⟩
 ·rintro ⟨c,hc,k,hk,h⟩
  exact⟨c,hc,List.any_eq_true.2 ⟨k,List.mem_range.2 hk,by simpa using h⟩⟩
theorem zwI:∀ {l:List (Int×List Int×List Int)},(∀ c∈l,0<=c.1/\c.1<6400/\c.1+c.2.2.length<=6400)->pgE l=0
 | [],_=>rfl
 | c :: l,h=>by
  have h1:=h c (by simp)
  unfold pgE
  rw [if_neg (by omega)]
  exact zwI (fun d hd=>h d (by simp [hd]))
theorem zv1{a b:List Int}(hl:a.length=b.length)(h64:a.length<=6400):pgE (dfK a b a.length)=0/\∀ j:Nat,32 * j<a.length->(touch (dfK a b a.length) j=true ↔ (a.drop (32 * j)).take 32≠(b.drop (32 * j)).take 32):=by
 have h:=zgd hl a.length (Nat.le_refl _)
 have hlen:∀ p n:Nat,p+n<=a.length->(ZJ a b p n).2.2.length=n:=fun p n hpn=>by
  show((b.drop p).take n).length=n
  rw [List.length_take,List.length_drop];omega
 refine⟨zwI (fun c hc=>?_),fun j hj=>?_⟩
 ·obtain⟨p,n,rfl,h2,h3,h4⟩:=h.all c hc
  rw [hlen p n h3]
  show 0<=(p:Int)/\(p:Int)<6400/\(p:Int)+n<=6400
  omega
 ·rw [zfj]
  constructor
  ·rintro ⟨c,hc,k,hk,he⟩
   obtain⟨p,n,rfl,h2,h3,h4⟩:=h.all c hc
   rw [hlen p n h3] at hk
   have hpt:(ZJ a b p n).1.toNat=p:=Int.toNat_natCast p
   rw [hpt] at he
   intro e
   have hne:=h4 (p+k) (by omega) (by omega)
   obtain⟨i,hi⟩:∃ i,p+k=32 * j+i:=⟨p+k-32 * j,by omega⟩
   have hi32:i<32:=by omega
   have e2:=congrArg (fun l=>l.getD i 0) e
   simp only [List.getD,List.getElem?_take,if_pos hi32,List.getElem?_drop] at e2
   rw [hi] at hne
   exact hne e2
  ·intro hne
   refine Classical.byContradiction fun hno=>hne ?_
   apply zJ
   ·rw [List.length_take,List.length_take,List.length_drop,List.length_drop,hl]
   ·intro i hi
    rw [List.length_take,List.length_drop] at hi
    have hi32:i<32:=by omega
    have hiN:32 * j+i<a.length:=by omega
    simp only [List.getD,List.getElem?_take,if_pos hi32,List.getElem?_drop]
    refine Classical.byContradiction fun hd=>hno ?_
    obtain⟨c,hc,h5,h6⟩:=h.cov (32 * j+i) hiN hd
    obtain⟨p,n,rfl,h2,h3,h4⟩:=h.all c hc
    have e1:(ZJ a b p n).1=(p:Int):=rfl
    rw [Qz h3] at h6
    rw [e1] at h5
    refine⟨ZJ a b p n,hc,32 * j+i-p,by rw [hlen p n h3];omega,?_⟩
    have hpt:(ZJ a b p n).1.toNat=p:=Int.toNat_natCast p
    rw [hpt]
    omega
theorem ze5{a b:List Int}{i:Nat}:∀ {k:Nat},i<=k->(∀ j,i<=j->j<k->a.getD j 0=b.getD j 0)->dfK a b k=dfK a b i
 | 0,h,_=>by rw [Nat.le_zero.1 h]
 | k+1,h,hs=>by
  by_cases e:i=k+1
  ·rw [e]
  ·show(if a.getD k 0=b.getD k 0 then dfK a b k else _)=_
   rw [if_pos (hs k (by omega) (by omega))]
   exact ze5 (by omega) (fun j h1 h2=>hs j h1 (by omega))
theorem zs1{a b:List Int}(hl:a.length=b.length){p:Nat}(hp:p=0\/a.getD (p-1) 0=b.getD (p-1) 0):∀ n,1<=n->p+n<=a.length->(∀ j,p<=j->j<p+n->a.getD j 0≠b.getD j 0) ->
  dfK a b (p+n)=dfK a b p++[ZJ a b p n]
 | 0,h,_,_=>by omega
 | 1,_,hle,hd=>by
  show(if a.getD p 0=b.getD p 0 then _ else ziC (dfK a b p) p (a.getD p 0) (b.getD p 0))=_
  rw [if_neg (hd p (Nat.le_refl _) (by omega))]
  have h:=zgd hl p (by omega)
  have hone:(((p:Int),[a.getD p 0],[b.getD p 0]):(Int×List Int×List Int))=ZJ a b p 1:=by
   unfold ZJ
   have e1:=ZD (a:=a) (p:=p) (n:=0) (by omega)
   have e2:=ZD (a:=b) (p:=p) (n:=0) (by omega)
   rw [List.take_zero,List.nil_append,Nat.add_zero] at e1 e2
   rw [<- e1,<- e2]
  rw [hone.symm]
  generalize dfK a b p=l at h
  unfold ziC
  cases hlast:l.getLast? with
  | none=>rw [List.getLast?_eq_none_iff.1 hlast];rfl
  | some c =>
   dsimp only
   rw [if_neg]
   intro e
   have hc:c∈l:=List.mem_of_getLast? hlast
   obtain⟨q,m,rfl,hm,hqm,hdf⟩:=h.all c hc
   rw [Qz (by omega)] at e
   have:=hdf (p-1) (by omega) (by omega)
   rcases hp with hp | hp
   ·omega
   ·exact this hp
 | n+2,_,hle,hd=>by
  have ih:=zs1 hl hp (n+1) (by omega) (by omega) (fun j h1 h2=>hd j h1 (by omega))
  show(if a.getD (p+(n+1)) 0=b.getD (p+(n+1)) 0 then _ else ziC (dfK a b (p+(n+1))) (p+(n+1)) _ _)=_
  rw [if_neg (hd _ (by omega) (by omega)),ih]
  unfold ziC
  rw [List.getLast?_concat]
  dsimp only
  rw [if_pos (Qz (by omega)),List.dropLast_concat]
  congr 2
  unfold ZJ
  dsimp only
  have e1:=ZD (a:=a) (p:=p) (n:=n+1) (by omega)
  have e2:=ZD (a:=b) (p:=p) (n:=n+1) (by omega)
  show((p:Int),(a.drop p).take (n+1)++[a.getD (p+(n+1)) 0],(b.drop p).take (n+1)++[b.getD (p+(n+1)) 0])=_
  rw [e1,e2]
theorem zkv{a b:List Int}(hl:a.length=b.length):∀ i,i<=a.length->(dfK a b i).length<=i
 | 0,_=>Nat.le_refl _
 | i+1,h=>by
  have ih:=zkv hl i (by omega)
  show(if a.getD i 0=b.getD i 0 then dfK a b i else ziC (dfK a b i) i (a.getD i 0) (b.getD i 0)).length<=_
  by_cases e:a.getD i 0=b.getD i 0
  ·rw [if_pos e];omega
  ·rw [if_neg e]
   generalize dfK a b i=l at ih
   unfold ziC
   cases hlast:l.getLast? with
   | none=>simp
   | some c =>
    dsimp only
    by_cases e2:zbH c=i
    ·rw [if_pos e2,List.length_append,List.length_dropLast]
     simp only [List.length_cons,List.length_nil]
     omega
    ·rw [if_neg e2,List.length_append]
     simp only [List.length_cons,List.length_nil]
     omega
end Go.Proofs.YtchmlnmhbfaclaaGreatDoor
