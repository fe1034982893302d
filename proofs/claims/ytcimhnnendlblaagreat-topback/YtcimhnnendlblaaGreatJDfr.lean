/-
  Parts of the proofs.
-/
import Derived.Test.YtcimhnnendlblaaGreatJIm
import Derived.Deep.AppendLies
import Derived.Deep.RegionHeld3
import Derived.Deep.RegionLaw
set_option maxRecDepth 100000
set_option maxHeartbeats 16000000
set_option linter.all false
namespace Go.Proofs.YtcimhnnendlblaaGreat
open Go.RowKit
def jE(c:(Int×List Int×List Int)):Int:=c.1+c.2.1.length
def vh(l:List (Int×List Int×List Int))(i:Nat)(x y:Int):List (Int×List Int×List Int) :=
 match l.getLast? with
 | some c=>if jE c=i then l.dropLast++[(c.1,c.2.1++[x],c.2.2++[y])] else l++[((i:Int),[x],[y])]
 | none=>[((i:Int),[x],[y])]
def ir(a b:List Int):Nat->List (Int×List Int×List Int)
 | 0=>[]
 | i+1=>if a.getD i 0=b.getD i 0 then ir a b i else vh (ir a b i) i (a.getD i 0) (b.getD i 0)
def eo(a b:List Int)(p n:Nat):(Int×List Int×List Int):=((p:Int),(a.drop p).take n,(b.drop p).take n)
structure Df (a b:List Int) (i:Nat) (l:List (Int×List Int×List Int)):Prop where
 all:∀ c∈l,∃ p n:Nat,c=eo a b p n/\1<=n/\p+n<=i/\∀ k,p<=k->k<p+n->a.getD k 0≠b.getD k 0
 gap:l.Pairwise (fun c d=>jE c<d.1)
 BT:∀ k,k<i->a.getD k 0≠b.getD k 0->∃ c∈l,c.1<=k/\(k:Int)<jE c
theorem fV{a b:List Int}{p n:Nat}(h:p+n<=a.length):jE (eo a b p n)=((p+n:Nat):Int):=by unfold jE eo;dsimp only;rw [zLt,zLd];omega
theorem iT{a:List Int}{p n:Nat}(h:p+n<a.length):(a.drop p).take n++[a.getD (p+n) 0]=(a.drop p).take (n+1):=by
 rw [List.take_add_one,List.getElem?_drop];have:a[p+n]?=some (a.getD (p+n) 0):=by simp [List.getD,h]
 rw [this];rfl
theorem tv{a b:List Int}(hl:a.length=b.length):∀ i,i<=a.length->Df a b i (ir a b i):=by
 intro i;induction i with
 | zero=>intro _;exact⟨fun c hc=>(by cases hc),List.Pairwise.nil,fun k hk=>absurd hk (Nat.not_lt_zero k)⟩
 | succ i ih =>
  intro hi;have h:=ih (by omega)
  show Df a b (i+1) (if a.getD i 0=b.getD i 0 then ir a b i else vh (ir a b i) i (a.getD i 0) (b.getD i 0))
  generalize ir a b i=l at h;by_cases he:a.getD i 0=b.getD i 0
  ·rw [if_pos he];refine⟨fun c hc=>?_,h.gap,fun k hk aO=>?_⟩
   ·obtain⟨p,n,h1,h2,h3,h4⟩:=h.all c hc;exact⟨p,n,h1,h2,by omega,h4⟩
   ·by_cases e:k=i
    ·subst e;exact absurd he aO
    ·exact h.BT k (by omega) aO
  ·rw [if_neg he];have jx:(((i:Int),[a.getD i 0],[b.getD i 0]):(Int×List Int×List Int))=eo a b i 1:=by unfold eo;have e1:=iT (a:=a) (p:=i) (n:=0) (by omega);have e2:=iT (a:=b) (p:=i) (n:=0) (by omega);rw [List.take_zero,List.nil_append,Nat.add_zero] at e1 e2;rw [<- e1,<- e2]
   have da:∀ l':List (Int×List Int×List Int),(∀ c∈l',∃ p n:Nat,c=eo a b p n/\1<=n/\p+n<=i/\∀ k,p<=k->k<p+n->a.getD k 0≠b.getD k 0)->l'.Pairwise (fun c d=>jE c<d.1)->(∀ c∈l',jE c<i)->(∀ k,k<i->a.getD k 0≠b.getD k 0->∃ c∈l',c.1<=k/\(k:Int)<jE c)->Df a b (i+1) (l'++[((i:Int),[a.getD i 0],[b.getD i 0])]):=fun l' g1 g2 g3 g4=>by
    rw [jx];refine⟨fun c hc=>?_,?_,fun k hk aO=>?_⟩
    ·rcases zMa hc with hc | hc
     ·obtain⟨p,n,h1,h2,h3,h4⟩:=g1 c hc;exact⟨p,n,h1,h2,by omega,h4⟩
     ·rw [zMs hc];exact⟨i,1,rfl,by omega,by omega,fun k h1 h2=>by rw [show k=i by omega];exact he⟩
    ·rw [List.pairwise_append];refine⟨g2,List.pairwise_singleton _ _,fun c hc d hd=>?_⟩;rw [zMs hd];exact g3 c hc
    ·by_cases e:k=i
     ·subst e;refine⟨eo a b k 1,by simp,?_,?_⟩
      ·exact Int.le_refl _
      ·rw [fV (by omega)];omega
     ·obtain⟨c,hc,h5⟩:=g4 k (by omega) aO;exact⟨c,by simp [hc],h5⟩
   unfold vh;cases uP:l.getLast? with
   | none =>have:l=[]:=List.getLast?_eq_none_iff.1 uP;subst this;exact da [] (fun c hc=>by cases hc) List.Pairwise.nil (fun c hc=>by cases hc) h.BT
   | some c =>
    obtain⟨l',rfl⟩:=List.getLast?_eq_some_iff.1 uP;dsimp only;have hc:c∈l'++[c]:=by simp
    obtain⟨p,n,rfl,hn,hpn,hdf⟩:=h.all c hc;have Gd:=fV (a:=a) (b:=b) (p:=p) (n:=n) (by omega);have zeK:=List.pairwise_append.1 h.gap;by_cases hei:jE (eo a b p n)=i
    ·rw [if_pos hei,List.dropLast_concat];have hpi:p+n=i:=by omega
     have zlo:(((eo a b p n).1,(eo a b p n).2.1++[a.getD i 0],(eo a b p n).2.2++[b.getD i 0]):(Int×List Int×List Int))=eo a b p (n+1):=by unfold eo;dsimp only;rw [<- hpi,iT (by omega),iT (by omega)]
     rw [zlo];refine⟨fun d hd=>?_,?_,fun k hk aO=>?_⟩
     ·rcases zMa hd with hd | hd
      ·obtain⟨q,m,h1,h2,h3,h4⟩:=h.all d (by simp [hd]);exact⟨q,m,h1,h2,by omega,h4⟩
      ·rw [zMs hd];refine⟨p,n+1,rfl,by omega,by omega,fun k h1 h2=>?_⟩;by_cases e:k=i
       ·subst e;exact he
       ·exact hdf k h1 (by omega)
     ·rw [List.pairwise_append];refine⟨zeK.1,List.pairwise_singleton _ _,fun d hd e hee=>?_⟩;rw [zMs hee];exact zeK.2.2 d hd (eo a b p n) (List.mem_singleton.2 rfl)
     ·by_cases e:k=i
      ·subst e;refine⟨eo a b p (n+1),by simp,?_,?_⟩
       ·show(p:Int)<=k;omega
       ·rw [fV (by omega)];omega
      ·obtain⟨d,hd,h5,h6⟩:=h.BT k (by omega) aO;rcases zMa hd with hd | hd
       ·exact⟨d,by simp [hd],h5,h6⟩
       ·rw [zMs hd] at h5 h6;refine⟨eo a b p (n+1),by simp,h5,?_⟩;rw [fV (by omega)];rw [Gd] at h6;omega
    ·rw [if_neg hei];refine da (l'++[eo a b p n]) h.all h.gap (fun d hd=>?_) h.BT;rcases zMa hd with hd | hd
     ·have h7:=zeK.2.2 d hd _ (List.mem_singleton.2 rfl);have h8:(eo a b p n).1=(p:Int):=rfl;omega
     ·rw [zMs hd];omega
def fZ(out:List Int)(c:(Int×List Int×List Int)):Int :=
 if c.1<0\/out.length-c.1.toNat<c.2.1.length then 1
 else if c.2.1.length≠c.2.2.length then 3
 else if (out.drop c.1.toNat).take c.2.1.length≠c.2.1 then 6 else 0
def jk(out:List Int)(c:(Int×List Int×List Int)):List Int:=splice out c.1.toNat c.2.2
def apE(out:List Int):List (Int×List Int×List Int)->Int
 | []=>0
 | c :: l=>if fZ out c=0 then apE (jk out c) l else fZ out c
def TY(out:List Int):List (Int×List Int×List Int)->List Int
 | []=>out
 | c :: l=>TY (jk out c) l
theorem Of{l m:List (Int×List Int×List Int)}:∀ {out:List Int},apE out l=0->apE out (l++m)=apE (TY out l) m:=by
 induction l with
 | nil=>intro out _;rfl
 | cons c l ih =>
  intro out h;unfold apE at h;by_cases h0:fZ out c=0
  ·rw [if_pos h0] at h
   show(if fZ out c=0 then apE (jk out c) (l++m) else _)=_
   rw [if_pos h0,ih h];rfl
  ·rw [if_neg h0] at h;exact absurd h h0
theorem Oe{l m:List (Int×List Int×List Int)}:∀ {out:List Int},TY out (l++m)=TY (TY out l) m:=by
 induction l with
 | nil=>intro out;rfl
 | cons c l ih=>intro out;exact ih
theorem Od{a b:List Int}(hl:a.length=b.length):∀ (l:List (Int×List Int×List Int)) (out:List Int),out.length=a.length->(∀ c∈l,∃ p n:Nat,c=eo a b p n/\p+n<=a.length/\∀ k,p<=k->k<p+n->out.getD k 0=a.getD k 0)->l.Pairwise (fun c d=>jE c<=d.1\/jE d<=c.1) ->apE out l=0/\(TY out l).length=a.length/\∀ k,(TY out l).getD k 0=if ∃ c∈l,c.1<=k/\(k:Int)<jE c then b.getD k 0 else out.getD k 0
 | [],out,hlen,_,_=>⟨rfl,hlen,fun k=>by rw [if_neg (by rintro ⟨c,hc,_⟩;cases hc)];rfl⟩
 | c :: l,out,hlen,bB,hp=>by
  obtain⟨p,n,rfl,hpn,hag⟩:=bB c (by simp);have Gd:=fV (a:=a) (b:=b) (p:=p) (n:=n) hpn;have nJ:((b.drop p).take n).length=n:=by rw [zLt,zLd];omega
  have hla:((a.drop p).take n).length=n:=by rw [zLt,zLd];omega
  have jw:(out.drop p).take n=(a.drop p).take n:=by
   apply bQ
   ·rw [hla,zLt,zLd];omega
   ·intro k hk;rw [zLt,zLd] at hk;have gO:k<n:=by omega
    have h1:=hag (p+k) (by omega) (by omega);simp only [List.getD,List.getElem?_take,if_pos gO,List.getElem?_drop] at h1 ⊢;exact h1
  have h0:fZ out (eo a b p n)=0:=by unfold fZ eo;dsimp only;rw [hla,nJ,zTn,if_neg (by omega),if_neg (by simp),if_neg (by rw [jw];simp)]
  have tE:(jk out (eo a b p n)).length=a.length:=by unfold jk eo;dsimp only;rw [length_splice (by rw [nJ,zTn];omega),hlen]
  have eQ:∀ k,(jk out (eo a b p n)).getD k 0=if p<=k/\k<p+n then b.getD k 0 else out.getD k 0:=fun k=>by
   unfold jk eo;dsimp only;rw [zTn];by_cases hk:p<=k/\k<p+n
   ·rw [if_pos hk];obtain⟨j,rfl⟩:∃ j,k=p+j:=⟨k-p,by omega⟩;rw [bY (by rw [nJ];omega) (by rw [nJ];omega)];have hj:j<n:=by omega
    simp only [List.getD,List.getElem?_take,if_pos hj,List.getElem?_drop]
   ·rw [if_neg hk,aY (by rw [nJ];omega) (by rw [nJ];omega)]
  rw [List.pairwise_cons] at hp;obtain⟨i1,i2,i3⟩:=Od hl l (jk out (eo a b p n)) tE (fun d hd=>by obtain⟨q,m,rfl,hqm,zly⟩:=bB d (by simp [hd]);refine⟨q,m,rfl,hqm,fun k h1 h2=>?_⟩;have zin:=hp.1 _ hd;rw [Gd,fV (a:=a) (b:=b) (p:=q) (n:=m) hqm] at zin;have e1:(eo a b q m).1=(q:Int):=rfl;have e2:(eo a b p n).1=(p:Int):=rfl;rw [e1,e2] at zin;rw [eQ k,if_neg (by omega)];exact zly k h1 h2) hp.2;refine⟨?_,i2,fun k=>?_⟩
  ·unfold apE;rw [if_pos h0];exact i1
  ·show(TY (jk out (eo a b p n)) l).getD k 0=_
   rw [i3 k,eQ k];by_cases hc:∃ d∈l,d.1<=k/\(k:Int)<jE d
   ·obtain⟨d,hd,h5⟩:=hc;rw [if_pos ⟨d,hd,h5⟩,if_pos ⟨d,by simp [hd],h5⟩]
   ·rw [if_neg hc];by_cases hk:p<=k/\k<p+n
    ·rw [if_pos hk,if_pos ⟨eo a b p n,by simp,by show(p:Int)<=k;omega,by rw [Gd];omega⟩]
    ·rw [if_neg hk,if_neg];rintro ⟨d,hd,h5,h6⟩;rcases zMc hd with rfl | hd
     ·rw [Gd] at h6;have e2:(eo a b p n).1=(p:Int):=rfl;rw [e2] at h5;exact hk (by omega)
     ·exact hc ⟨d,hd,h5,h6⟩
theorem YG{a b:List Int}(hl:a.length=b.length):apE a (ir a b a.length)=0/\TY a (ir a b a.length)=b:=by
 have h:=tv hl a.length zNr;obtain⟨h1,h2,h3⟩:=Od hl (ir a b a.length) a rfl (fun c hc=>by obtain⟨p,n,h1,h2,h3,h4⟩:=h.all c hc;exact⟨p,n,h1,h3,fun k _ _=>rfl⟩) (h.gap.imp (fun g=>.inl (Int.le_of_lt g)));refine⟨h1,?_⟩;apply bQ
 ·rw [h2,hl]
 ·intro k hk;rw [h3 k];by_cases hc:∃ c∈ir a b a.length,c.1<=k/\(k:Int)<jE c
  ·rw [if_pos hc]
  ·rw [if_neg hc];exact Classical.byContradiction fun aO=>hc (h.BT k (by omega) aO)
def pgE:List (Int×List Int×List Int)->Int
 | []=>0
 | c :: l=>if c.1<0\/6400<=c.1\/6400-c.1<c.2.2.length then 1 else pgE l
def iS(l:List (Int×List Int×List Int))(j:Nat):Bool:=l.any (fun c=>(List.range c.2.2.length).any (fun k=>(c.1.toNat+k) / 32 == j))
theorem vL{l:List (Int×List Int×List Int)}{j:Nat}:iS l j=true ↔ ∃ c∈l,∃ k:Nat,k<c.2.2.length/\(c.1.toNat+k) / 32=j:=by
 unfold iS;rw [List.any_eq_true];constructor
 ·rintro ⟨c,hc,h⟩;obtain⟨k,hk,h⟩:=List.any_eq_true.1 h;exact⟨c,hc,k,List.mem_range.1 hk,by simpa using h⟩
 ·rintro ⟨c,hc,k,hk,h⟩;exact⟨c,hc,List.any_eq_true.2 ⟨k,List.mem_range.2 hk,by simpa using h⟩⟩
theorem VF:∀ {l:List (Int×List Int×List Int)},(∀ c∈l,0<=c.1/\c.1<6400/\c.1+c.2.2.length<=6400)->pgE l=0
 | [],_=>rfl
 | c :: l,h=>by have h1:=h c (by simp);unfold pgE;rw [if_neg (by omega)];exact VF (fun d hd=>h d (by simp [hd]))
theorem YF{a b:List Int}(hl:a.length=b.length)(h64:a.length<=6400):pgE (ir a b a.length)=0/\∀ j:Nat,32 * j<a.length->(iS (ir a b a.length) j=true ↔ (a.drop (32 * j)).take 32≠(b.drop (32 * j)).take 32):=by
 have h:=tv hl a.length zNr;have hlen:∀ p n:Nat,p+n<=a.length->(eo a b p n).2.2.length=n:=fun p n hpn=>by
  show((b.drop p).take n).length=n
  rw [zLt,zLd];omega
 refine⟨VF (fun c hc=>?_),fun j hj=>?_⟩
 ·obtain⟨p,n,rfl,h2,h3,h4⟩:=h.all c hc;rw [hlen p n h3]
  show 0<=(p:Int)/\(p:Int)<6400/\(p:Int)+n<=6400
  omega
 ·rw [vL];constructor
  ·rintro ⟨c,hc,k,hk,he⟩;obtain⟨p,n,rfl,h2,h3,h4⟩:=h.all c hc;rw [hlen p n h3] at hk;have hpt:(eo a b p n).1.toNat=p:=zTn p;rw [hpt] at he;intro e;have aO:=h4 (p+k) (by omega) (by omega);obtain⟨i,hi⟩:∃ i,p+k=32 * j+i:=⟨p+k-32 * j,by omega⟩;have zeG:i<32:=by omega
   have e2:=congrArg (fun l=>l.getD i 0) e;simp only [List.getD,List.getElem?_take,if_pos zeG,List.getElem?_drop] at e2;rw [hi] at aO;exact aO e2
  ·intro aO;refine Classical.byContradiction fun gI=>aO ?_
   apply bQ
   ·rw [zLt,zLt,zLd,zLd,hl]
   ·intro i hi;rw [zLt,zLd] at hi;have zeG:i<32:=by omega
    have hiN:32 * j+i<a.length:=by omega
    simp only [List.getD,List.getElem?_take,if_pos zeG,List.getElem?_drop];refine Classical.byContradiction fun hd=>gI ?_
    obtain⟨c,hc,h5,h6⟩:=h.BT (32 * j+i) hiN hd;obtain⟨p,n,rfl,h2,h3,h4⟩:=h.all c hc;have e1:(eo a b p n).1=(p:Int):=rfl;rw [fV h3] at h6;rw [e1] at h5;refine⟨eo a b p n,hc,32 * j+i-p,by rw [hlen p n h3];omega,?_⟩;have hpt:(eo a b p n).1.toNat=p:=zTn p;rw [hpt];omega
theorem vd{a b:List Int}{i:Nat}:∀ {k:Nat},i<=k->(∀ j,i<=j->j<k->a.getD j 0=b.getD j 0)->ir a b k=ir a b i
 | 0,h,_=>by rw [Nat.le_zero.1 h]
 | k+1,h,hs=>by
  by_cases e:i=k+1
  ·rw [e]
  ·show(if a.getD k 0=b.getD k 0 then ir a b k else _)=_
   rw [if_pos (hs k (by omega) (by omega))];exact vd (by omega) (fun j h1 h2=>hs j h1 (by omega))
theorem Qd{a b:List Int}(hl:a.length=b.length){p:Nat}(hp:p=0\/a.getD (p-1) 0=b.getD (p-1) 0):∀ n,1<=n->p+n<=a.length->(∀ j,p<=j->j<p+n->a.getD j 0≠b.getD j 0) ->ir a b (p+n)=ir a b p++[eo a b p n]
 | 0,h,_,_=>by omega
 | 1,_,hle,hd=>by
  show(if a.getD p 0=b.getD p 0 then _ else vh (ir a b p) p (a.getD p 0) (b.getD p 0))=_
  rw [if_neg (hd p zNr (by omega))];have h:=tv hl p (by omega);have jx:(((p:Int),[a.getD p 0],[b.getD p 0]):(Int×List Int×List Int))=eo a b p 1:=by unfold eo;have e1:=iT (a:=a) (p:=p) (n:=0) (by omega);have e2:=iT (a:=b) (p:=p) (n:=0) (by omega);rw [List.take_zero,List.nil_append,Nat.add_zero] at e1 e2;rw [<- e1,<- e2]
  rw [jx.symm];generalize ir a b p=l at h;unfold vh;cases uP:l.getLast? with
  | none=>rw [List.getLast?_eq_none_iff.1 uP];rfl
  | some c =>
   dsimp only;rw [if_neg];intro e;have hc:c∈l:=List.mem_of_getLast? uP;obtain⟨q,m,rfl,hm,hqm,hdf⟩:=h.all c hc;rw [fV (by omega)] at e;have:=hdf (p-1) (by omega) (by omega);rcases hp with hp | hp
   ·omega
   ·exact this hp
 | n+2,_,hle,hd=>by
  have ih:=Qd hl hp (n+1) (by omega) (by omega) (fun j h1 h2=>hd j h1 (by omega))
  show(if a.getD (p+(n+1)) 0=b.getD (p+(n+1)) 0 then _ else vh (ir a b (p+(n+1))) (p+(n+1)) _ _)=_
  rw [if_neg (hd _ (by omega) (by omega)),ih];unfold vh;rw [List.getLast?_concat];dsimp only;rw [if_pos (fV (by omega)),List.dropLast_concat]
  congr 2
  unfold eo;dsimp only;have e1:=iT (a:=a) (p:=p) (n:=n+1) (by omega);have e2:=iT (a:=b) (p:=p) (n:=n+1) (by omega)
  show((p:Int),(a.drop p).take (n+1)++[a.getD (p+(n+1)) 0],(b.drop p).take (n+1)++[b.getD (p+(n+1)) 0])=_
  rw [e1,e2]
theorem wY{a b:List Int}(hl:a.length=b.length):∀ i,i<=a.length->(ir a b i).length<=i
 | 0,_=>zNr
 | i+1,h=>by
  have ih:=wY hl i (by omega)
  show(if a.getD i 0=b.getD i 0 then ir a b i else vh (ir a b i) i (a.getD i 0) (b.getD i 0)).length<=_
  by_cases e:a.getD i 0=b.getD i 0
  ·rw [if_pos e];omega
  ·rw [if_neg e];generalize ir a b i=l at ih;unfold vh;cases uP:l.getLast? with
   | none=>simp
   | some c =>
    dsimp only;by_cases e2:jE c=i
    ·rw [if_pos e2,zLa,List.length_dropLast];simp only [zLc,List.length_nil];omega
    ·rw [if_neg e2,zLa];simp only [zLc,List.length_nil];omega
def OY(s:Option Addr×Nat×List Int):Value:=.slice s.1 s.2.2.length s.2.1
def KY(r:(Int×(Option Addr×Nat×List Int)×(Option Addr×Nat×List Int))):List Value:=[.int .i64 r.1,OY r.2.1,OY r.2.2]
def rwP(r:(Int×(Option Addr×Nat×List Int)×(Option Addr×Nat×List Int))):(Int×List Int×List Int):=(r.1,r.2.1.2.2,r.2.2.2.2)
theorem zaK(r:(Int×(Option Addr×Nat×List Int)×(Option Addr×Nat×List Int))):(KY r).length=3:=rfl
theorem O2(r:(Int×(Option Addr×Nat×List Int)×(Option Addr×Nat×List Int))):∀ u∈KY r,u.oneCell'=true:=by
 intro u hu;unfold KY OY at hu;rcases zMc hu with rfl | hu
 ·rfl
 rcases zMc hu with rfl | hu
 ·rfl
 rw [zMs hu];rfl
theorem Js:(Tryz.prog.info? 83).map (fun i=>(i.zero,i.size,i.bytes))=some (some (.agg #[.int .i64 0,.slice none 0 0,.slice none 0 0]),3,56):=by kernel_rfl
def RdC(w:World)(r:(Int×(Option Addr×Nat×List Int)×(Option Addr×Nat×List Int))):Prop:=Bs w r.2.1.1 r.2.1.2.1 r.2.1.2.2/\Bs w r.2.2.1 r.2.2.2.1 r.2.2.2.2
theorem RdC.below{w w':World}{r:(Int×(Option Addr×Nat×List Int)×(Option Addr×Nat×List Int))}(h:RdC w r)(hb:Below w.heap.size w w'):RdC w' r:=⟨h.1.below hb,h.2.below hb⟩
def Qz(w:World)(a:Option Addr)(cap:Nat)(l:List (Int×List Int×List Int)):Prop:=∃ rs:List (Int×(Option Addr×Nat×List Int)×(Option Addr×Nat×List Int)),rs.map rwP=l/\fG KY 3 w a cap rs/\∀ r∈rs,RdC w r
theorem Qz.below{w w':World}{a:Option Addr}{cap:Nat}{l:List (Int×List Int×List Int)}(h:Qz w a cap l)(hb:Below w.heap.size w w'):Qz w' a cap l:=by obtain⟨rs,h1,h2,h3⟩:=h;exact⟨rs,h1,h2.below hb,fun r hr=>(h3 r hr).below hb⟩
theorem Qz.at{w:World}{a:Option Addr}{cap:Nat}{l:List (Int×List Int×List Int)}(h:Qz w a cap l){i:Nat}(hi:i<l.length) :
  ∃ b off a1 c1 a2 c2,a=some ⟨b,off,none⟩/\w.cell? ⟨b,off+i * 3,none⟩=some (.int .i64 (l.getD i (0,[],[])).1)/\w.cell? ⟨b,off+i * 3+1,none⟩=some (.slice a1 (l.getD i (0,[],[])).2.1.length c1)/\w.cell? ⟨b,off+i * 3+2,none⟩=some (.slice a2 (l.getD i (0,[],[])).2.2.length c2)/\Bs w a1 c1 (l.getD i (0,[],[])).2.1/\Bs w a2 c2 (l.getD i (0,[],[])).2.2:=by
 obtain⟨rs,rfl,h2,h3⟩:=h;rw [zLm] at hi;have aO:rs≠[]:=by intro e;rw [e] at hi;simp at hi
 obtain⟨b,off,rfl,hc⟩:=h2.2.2.2 aO;have hx:rs[i]?=some rs[i]:=zLg hi;have hg:(rs.map rwP).getD i (0,[],[])=rwP rs[i]:=by simp [List.getD,hi]
 rw [hg];obtain⟨sx,vB⟩:=h3 rs[i] (List.getElem_mem hi);exact⟨b,off,rs[i].2.1.1,rs[i].2.1.2.1,rs[i].2.2.1,rs[i].2.2.2.1,rfl,hc i _ hx 0 _ rfl,hc i _ hx 1 _ rfl,hc i _ hx 2 _ rfl,sx,vB⟩
def Om(w:World)(B:Nat)(r:(Int×(Option Addr×Nat×List Int)×(Option Addr×Nat×List Int))):Prop:=(bj r.2.1.2.2/\r.2.1.2.2.length<=140737488351232/\cj w B (OY r.2.1) r.2.1.2.2)/\bj r.2.2.2.2/\r.2.2.2.2.length<=140737488351232/\cj w B (OY r.2.2) r.2.2.2.2
theorem cj.bs'{w:World}{B:Nat}{s:Option Addr×Nat×List Int}(h:cj w B (OY s) s.2.2)(hb:bj s.2.2)(hl:s.2.2.length<=140737488351232):Bs w s.1 s.2.1 s.2.2:=by obtain⟨a,c,e,aX⟩:=h.bs hb hl;unfold OY at e;simp only [Value.slice.injEq,true_and] at e;rw [e.1,e.2];exact aX
theorem Om.rd{w:World}{B:Nat}{r:(Int×(Option Addr×Nat×List Int)×(Option Addr×Nat×List Int))}(h:Om w B r):RdC w r:=⟨h.1.2.2.bs' h.1.1 h.1.2.1,h.2.2.2.bs' h.2.1 h.2.2.1⟩
theorem Om.below{w w':World}{B:Nat}{r:(Int×(Option Addr×Nat×List Int)×(Option Addr×Nat×List Int))}(h:Om w B r)(hb:Below w.heap.size w w'):Om w' B r:=⟨⟨h.1.1,h.1.2.1,h.1.2.2.below hb⟩,h.2.1,h.2.2.1,h.2.2.2.below hb⟩
theorem cj.keep{α:Type}{enc:α->List Value}{k T:Nat}{w w':World}{B B':Nat}{v v':Value}{l:List α}{L:List Int}(h:bT enc k T w B v l)(h':cj w B' v' L)(aO:T≠5)
  (hk:∀ j,j<w.heap.size->v.ownBlock≠some j->w'.heap[j]?=w.heap[j]?):cj w' B' v' L:=by
 refine⟨h'.1,?_⟩;rcases h'.2 with h0 | ⟨g,cap,cur,rfl,hB,hc,h3⟩
 ·exact .inl h0
 ·refine .inr ⟨g,cap,cur,rfl,hB,(hk g (zAg hc).1 (fun e=>?_)).trans hc,h3⟩;rcases h.2 with ⟨rfl,_⟩ | ⟨g1,cap1,cur1,rfl,dm,dR,_⟩
  ·cases e
  ·simp [Value.ownBlock] at e;subst e;rw [dR] at hc;simp at hc;exact aO hc.2
theorem Om.keep{α:Type}{enc:α->List Value}{k T:Nat}{w w':World}{B B':Nat}{v:Value}{l:List α}{r:(Int×(Option Addr×Nat×List Int)×(Option Addr×Nat×List Int))}(h:bT enc k T w B v l)(h':Om w B' r)(aO:T≠5)
  (hk:∀ j,j<w.heap.size->v.ownBlock≠some j->w'.heap[j]?=w.heap[j]?):Om w' B' r:=⟨⟨h'.1.1,h'.1.2.1,h'.1.2.2.keep h aO hk⟩,h'.2.1,h'.2.2.1,h'.2.2.2.keep h aO hk⟩
def vv(w:World)(B:Nat)(v:Value)(l:List (Int×List Int×List Int)):Prop:=∃ rs:List (Int×(Option Addr×Nat×List Int)×(Option Addr×Nat×List Int)),rs.map rwP=l/\bT KY 3 83 w B v rs/\∀ r∈rs,Om w B r
theorem vv.nil(w:World)(B:Nat):vv w B (.slice none 0 0) []:=⟨[],rfl,bT.nil w B,fun r hr=>by cases hr⟩
theorem vv.below{w w':World}{B:Nat}{v:Value}{l:List (Int×List Int×List Int)}(h:vv w B v l)(hb:Below w.heap.size w w'):vv w' B v l:=by obtain⟨rs,h1,h2,h3⟩:=h;exact⟨rs,h1,h2.below hb,fun r hr=>(h3 r hr).below hb⟩
theorem vv.chs{w:World}{B:Nat}{v:Value}{l:List (Int×List Int×List Int)}(h:vv w B v l)(hl:l.length<=8796093021952):∃ a c,v=.slice a l.length c/\Qz w a c l:=by obtain⟨rs,rfl,h2,h3⟩:=h;rw [zLm] at hl ⊢;obtain⟨a,c,e,hs⟩:=h2.kk zaK hl;exact⟨a,c,e,rs,rfl,hs,fun r hr=>(h3 r hr).rd⟩
theorem vv.grow{w w':World}{B g cap n:Nat}{v:Value}{rs:List (Int×(Option Addr×Nat×List Int)×(Option Addr×Nat×List Int))}{r:(Int×(Option Addr×Nat×List Int)×(Option Addr×Nat×List Int))}(hL:bT KY 3 83 w B v rs)(h3:∀ x∈rs,Om w B x)(hr:Om w B r)(hB:B<=w.heap.size)
  (az:w'.ownsRow B 83 3 (.slice (some ⟨g,0,none⟩) n cap) (rs.length+1) (rs.flatMap KY++KY r)) (hg:w.grownBy w' v.ownBlock) :
  vv w' B (.slice (some ⟨g,0,none⟩) n cap) (rs.map rwP++[rwP r])/\Below B w w':=by
 refine⟨⟨rs++[r],by simp,?_,?_⟩,zBr.grown hg hB (fun k hk=>hL.block k hk)⟩
 ·unfold bT;rw [zLa,List.flatMap_append];simpa using az
 ·have hk:∀ j,j<w.heap.size->v.ownBlock≠some j->w'.heap[j]?=w.heap[j]?:=fun j hj aO=>hg.block j hj (fun e=>aO e.symm)
  intro x hx;rcases zMa hx with hx | hx
  ·exact(h3 x hx).keep hL (by decide) hk
  ·rw [zMs hx];exact hr.keep hL (by decide) hk
theorem yA{w:World}{ops:Array Oper}{o:Oper}{a:Act}{K:Act->World->Prop}{Q:Exit->Act->World->Prop}{E:Prop}(pZ:o.guard=none)(s x:Operand)
  (ho:o.op=.call { callee:=.builtin .append,args:=#[s,x],argTypes:=#[37,37]}) (B:Nat) (v:Value) (l:List (Int×List Int×List Int)) (hs:a.eval s=v) (az:vv w B v l) (g:Nat) (r:(Int×(Option Addr×Nat×List Int)×(Option Addr×Nat×List Int)))
  (hx:a.eval x=.slice (some ⟨g,0,none⟩) 1 1) (hy:w.heap[g]?=some (.cells (KY r).toArray 83 (0,0))) (hr:Om w B r) (hn:l.length<=100000) (hB:B<=w.heap.size)
  (h:∀ g' cap w',vv w' B (.slice (some ⟨g',0,none⟩) (l.length+1) cap) (l++[rwP r])->Below B w w'->(∀ j,j<w.heap.size->v.ownBlock≠some j->w'.heap[j]?=w.heap[j]?)->K (a.put o.dst (.slice (some ⟨g',0,none⟩) (l.length+1) cap)) w') :
  if Region.wanted o (yielded ops a.tmps)=true then Oper.wp Tryz.prog o a w K Q else E:=by
 obtain⟨i0,eP,cY,dw,dz⟩:=info_parts Js;obtain⟨rs,rfl,hL,h3⟩:=az;rw [zLm] at hn h;refine step_append_lies w pZ s x 37 ho B 83 i0 _ 3 56 Tryz.underlying37 eP cY dw dz rfl (by decide) v rs.length (rs.flatMap KY) hs hL ⟨g,0,none⟩ 1 1 (KY r) hx rfl (World.news_of_block hy) (O2 r) (by decide) (by unfold maxLen;omega) (by omega) hB w.heap.size rfl ?_;intro g' cap w' xX ow _ _;obtain⟨h5,h6⟩:=vv.grow hL h3 hr hB xX ow;exact h g' cap w' h5 h6 (fun j hj aO=>ow.block j hj (fun e=>aO e.symm))
theorem cj.shape{w:World}{B:Nat}{v:Value}{L:List Int}(h:cj w B v L):∃ a c,v=.slice a L.length c:=by
 rcases h.2 with ⟨rfl,h0⟩ | ⟨g,cap,cur,rfl,_⟩
 ·exact⟨none,0,by rw [h0]⟩
 ·exact⟨_,_,rfl⟩
theorem kg(a:Option Addr)(cap:Nat)(l:List Int)(w:World)(hb:Bs w a cap l) :
  Calls Tryz.prog 34 #[.slice a l.length cap] w fun e w'=>∃ a' c',e=.returned (.slice a' l.length c')/\cj w' w.heap.size (.slice a' l.length c') l/\Below w.heap.size w w':=by
 obtain⟨i0,hi,cY,dw,dz⟩:=info_parts dQ;have hl:=hb.2.2.1;have q22:∀ (w:World) (a:Option Addr) (n c n' c':Nat),(binOp .eql 30 (.slice a n c) (.slice none n' c')).run Tryz.prog w=.ok (.bool a.isNone) w:=fun w a n c n' c'=>Lib.run_eql_slice_nil w _ _ a n c n' c' zu30
 cases a with
 | none =>
  have h0:l=[]:=by have h1:=hb.2.2.2.1 rfl;have h2:=hb.2.1;exact List.eq_nil_of_length_eq_zero (by omega)
  subst h0;clear hb;go_enter Tryz.func34,Tryz.ntmps34
  go_wp2;go_ret;exact⟨none,0,rfl,cj.nil _ _,zBr⟩
 | some ad =>
  have HN:=af (y7 (hb.below ((Below.refl _ w).alloc zNr (.cells #[] 5))));clear hb;go_enter Tryz.func34,Tryz.ntmps34
  go_wp2_with (at_builtin;refine wpList_append_own _ rfl _ _ 30 rfl w.heap.size 5 i0 (.int .u8 0) 1 1 zu30 hi cY dw dz rfl (by decide) _ _ _ rfl (World.ownsRow_made w #[] 0 zNr (Nat.zero_le _) (by simp)) ad l.length cap (l.map (Value.int .u8)) rfl (by simp) (ae HN) (dE l) (by unfold maxLen;omega) (by omega) (by simp) ?_)
  intro v' w1 az sD pw;have hv:cj w1 w.heap.size v' l:=az;obtain⟨a',c',rfl⟩:=hv.shape;have HO:=af hv;have HG:=af sD;clear az HN hv sD pw;go_wp2;go_ret;exact⟨a',c',rfl,ae HO,((Below.refl _ w).alloc zNr _).grown (ae HG) (by simp) (by intro k hk;simp [Value.ownBlock] at hk;omega)⟩
theorem Dl(a a':Option Addr)(cap cap':Nat)(l m:List Int)(w:World)(aX:Bs w a cap l)(Gf:Bs w a' cap' m) :
  Calls Tryz.prog 91 #[.slice a l.length cap,.slice a' m.length cap'] w fun e w'=>∃ i:Nat,e=.returned (.int .i64 i)/\cF (fun j=>(l.getD j 0 != m.getD j 0)) (min l.length m.length) i/\Below w.heap.size w w':=by
 by_cases aM:m.length<l.length
 ·rw [Nat.min_eq_right (Nat.le_of_lt aM)];go_enter Tryz.func91,Tryz.ntmps91
  go_wp2_with fail
  refine(Bv _ _ a a' cap cap' m.length l m _ (aX.below ((zBr.alloc zNr _).alloc (by simp) _)) (Gf.below ((zBr.alloc zNr _).alloc (by simp) _)) (by omega) (by omega) (by simp) (by simp)).mono ?_;rintro e w1 ⟨i,rfl,hf,n,rfl⟩;have HF:=af hf;clear hf;go_wp2;go_ret;exact⟨i,rfl,ae HF,below_drewN ((zBr.alloc zNr _).alloc (by simp) _) _⟩
 ·rw [Nat.min_eq_left (by omega)];go_enter Tryz.func91,Tryz.ntmps91
  go_wp2_with fail
  refine(Bv _ _ a a' cap cap' l.length l m _ (aX.below ((zBr.alloc zNr _).alloc (by simp) _)) (Gf.below ((zBr.alloc zNr _).alloc (by simp) _)) (by omega) (by omega) (by simp) (by simp)).mono ?_;rintro e w1 ⟨i,rfl,hf,n,rfl⟩;have HF:=af hf;clear hf;go_wp2;go_ret;exact⟨i,rfl,ae HF,below_drewN ((zBr.alloc zNr _).alloc (by simp) _) _⟩
theorem NK(a a':Option Addr)(cap cap':Nat)(l m:List Int)(w:World)(aX:Bs w a cap l)(Gf:Bs w a' cap' m)(K3:l.length=m.length) :
  Calls Tryz.prog 92 #[.slice a l.length cap,.slice a' m.length cap'] w fun e w'=>∃ i:Nat,e=.returned (.int .i64 i)/\cF (fun j=>(l.getD j 0 == m.getD j 0)) l.length i/\∃ n,w'=w.drewN n:=by
 have hl:=aX.2.2.1;rw [<- K3];have HB:=af aX;have ZQ:=af Gf;have HLM:=af K3;clear aX Gf K3;go_enter Tryz.func92,Tryz.ntmps92
 go_wp2;go_loopw [5] (fun i wr=>∃ k n:Nat,k<=l.length/\i=.int .i64 k/\wr=w.drewN n/\∀ j,j<k->(l.getD j 0 == m.getD j 0)=false) (fun i _=>l.length-(intOf i).toNat)
 case atStart=>exact⟨0,0,by omega,rfl,rfl,fun j hj=>absurd hj (Nat.not_lt_zero j)⟩
 case round =>
  obtain⟨k,n,hk,rfl,rfl,bB⟩:=hrel;have HA:=af bB;clear bB;by_cases aM:k<l.length
  ·obtain⟨b,off,rfl,c0⟩:=(ae HB).at k aM;obtain⟨b',off',rfl,c1⟩:=(ae ZQ).at k (by have:=ae HLM;omega);have hd:decide ((k:Int)<(l.length:Int))=true:=decide_eq_true (by omega);cases hx:(l.getD k 0 == m.getD k 0)
   ·have HX:=af hx;have aO:¬ l.getD k 0=m.getD k 0:=by simpa using hx
    clear hx;generalize l.getD k 0=x at c0 aO;generalize m.getD k 0=y at c1 aO;go_wp2_with fail
    go_quiet (fail)
    go_wp2;go_roundw
    case rel=>exact⟨k+1,n+nq,by omega,by go_num,rfl,cF.step (ae HA) (ae HX)⟩
    case measure=>simp [intOf];omega
   ·have HX:=af hx;have he:l.getD k 0=m.getD k 0:=by simpa using hx
    clear hx;rw [he] at c0;clear he;generalize m.getD k 0=y at c0 c1;go_wp2_with fail
    go_quiet (fail)
    go_wp2;go_ret;exact⟨k,rfl,⟨by omega,ae HA,fun _=>ae HX⟩,n+nq,by rw [World.drewN_drewN]⟩
  ·obtain rfl:k=l.length:=by omega
   have hd:decide ((l.length:Int)<(l.length:Int))=false:=by simp
   go_wp2_with fail
   go_quiet (fail)
   go_wp2;go_ret;exact⟨_,rfl,⟨zNr,ae HA,fun h=>absurd h (Nat.lt_irrefl _)⟩,n+nq,by rw [World.drewN_drewN]⟩
theorem cj.low{w:World}{B B':Nat}{v:Value}{L:List Int}(h:cj w B' v L)(hB:B<=B'):cj w B v L:=by
 refine⟨h.1,?_⟩;rcases h.2 with h0 | ⟨g,cap,cur,rfl,hb,h3⟩
 ·exact .inl h0
 ·exact .inr ⟨g,cap,cur,rfl,Nat.le_trans hB hb,h3⟩
theorem zdM{w:World}{B n k:Nat}{z:Int}{sA sB:Option Addr}{cA cB:Nat}{X Y:List Int}(hX:X.length=n)(hY:Y.length=k)(hn:n<=140737488351232/\k<=140737488351232)(h1:bj X)(h2:bj Y)(hA:cj w B (.slice sA n cA) X)(hB:cj w B (.slice sB k cB) Y):Om w B (z,(sA,cA,X),(sB,cB,Y)):=by subst hX hY;exact⟨⟨h1,hn.1,hA⟩,h2,hn.2,hB⟩
theorem A9(a a':Option Addr)(cap cap':Nat)(l m:List Int)(w:World)(hb:Bs w a cap l)(tp:Bs w a' cap' m)(K3:l.length=m.length)(h64:l.length<=6400) :
  Calls Tryz.prog 36 #[.slice a l.length cap,.slice a' l.length cap'] w fun e w'=>∃ v,e=.returned (.tuple #[v,aR 0])/\vv w' w.heap.size v (ir l m l.length)/\Below w.heap.size w w':=by
 have HS:=af (Dl a a' cap cap' l m w hb tp);rw [<- K3,Nat.min_self] at HS;have HB:=af hb;have ZQ:=af tp;have HLM:=af K3;clear hb tp K3;obtain⟨N,hN⟩:∃ N,l.length=N:=⟨_,rfl⟩;rw [hN] at h64 HS ⊢;have HN:=af hN;clear hN;go_enter Tryz.func36,Tryz.ntmps36
 go_wp2_with fail
 refine(ae HS).mono ?_;rintro e w1 ⟨p0,rfl,hf,ay⟩;have HF:=af hf;have aL:=af ay;have GP:=hf.1;clear hf ay HS;go_wp2_with fail
 go_loopw [6,7] (fun v at' wr=>∃ p:Nat,p<=N/\at'=.int .i64 p/\vv wr w.heap.size v (ir l m p)/\Below w.heap.size w wr/\(p<N->l.getD p 0≠m.getD p 0/\(p=0\/l.getD (p-1) 0=m.getD (p-1) 0))) (fun _ at' _=>N-(intOf at').toNat)
 case atStart =>
  have F4:ir l m p0=[]:=by rw [vd (i:=0) (Nat.zero_le _) (fun j _ hj=>by simpa using (ae HF).2.1 j hj)];rfl
  refine⟨p0,(ae HF).1,rfl,by rw [F4];exact vv.nil _ _,ae aL,fun h=>⟨by simpa using (ae HF).2.2 h,?_⟩⟩;by_cases h0:p0=0
  ·exact .inl h0
  ·exact .inr (by simpa using (ae HF).2.1 (p0-1) (by omega))
 case round =>
  obtain⟨p,hp,rfl,wL,ao,hpp⟩:=hrel;by_cases aM:p<N
  ·obtain⟨hdp,hpz⟩:=hpp aM;have K8:=ae HN;have hNm:=(ae HLM).symm.trans K8;have hXl:(l.drop p).length=N-p:=by rw [zLd,K8]
   have hYl:(m.drop p).length=N-p:=by rw [zLd,hNm]
   have HD:Hid (∃ a1 a2,(∀ w',(Instr.slice 30 (.slice a N cap) (some (.int .i64 p)) none none).run Tryz.prog w'=.ok (.slice a1 (N-p) (cap-p)) w')/\(∀ w',(Instr.slice 30 (.slice a' N cap') (some (.int .i64 p)) none none).run Tryz.prog w'=.ok (.slice a2 (N-p) (cap'-p)) w') /\
     Calls Tryz.prog 92 #[.slice a1 (N-p) (cap-p),.slice a2 (N-p) (cap'-p)] wr.drew fun e w'=>∃ d:Nat,e=.returned (.int .i64 d)/\1<=d/\p+d<=N/\(∀ j,p<=j->j<p+d->l.getD j 0≠m.getD j 0)/\(p+d<N->l.getD (p+d) 0=m.getD (p+d) 0)/\Below wr.heap.size wr w'):=af (by
    have GU:=(ae HB).below ao;have zlt:=(ae ZQ).below ao;obtain⟨a1,gP,GK⟩:=db zu30 aN GU p (by omega);obtain⟨a2,gM,k7⟩:=db zu30 aN zlt p (by omega);have hc:=NK a1 a2 _ _ (l.drop p) (m.drop p) wr.drew GK k7 (by rw [hXl,hYl]);rw [K8] at gP;rw [hNm] at gM;rw [hXl,hYl] at hc;refine⟨a1,a2,gP,gM,hc.mono ?_⟩;rintro e w' ⟨d,rfl,hf,n,rfl⟩;have pZ:∀ (z:List Int) j,(z.drop p).getD j 0=z.getD (p+j) 0:=fun z j=>by simp [List.getD]
    simp only [pZ] at hf;have h1:1<=d:=by
     rcases Nat.eq_zero_or_pos d with h0 | h0
     ·subst h0;have:=hf.2.2 (by omega);simp only [Nat.add_zero,beq_iff_eq] at this;exact absurd this hdp
     ·exact h0
    refine⟨d,rfl,h1,by have:=hf.1;omega,fun j h2 h3=>?_,fun h2=>?_,below_drewN ((Below.refl _ wr).drew) n⟩
    ·have:=hf.2.1 (j-p) (by omega);dsimp only at this;rw [show p+(j-p)=j by omega] at this;simpa using this
    ·have:=hf.2.2 (by omega);simpa using this)
   obtain⟨a1,a2,gP,gM,K6⟩:=ae HD;have HCD:=af K6;have G4:=af wL;have aQ:=af ao;have GP:(0:Int)<=(p:Int):=by omega
   have SD:(p:Int)<=(N:Int):=by omega
   clear HD K6 wL ao hpp hdp;go_wp2_with fail
   go_region_with (go_at_call 92;refine(ae HCD).mono ?_;rintro e w2 ⟨d,rfl,XQ,hd2,hd3,hd4,aK⟩)
   have hwp:IntKind.i64.wrap ((p:Int)+(d:Int))=((p+d:Nat):Int):=by rw [IntKind.wrap_i64];omega
   rw [hwp];have Yf:=zTs aQ aK;have zeR:=(ae G4).below aK;have hXd:((l.drop p).take d).length=d:=by rw [zLt,hXl];omega
   have hYd:((m.drop p).take d).length=d:=by rw [zLt,hYl];omega
   obtain⟨a3,oq,lF⟩:=eU zu30 aN ((ae HB).below Yf) p (p+d) (by omega) (by omega);obtain⟨a4,hs4,hx4⟩:=eU zu30 aN ((ae ZQ).below Yf) p (p+d) (by omega) (by omega);rw [Nat.add_sub_cancel_left,K8] at oq;rw [Nat.add_sub_cancel_left,hNm] at hs4;rw [Nat.add_sub_cancel_left] at lF hx4;have zcl:=af (Qd (ae HLM) hpz d XQ (by omega) hd3);generalize hX:(l.drop p).take d=X at *;generalize hY:(m.drop p).take d=Y at *;have zis:eo l m p d=((p:Int),X,Y):=by unfold eo;rw [hX,hY]
   rw [zis] at zcl;have mC:=af (fun w' (hb:Below w2.heap.size w2 w')=>(kg a3 (cap-p) X w' (lF.below hb)).mono (R':=fun e w''=>∃ a' c',e=.returned (.slice a' d c')/\cj w'' w.heap.size (.slice a' d c') X/\Below w2.heap.size w2 w''/\Below w'.heap.size w' w'') (fun e w'' ⟨a',c',he,ho,bR⟩=>⟨a',c',by rw [he,hXd],by rw [<- hXd];exact ho.low (Nat.le_trans Yf.size hb.size),hb.trans (bR.mono hb.size),bR⟩));have vH:=af (fun w' (hb:Below w2.heap.size w2 w')=>(kg a4 (cap'-p) Y w' (hx4.below hb)).mono (R':=fun e w''=>∃ a' c',e=.returned (.slice a' d c')/\cj w'' w.heap.size (.slice a' d c') Y/\Below w2.heap.size w2 w''/\Below w'.heap.size w' w'') (fun e w'' ⟨a',c',he,ho,bR⟩=>⟨a',c',by rw [he,hYd],by rw [<- hYd];exact ho.low (Nat.le_trans Yf.size hb.size),hb.trans (bR.mono hb.size),bR⟩));rw [hXd] at mC;rw [hYd] at vH;generalize hE:p+d=e at *;obtain⟨va,vc,rfl,_⟩:=zeR.chs (by have:=wY (ae HLM) p (by omega);omega);have nJ:(ir l m p).length<=100000:=by have:=wY (ae HLM) p (by omega);omega
   have GD:=af zeR;have Ld:=af Yf;have cD:=Yf.size;generalize hLL:ir l m p=LL at *;have rP:∀ s1 c1 s2 c2,KY ((p:Int),(s1,c1,X),(s2,c2,Y))=[.int .i64 p,.slice s1 d c1,.slice s2 d c2]:=fun s1 c1 s2 c2=>by unfold KY OY;rw [hXd,hYd]
   have Zo:=af rP;have KV:=af lF.1;have sk:=af hx4.1;have Uo:(p:Int)<=(e:Int):=by omega
   have he2:(e:Int)<=(N:Int):=by omega
   clear lF hx4 zeR Yf G4 HCD gP gM rP hwp hX hY zis;go_wp2_with fail
   go_region_law (first
    | (refine yA (by rfl) (.tmp 35) (.tmp 48) (by rfl) w.heap.size _ LL (by rfl) ((ae GD).below (hbT.alloc hbT.size _)) wT.heap.size ((p:Int),(sA,cA,X),(sB,cB,Y)) (by rfl) (by rw [ae Zo];exact heap_alloc_new _ _) (sw _) (by omega) (by have:=hbT.size;simp;omega) ?_;intro g9 c9 w9 SU mr hk9)
    | (go_simp;with_reducible refine(ae mC _ ?_).mono ?_;(exact(Below.refl _ w2).drew);rintro e3 w3 ⟨sA,cA,rfl,hoA,fp,zlw⟩;dsimp only)
    | (go_simp;with_reducible refine(ae vH _ ?_).mono ?_;(exact fp);rintro e4 wT ⟨sB,cB,rfl,hoB,hbT,ziC⟩;dsimp only;have sw:∀ o,Om (wT.alloc o) w.heap.size ((p:Int),(sA,cA,X),(sB,cB,Y)):=(fun o=>(zdM hXd hYd ⟨by omega,by omega⟩ (ae KV) (ae sk) (hoA.below ziC) hoB).below ((Below.refl _ wT).alloc zNr o))))
   all_goals
    have hL9:LL++[((p:Int),X,Y)]=ir l m e:=(ae zcl).symm;have zc1:vv w9 w.heap.size (.slice (some ⟨g9,0,none⟩) (LL.length+1) c9) (ir l m e):=by rw [<- hL9];exact SU
    have zbM:=(ae Ld).trans ((hbT.mono cD).trans (((Below.refl _ wT).alloc zNr _).mono (Nat.le_trans cD hbT.size) |>.trans mr));have HS:Hid (∃ a5 a6,(∀ w',(Instr.slice 30 (.slice a N cap) (some (.int .i64 e)) none none).run Tryz.prog w'=.ok (.slice a5 (N-e) (cap-e)) w')/\(∀ w',(Instr.slice 30 (.slice a' N cap') (some (.int .i64 e)) none none).run Tryz.prog w'=.ok (.slice a6 (N-e) (cap'-e)) w') /\
      Calls Tryz.prog 91 #[.slice a5 (N-e) (cap-e),.slice a6 (N-e) (cap'-e)] w9.drew fun r w'=>∃ i:Nat,r=.returned (.int .i64 i)/\cF (fun j=>(l.getD (e+j) 0 != m.getD (e+j) 0)) (N-e) i/\Below w9.heap.size w9 w'):=af (by
     obtain⟨a5,hs5,hx5⟩:=db zu30 aN ((ae HB).below zbM) e (by omega);obtain⟨a6,hs6,hx6⟩:=db zu30 aN ((ae ZQ).below zbM) e (by omega);have hc:=Dl a5 a6 _ _ (l.drop e) (m.drop e) w9.drew hx5 hx6;rw [K8] at hs5;rw [hNm] at hs6;rw [zLd,zLd,K8,hNm,Nat.min_self] at hc;have pZ:∀ (z:List Int) j,(z.drop e).getD j 0=z.getD (e+j) 0:=fun z j=>by simp [List.getD]
     simp only [pZ] at hc;exact⟨a5,a6,hs5,hs6,hc.mono fun r w' ⟨i,h1,h2,h3⟩=>⟨i,h1,h2,(Below.refl _ w9).drew.trans h3⟩⟩)
    obtain⟨a5,a6,hs5,hs6,jS⟩:=ae HS;have HCS:=af jS;have zcp:=af zc1;have jI:=af zbM;clear jS zc1 zbM SU mr hk9 sw hoA hoB fp zlw hbT ziC mC vH GD Ld hL9 zcl HS oq hs4;have he0:(0:Int)<=(e:Int):=by omega
    go_wp2_with fail
    go_region_with (go_at_call 91;refine(ae HCS).mono ?_;rintro r w10 ⟨q,rfl,hq,wN⟩)
    have hwq:IntKind.i64.wrap ((e:Int)+(q:Int))=((e+q:Nat):Int):=by rw [IntKind.wrap_i64];have:=hq.1;omega
    rw [hwq];have HQ:=af hq;have sl:=af wN;have hq1:=hq.1;clear hwq hq wN;obtain⟨e2,XO⟩:∃ e2,e+q=e2:=⟨_,rfl⟩;rw [XO];have Uz:=af XO;have zmv:e2<=N:=by omega
    have Xx:p<e2:=by omega
    clear XO
    go_simp
    go_wp2;go_roundw
    case rel =>
     have XO:=ae Uz;subst XO;refine⟨e+q,by omega,rfl,?_,(ae jI).trans ((ae sl).mono (ae jI).size),fun h=>⟨?_,.inr ?_⟩⟩
     ·rw [vd (i:=e) (by omega) (fun j h1 h2=>by have:=(ae HQ).2.1 (j-e) (by omega);dsimp only at this;rw [show e+(j-e)=j by omega] at this;simpa using this)];exact(ae zcp).below (ae sl)
     ·simpa using (ae HQ).2.2 (by omega)
     ·have h0:q≠0:=by intro h0;subst h0;have h1:=(ae HQ).2.2 (by omega);have h2:=hd4 (by omega);simp only [Nat.add_zero] at h1;rw [h2] at h1;simp at h1
      have:=(ae HQ).2.1 (q-1) (by omega);dsimp only at this;rw [show e+(q-1)=e+q-1 by omega] at this;simpa using this
    case measure=>simp [intOf];omega
  ·obtain rfl:p=N:=by omega
   obtain⟨va,vc,rfl,_⟩:=wL.chs (by have:=wY (ae HLM) l.length zNr;rw [ae HN] at this;omega);have HC:=af wL;have vr:=af ao;clear wL ao hpp;go_wp2;go_ret2;exact⟨_,rfl,ae HC,ae vr⟩
theorem str_inj{s t:ByteArray}(h:s.data.toList=t.data.toList):s=t:=by
 cases s with | mk x=>cases t with | mk y =>
 simp at h;rw [h]
theorem tR{s t:ByteArray}:(s.toList == t.toList)=true ↔ s=t:=by
 constructor
 ·intro h;have:=eq_of_beq h;rw [ByteArray.toList_eq,ByteArray.toList_eq] at this;exact str_inj this
 ·intro h;rw [h];exact beq_self_eq_true _
theorem Lv{s t:ByteArray}(h:s≠t):(s.toList == t.toList)=false:=by
 cases hq:(s.toList == t.toList) with
 | false=>rfl
 | true=>exact absurd (tR.1 hq) h
theorem QY{l m:List Int}(hl:bj l)(hm:bj m):strOf l=strOf m ↔ l=m:=by
 constructor
 ·intro h;rw [<- iK l hl,<- iK m hm,h]
 ·intro h;rw [h]
theorem nA(a1 a2:Option Addr)(c1 c2:Nat)(l1 l2:List Int)(w:World)(h1:Bs w a1 c1 l1)(h2:Bs w a2 c2 l2) :
  Calls Tryz.prog 113 #[.slice a1 l1.length c1,.slice a2 l2.length c2] w fun r w'=>r=.returned (.bool (decide (l1=l2)))/\w=w':=by
 have gP:=fU (P:=Tryz.prog) (t:=30) (e:=9) zu30 zu5 zu9 h1;have gM:=fU (P:=Tryz.prog) (t:=30) (e:=9) zu30 zu5 zu9 h2;have he:((strOf l1).toList == (strOf l2).toList)=decide (l1=l2):=by
  by_cases e:l1=l2
  ·rw [decide_eq_true e,e];exact tR.2 rfl
  ·rw [decide_eq_false e];exact Lv (fun h=>e ((QY h1.1 h2.1).1 h))
 generalize decide (l1=l2)=r at *;generalize strOf l1=s1 at *;generalize strOf l2=s2 at *;generalize l1.length=n1 at *;generalize l2.length=n2 at *;clear h1 h2;go_enter Tryz.func113,Tryz.ntmps113
 go_wp2;go_ret;exact⟨rfl,rfl⟩
theorem lI(a a':Option Addr)(cap cap':Nat)(l m:List Int)(w:World)(hb:Bs w a cap l)(tp:Bs w a' cap' m)(hle:m.length<=l.length) :
  Calls Tryz.prog 93 #[.slice a l.length cap,.slice a' m.length cap'] w fun e w'=>e=.returned (.bool (decide (l.take m.length=m)))/\w=w':=by
 have h1:=hb.2.2.1;obtain⟨a1,hs,hx⟩:=jm (P:=Tryz.prog) zu30 aN hb m.length hle;have HE:=af (nA a1 a' cap cap' (l.take m.length) m w hx tp);have hl:(l.take m.length).length=m.length:=by rw [zLt];omega
 rw [hl] at HE;generalize decide (l.take m.length=m)=r at *;generalize l.length=n at *;generalize m.length=k at *;have hd:decide ((k:Int)<=(n:Int))=true:=decide_eq_true (by omega);clear hb tp hx hl;go_enter Tryz.func93,Tryz.ntmps93
 go_wp2_with (go_at_call 113;refine(ae HE).mono ?_;rintro e w2 ⟨rfl,rfl⟩)
 go_ret;exact⟨rfl,rfl⟩
def xg(x:Int)(a1:Option Addr)(n1 c1:Nat)(a2:Option Addr)(n2 c2:Nat):Value:=.agg #[.int .i64 x,.slice a1 n1 c1,.slice a2 n2 c2]
theorem cj.row{w:World}{B:Nat}{a:Option Addr}{cap:Nat}{L:List Int}(h:cj w B (.slice a L.length cap) L)(aO:L≠[]):∃ g cur,a=some ⟨g,0,none⟩/\Row w B g cap cur L/\cap<=maxLen:=by
 rcases h.2 with ⟨_,h0⟩ | ⟨g,c,cur,hv,hb,h2,h3,h4,h5,h6⟩
 ·exact absurd (List.eq_nil_of_length_eq_zero h0) aO
 ·simp only [Value.slice.injEq,true_and] at hv;obtain⟨rfl,rfl⟩:=hv;exact⟨g,cur,rfl,⟨hb,h2,h3,by omega,by rw [Nat.mul_one] at h6;exact h6⟩,h4⟩
theorem xF(L:List Int)(x:Nat):splice L x []=L:=by unfold splice;simp
theorem N4(a a1 a2:Option Addr)(cap n c1 n1 c2 n2:Nat)(x:Int)(w:World)(hx:x<0) :
  Calls Tryz.prog 40 #[.slice a n cap,xg x a1 n1 c1 a2 n2 c2] w fun e w'=>e=.returned (aR 1)/\Below w.heap.size w w':=by
 have HB:=af ((Below.refl _ w).alloc zNr (.cells #[.int .i64 x,.slice a1 n1 c1,.slice a2 n2 c2] 83));unfold xg;go_enter Tryz.func40,Tryz.ntmps40
 go_wp2;go_ret;exact⟨rfl,ae HB⟩
theorem yR(a a1 a2:Option Addr)(cap c1 c2:Nat)(L O N:List Int)(X:Nat)(w:World)(hb:Bs w a cap L)(h1:Bs w a1 c1 O)(h2:Bs w a2 c2 N)(hX:X<=L.length)(hO:L.length-X<O.length) :
  Calls Tryz.prog 40 #[.slice a L.length cap,xg X a1 O.length c1 a2 N.length c2] w fun e w'=>e=.returned (aR 1)/\Below w.heap.size w w':=by
 have Tg:=hb.2.2.1;have hOl:=h1.2.2.1;have K8:=h2.2.2.1;have HB:=af ((Below.refl _ w).alloc zNr (.cells #[.int .i64 X,.slice a1 O.length c1,.slice a2 N.length c2] 83));obtain⟨a3,oq,lF⟩:=db (P:=Tryz.prog) zu30 aN hb (X) (by omega);have AN:L.drop (X)=L.drop X:=by rfl
 rw [AN] at lF;unfold xg;have hO2:L.length-X<O.length:=by omega
 generalize L.length=n at *;generalize O.length=o at *;generalize N.length=k at *;have hXi:(X:Int)<=(n:Int):=by omega
 clear hb h1 h2 lF AN;have t1:decide (((n-X:Nat):Int)<(o:Int))=true:=decide_eq_true (by omega);go_enter Tryz.func40,Tryz.ntmps40
 go_wp2;go_ret;exact⟨rfl,ae HB⟩
theorem yS(a a1 a2:Option Addr)(cap c1 c2:Nat)(L O N:List Int)(X:Nat)(w:World)(hb:Bs w a cap L)(h1:Bs w a1 c1 O)(h2:Bs w a2 c2 N)(hX:L.length<X)(hO:L.length-X<O.length) :
  Calls Tryz.prog 40 #[.slice a L.length cap,xg X a1 O.length c1 a2 N.length c2] w fun e w'=>e=.returned (aR 1)/\Below w.heap.size w w':=by
 have Tg:=hb.2.2.1;have hOl:=h1.2.2.1;have K8:=h2.2.2.1;have HB:=af ((Below.refl _ w).alloc zNr (.cells #[.int .i64 X,.slice a1 O.length c1,.slice a2 N.length c2] 83));obtain⟨a3,oq,lF⟩:=db (P:=Tryz.prog) zu30 aN hb (L.length) (by omega);have AN:L.drop (L.length)=L.drop X:=by rw [List.drop_length,List.drop_eq_nil_of_le (by omega)]
 rw [AN] at lF;unfold xg;have hO2:L.length-L.length<O.length:=by omega
 generalize L.length=n at *;generalize O.length=o at *;generalize N.length=k at *;have hXi:(n:Int)<(X:Int):=by omega
 clear hb h1 h2 lF AN;have t1:decide (((n-n:Nat):Int)<(o:Int))=true:=decide_eq_true (by omega);go_enter Tryz.func40,Tryz.ntmps40
 go_wp2;go_ret;exact⟨rfl,ae HB⟩
theorem xe(a a1 a2:Option Addr)(cap c1 c2:Nat)(L O N:List Int)(X:Nat)(w:World)(hb:Bs w a cap L)(h1:Bs w a1 c1 O)(h2:Bs w a2 c2 N)(hX:X<=L.length)(hO:¬ L.length-X<O.length)(hN:O.length≠N.length) :
  Calls Tryz.prog 40 #[.slice a L.length cap,xg X a1 O.length c1 a2 N.length c2] w fun e w'=>e=.returned (aR 3)/\Below w.heap.size w w':=by
 have Tg:=hb.2.2.1;have hOl:=h1.2.2.1;have K8:=h2.2.2.1;have HB:=af ((Below.refl _ w).alloc zNr (.cells #[.int .i64 X,.slice a1 O.length c1,.slice a2 N.length c2] 83));obtain⟨a3,oq,lF⟩:=db (P:=Tryz.prog) zu30 aN hb (X) (by omega);have AN:L.drop (X)=L.drop X:=by rfl
 rw [AN] at lF;unfold xg;have hO2:¬ L.length-X<O.length:=by omega
 generalize L.length=n at *;generalize O.length=o at *;generalize N.length=k at *;have hXi:(X:Int)<=(n:Int):=by omega
 clear hb h1 h2 lF AN;have t1:¬ (((n-X:Nat):Int)<(o:Int)):=by omega
 have t2:¬ ((o:Int)=(k:Int)):=by omega
 go_enter Tryz.func40,Tryz.ntmps40
 go_wp2;go_ret;exact⟨rfl,ae HB⟩
theorem xf(a a1 a2:Option Addr)(cap c1 c2:Nat)(L O N:List Int)(X:Nat)(w:World)(hb:Bs w a cap L)(h1:Bs w a1 c1 O)(h2:Bs w a2 c2 N)(hX:L.length<X)(hO:¬ L.length-X<O.length)(hN:O.length≠N.length) :
  Calls Tryz.prog 40 #[.slice a L.length cap,xg X a1 O.length c1 a2 N.length c2] w fun e w'=>e=.returned (aR 3)/\Below w.heap.size w w':=by
 have Tg:=hb.2.2.1;have hOl:=h1.2.2.1;have K8:=h2.2.2.1;have HB:=af ((Below.refl _ w).alloc zNr (.cells #[.int .i64 X,.slice a1 O.length c1,.slice a2 N.length c2] 83));obtain⟨a3,oq,lF⟩:=db (P:=Tryz.prog) zu30 aN hb (L.length) (by omega);have AN:L.drop (L.length)=L.drop X:=by rw [List.drop_length,List.drop_eq_nil_of_le (by omega)]
 rw [AN] at lF;unfold xg;have hO2:¬ L.length-L.length<O.length:=by omega
 generalize L.length=n at *;generalize O.length=o at *;generalize N.length=k at *;have hXi:(n:Int)<(X:Int):=by omega
 clear hb h1 h2 lF AN;have t1:¬ (((n-n:Nat):Int)<(o:Int)):=by omega
 have t2:¬ ((o:Int)=(k:Int)):=by omega
 go_enter Tryz.func40,Tryz.ntmps40
 go_wp2;go_ret;exact⟨rfl,ae HB⟩
theorem yQ(a a1 a2:Option Addr)(cap c1 c2:Nat)(L O N:List Int)(X:Nat)(w:World)(hb:Bs w a cap L)(h1:Bs w a1 c1 O)(h2:Bs w a2 c2 N)(hX:X<=L.length)(hO:¬ L.length-X<O.length)(hN:O.length=N.length)(hS:¬ (L.drop X).take O.length=O) :
  Calls Tryz.prog 40 #[.slice a L.length cap,xg X a1 O.length c1 a2 N.length c2] w fun e w'=>e=.returned (aR 6)/\Below w.heap.size w w':=by
 have Tg:=hb.2.2.1;have hOl:=h1.2.2.1;have K8:=h2.2.2.1;have HB:=af ((Below.refl _ w).alloc zNr (.cells #[.int .i64 X,.slice a1 O.length c1,.slice a2 N.length c2] 83));obtain⟨a3,oq,lF⟩:=db (P:=Tryz.prog) zu30 aN hb (X) (by omega);have AN:L.drop (X)=L.drop X:=by rfl
 rw [AN] at lF;have nJ:(L.drop X).length=L.length-X:=by rw [<- AN,zLd]
 have HP:=af (lI a3 a1 (cap-X) c1 (L.drop X) O _ (lF.below (ae HB)) (h1.below (ae HB)) (by rw [zLd];omega));rw [decide_eq_false hS,nJ] at HP;unfold xg;have hO2:¬ L.length-X<O.length:=by omega
 rw [<- hN] at K8 HB HP ⊢;generalize L.length=n at *;generalize O.length=o at *;have hXi:(X:Int)<=(n:Int):=by omega
 clear hb h1 h2 lF AN hS nJ hN;have t1:¬ (((n-X:Nat):Int)<(o:Int)):=by omega
 go_enter Tryz.func40,Tryz.ntmps40
 go_wp2_with (go_at_call 93;refine(ae HP).mono ?_;rintro e w2 ⟨rfl,rfl⟩)
 go_ret;exact⟨rfl,ae HB⟩
theorem Bg(a a1 a2:Option Addr)(cap c1 c2:Nat)(L O N:List Int)(X:Nat)(w:World)(hb:Bs w a cap L)(h1:Bs w a1 c1 O)(h2:Bs w a2 c2 N)(hX:X<=L.length)(hO:¬ L.length-X<O.length)(hN:N=[])(hON:O.length=N.length)(hS:(L.drop X).take O.length=O) :
  Calls Tryz.prog 40 #[.slice a L.length cap,xg X a1 O.length c1 a2 N.length c2] w fun e w'=>e=.returned .nilIface/\Below w.heap.size w w':=by
 have Tg:=hb.2.2.1;have hOl:=h1.2.2.1;have K8:=h2.2.2.1;have HB:=af ((Below.refl _ w).alloc zNr (.cells #[.int .i64 X,.slice a1 O.length c1,.slice a2 N.length c2] 83));obtain⟨a3,oq,lF⟩:=db (P:=Tryz.prog) zu30 aN hb (X) (by omega);have AN:L.drop (X)=L.drop X:=by rfl
 rw [AN] at lF;have nJ:(L.drop X).length=L.length-X:=by rw [<- AN,zLd]
 have HP:=af (lI a3 a1 (cap-X) c1 (L.drop X) O _ (lF.below (ae HB)) (h1.below (ae HB)) (by rw [zLd];omega));rw [decide_eq_true hS,nJ] at HP;unfold xg;have hO2:¬ L.length-X<O.length:=by omega
 subst hN;obtain rfl:O=[]:=List.eq_nil_of_length_eq_zero (by rw [hON];rfl);have D7:∀ w',Sem.run Tryz.prog (Builtin.copy_ #[30,30] 3 #[.slice a3 (L.length-X) (cap-X),.slice a2 0 c2]) w'=.ok (.int .i64 0) w':=fun w'=>by have bw:=run_copy_none (P:=Tryz.prog) w' 30 30 3 5 a3 a2 (L.length-X) (cap-X) 0 c2 zu30 aN (by simp);simpa [goInt] using bw
 simp only [List.length_nil] at *;generalize L.length=n at *;have hXi:(X:Int)<=(n:Int):=by omega
 clear hb h1 h2 lF AN hS nJ hON;go_enter Tryz.func40,Tryz.ntmps40
 go_wp2_with (go_at_call 93;refine(ae HP).mono ?_;rintro e w2 ⟨rfl,rfl⟩)
 go_ret;exact⟨rfl,ae HB⟩
theorem Bh(a a1 a2:Option Addr)(cap c1 c2:Nat)(L O N:List Int)(X:Nat)(w:World)(hb:Bs w a cap L)(h1:Bs w a1 c1 O)(h2:Bs w a2 c2 N)(hX:L.length<X)(hO:¬ L.length-X<O.length)(hN:N=[])(hON:O.length=N.length)(hS:(L.drop X).take O.length=O) :
  Calls Tryz.prog 40 #[.slice a L.length cap,xg X a1 O.length c1 a2 N.length c2] w fun e w'=>e=.returned .nilIface/\Below w.heap.size w w':=by
 have Tg:=hb.2.2.1;have hOl:=h1.2.2.1;have K8:=h2.2.2.1;have HB:=af ((Below.refl _ w).alloc zNr (.cells #[.int .i64 X,.slice a1 O.length c1,.slice a2 N.length c2] 83));obtain⟨a3,oq,lF⟩:=db (P:=Tryz.prog) zu30 aN hb (L.length) (by omega);have AN:L.drop (L.length)=L.drop X:=by rw [List.drop_length,List.drop_eq_nil_of_le (by omega)]
 rw [AN] at lF;have nJ:(L.drop X).length=L.length-L.length:=by rw [<- AN,zLd]
 have HP:=af (lI a3 a1 (cap-L.length) c1 (L.drop X) O _ (lF.below (ae HB)) (h1.below (ae HB)) (by rw [zLd];omega));rw [decide_eq_true hS,nJ] at HP;unfold xg;have hO2:¬ L.length-L.length<O.length:=by omega
 subst hN;obtain rfl:O=[]:=List.eq_nil_of_length_eq_zero (by rw [hON];rfl);have D7:∀ w',Sem.run Tryz.prog (Builtin.copy_ #[30,30] 3 #[.slice a3 (L.length-L.length) (cap-L.length),.slice a2 0 c2]) w'=.ok (.int .i64 0) w':=fun w'=>by have bw:=run_copy_none (P:=Tryz.prog) w' 30 30 3 5 a3 a2 (L.length-L.length) (cap-L.length) 0 c2 zu30 aN (by simp);simpa [goInt] using bw
 simp only [List.length_nil] at *;rw [Nat.sub_self] at HP;simp only [Nat.sub_self] at oq D7;generalize L.length=n at *;have hXi:(n:Int)<(X:Int):=by omega
 clear hb h1 h2 lF AN hS nJ hON;go_enter Tryz.func40,Tryz.ntmps40
 go_wp2_with (go_at_call 93;refine(ae HP).mono ?_;rintro e w2 ⟨rfl,rfl⟩)
 go_ret;exact⟨rfl,ae HB⟩
theorem Kt(a a1 a2:Option Addr)(cap c1 c2:Nat)(L O N:List Int)(X B:Nat)(w:World)(ho:cj w B (.slice a L.length cap) L)(ik:bj L)(Tg:L.length<=140737488351232)(h1:Bs w a1 c1 O)(h2:Bs w a2 c2 N)(hB:B<=w.heap.size)(hO:¬ L.length-X<O.length)(hN:N≠[])(hON:O.length=N.length)(hS:(L.drop X).take O.length=O) :
  Calls Tryz.prog 40 #[.slice a L.length cap,xg X a1 O.length c1 a2 N.length c2] w fun e w'=>e=.returned .nilIface/\cj w' B (.slice a L.length cap) (splice L X N)/\Below B w w':=by
 have jf:0<N.length:=by
  cases N with
  | nil=>exact absurd rfl hN
  | cons _ _=>simp
 have hXL:X<L.length:=by omega
 obtain⟨g,cur,rfl,bn,F8⟩:=ho.row (by intro e;rw [e] at hXL;simp at hXL);have hOl:=h1.2.2.1;have K8:=h2.2.2.1;have py:=bn.2.2.1;have zbG:g<w.heap.size:=(zAg bn.2.1).1;have HB:=af ((Below.refl _ w).alloc zNr (.cells #[.int .i64 X,.slice a1 O.length c1,.slice a2 N.length c2] 83));have oq:=rY (P:=Tryz.prog) zu30 aN g cap L.length X (by omega) py (by omega);have lF:Bs w (some ⟨g,X,none⟩) (cap-X) (L.drop X):=by have hb:=bn.bs ik Tg;obtain⟨b,off,e,hc⟩:=hb.2.2.2.2 (by intro e;rw [e] at hXL;simp at hXL);simp only [Option.some.injEq,Addr.mk.injEq,and_true] at e;obtain⟨rfl,rfl⟩:=e;refine⟨fun z hz=>ik z (List.mem_of_mem_drop hz),by rw [zLd];omega,by rw [zLd];omega,fun e=>(by cases e),fun _=>⟨g,X,rfl,fun i hi=>?_⟩⟩;rw [zLd] at hi;have:=hc (X+i) (by omega);rw [Nat.zero_add] at this;rw [this];simp [List.getD]
 have Xp:Row (w.alloc (.cells #[.int .i64 X,.slice a1 O.length c1,.slice a2 N.length c2] 83)) B g cap cur L:=⟨bn.1,(heap_alloc_old _ _ zbG).trans bn.2.1,bn.2.2.1,bn.2.2.2.1,bn.2.2.2.2⟩;have nJ:(L.drop X).length=L.length-X:=by rw [zLd]
 have HP:=af (lI (some ⟨g,X,none⟩) a1 (cap-X) c1 (L.drop X) O _ (lF.below (ae HB)) (h1.below (ae HB)) (by rw [zLd];omega));rw [decide_eq_true hS,nJ] at HP;have D7:Sem.run Tryz.prog (Builtin.copy_ #[30,30] 3 #[.slice (some ⟨g,X,none⟩) (L.length-X) (cap-X),.slice a2 N.length c2]) (w.alloc (.cells #[.int .i64 X,.slice a1 O.length c1,.slice a2 N.length c2] 83))=.ok (.int .i64 N.length) (fJ (w.alloc (.cells #[.int .i64 X,.slice a1 O.length c1,.slice a2 N.length c2] 83)) g cur X N) :=fz _ _ _ _ zu30 aN _ g X _ _ cap cur a2 c2 L N (by omega) hN (by omega) Xp (h2.below (ae HB));have zjA:=af (show cj (fJ (w.alloc (.cells #[.int .i64 X,.slice a1 O.length c1,.slice a2 N.length c2] 83)) g cur X N) B (.slice (some ⟨g,0,none⟩) L.length cap) (splice L X N) from by have:=(jb (r:=N) (off:=X) Xp (by omega)).own F8;unfold Own at this;unfold cj;rw [length_splice (by omega)] at this ⊢;exact this);have HFB:=af (gh (cur:=cur) (l:=N) (off:=X) ((ae HB).mono hB) bn.1);unfold xg;rw [hON] at hOl HB HP D7 zjA HFB ⊢;have hO2:¬ (((L.length-X:Nat):Int)<(N.length:Int)):=by omega
 have hXi:(X:Int)<=(L.length:Int):=by omega
 generalize hLn:L.length=n at *;generalize hNn:N.length=k at *;clear lF Xp bn ho h1 h2 hS nJ hON HB hNn hLn;go_enter Tryz.func40,Tryz.ntmps40
 go_wp2_with (go_at_call 93;refine(ae HP).mono ?_;rintro e w2 ⟨rfl,rfl⟩)
 go_ret;exact⟨rfl,ae zjA,ae HFB⟩
theorem N5(a a1 a2:Option Addr)(cap c1 c2:Nat)(L O N:List Int)(x:Int)(B:Nat)(w:World)(ho:cj w B (.slice a L.length cap) L)(ik:bj L)(Tg:L.length<=140737488351232)(h1:Bs w a1 c1 O)(h2:Bs w a2 c2 N)(hB:B<=w.heap.size) :
  Calls Tryz.prog 40 #[.slice a L.length cap,xg x a1 O.length c1 a2 N.length c2] w fun e w'=>e=.returned (aR (fZ L (x,O,N)))/\(fZ L (x,O,N)=0->cj w' B (.slice a L.length cap) (jk L (x,O,N)))/\Below B w w':=by
 have hb:Bs w a cap L:=by obtain⟨a',c',e,aX⟩:=ho.bs ik Tg;simp only [Value.slice.injEq,true_and] at e;rw [e.1,e.2];exact aX
 have bad:∀ k:Int,k≠0->fZ L (x,O,N)=k->(Calls Tryz.prog 40 #[.slice a L.length cap,xg x a1 O.length c1 a2 N.length c2] w fun e w'=>e=.returned (aR k)/\Below w.heap.size w w')->Calls Tryz.prog 40 #[.slice a L.length cap,xg x a1 O.length c1 a2 N.length c2] w fun e w'=>e=.returned (aR (fZ L (x,O,N)))/\(fZ L (x,O,N)=0->cj w' B (.slice a L.length cap) (jk L (x,O,N)))/\Below B w w':=fun k hk he h=>h.mono fun e w' ⟨h3,h4⟩=>⟨by rw [he];exact h3,fun h0=>absurd (he.symm.trans h0) hk,h4.mono hB⟩
 by_cases hx:x<0
 ·exact bad 1 (by decide) (by unfold fZ;dsimp only;rw [if_pos (.inl hx)]) (N4 a a1 a2 cap L.length c1 O.length c2 N.length x w hx)
 ·obtain⟨X,rfl⟩:=Int.eq_ofNat_of_zero_le (by omega:0<=x);by_cases hO:L.length-X<O.length
  ·refine bad 1 (by decide) (by unfold fZ;dsimp only;rw [zTn,if_pos (.inr hO)]) ?_;rcases Nat.lt_or_ge L.length X with h | h
   ·exact yS a a1 a2 cap c1 c2 L O N X w hb h1 h2 h hO
   ·exact yR a a1 a2 cap c1 c2 L O N X w hb h1 h2 h hO
  ·by_cases hN:O.length=N.length
   ·by_cases hS:(L.drop X).take O.length=O
    ·have he:fZ L ((X:Int),O,N)=0:=by unfold fZ;dsimp only;rw [zTn,if_neg (by omega),if_neg (fun h=>h hN),if_neg (fun h=>h hS)]
     rw [he,aA];have jw:jk L ((X:Int),O,N)=splice L X N:=by unfold jk;dsimp only;rw [zTn]
     rw [jw];by_cases aO:N=[]
     ·rw [aO,xF,<- aO];have uQ:(Calls Tryz.prog 40 #[.slice a L.length cap,xg X a1 O.length c1 a2 N.length c2] w fun e w'=>e=.returned .nilIface/\Below w.heap.size w w')->Calls Tryz.prog 40 #[.slice a L.length cap,xg X a1 O.length c1 a2 N.length c2] w fun e w'=>e=.returned .nilIface/\((0:Int)=0->cj w' B (.slice a L.length cap) L)/\Below B w w':=fun h=>h.mono fun e w' ⟨h3,h4⟩=>⟨h3,fun _=>ho.below h4,h4.mono hB⟩
      refine uQ ?_;rcases Nat.lt_or_ge L.length X with h | h
      ·exact Bh a a1 a2 cap c1 c2 L O N X w hb h1 h2 h hO aO hN hS
      ·exact Bg a a1 a2 cap c1 c2 L O N X w hb h1 h2 h hO aO hN hS
     ·exact(Kt a a1 a2 cap c1 c2 L O N X B w ho ik Tg h1 h2 hB hO aO hN hS).mono fun e w' ⟨h3,h4,h5⟩=>⟨h3,fun _=>h4,h5⟩
    ·refine bad 6 (by decide) (by unfold fZ;dsimp only;rw [zTn,if_neg (by omega),if_neg (fun h=>h hN),if_pos hS]) ?_;rcases Nat.lt_or_ge L.length X with h | h
     ·refine absurd ?_ hS;have h0:O=[]:=List.eq_nil_of_length_eq_zero (by omega);rw [h0];simp
     ·exact yQ a a1 a2 cap c1 c2 L O N X w hb h1 h2 h hO hN hS
   ·refine bad 3 (by decide) (by unfold fZ;dsimp only;rw [zTn,if_neg (by omega),if_pos hN]) ?_;rcases Nat.lt_or_ge L.length X with h | h
    ·exact xf a a1 a2 cap c1 c2 L O N X w hb h1 h2 h hO hN
    ·exact xe a a1 a2 cap c1 c2 L O N X w hb h1 h2 h hO hN
theorem Q0{L:List Int}{c:(Int×List Int×List Int)}(h:fZ L c=0):(jk L c).length=L.length:=by
 unfold fZ at h;by_cases h1:c.1<0\/L.length-c.1.toNat<c.2.1.length
 ·rw [if_pos h1] at h;cases h
 ·rw [if_neg h1] at h;by_cases h2:c.2.1.length≠c.2.2.length
  ·rw [if_pos h2] at h;cases h
  ·have kL:c.2.1.length=c.2.2.length:=Classical.byContradiction h2;unfold jk;by_cases h3:c.2.2=[]
   ·rw [h3,xF]
   ·exact length_splice (by
     have:0<c.2.2.length:=by
      cases hc:c.2.2 with
      | nil=>exact absurd hc h3
      | cons _ _=>simp
     omega)
def si(L:List Int)(l:List (Int×List Int×List Int))(k:Nat):Int:=apE L (l.take k)
def Bq(L:List Int)(l:List (Int×List Int×List Int))(k:Nat):List Int:=TY L (l.take k)
theorem ru{l:List (Int×List Int×List Int)}{k:Nat}(h:k<l.length):l.take (k+1)=l.take k++[l.getD k (0,[],[])]:=by
 rw [List.take_succ_eq_append_getElem h]
 congr 2
 simp [List.getD,h]
theorem EC{L:List Int}{l:List (Int×List Int×List Int)}{k:Nat}(h:k<l.length)(h0:si L l k=0):si L l (k+1)=fZ (Bq L l k) (l.getD k (0,[],[])):=by
 unfold si Bq at *;rw [ru h,Of h0];unfold apE;by_cases h1:fZ (TY L (l.take k)) (l.getD k (0,[],[]))=0
 ·rw [if_pos h1,h1];rfl
 ·rw [if_neg h1]
theorem xn{L:List Int}{l:List (Int×List Int×List Int)}{k:Nat}(h:k<l.length):Bq L l (k+1)=jk (Bq L l k) (l.getD k (0,[],[])):=by unfold Bq;rw [ru h,Oe];rfl
theorem KD{L:List Int}:∀ {l m:List (Int×List Int×List Int)},apE L l≠0->apE L (l++m)=apE L l:=by
 intro l;induction l generalizing L with
 | nil=>intro m h;exact absurd rfl h
 | cons c l ih =>
  intro m h;unfold apE at h
  show(if fZ L c=0 then apE (jk L c) (l++m) else fZ L c)=(if fZ L c=0 then apE (jk L c) l else fZ L c)
  by_cases h1:fZ L c=0
  ·rw [if_pos h1] at h;rw [if_pos h1,if_pos h1];exact ih h
  ·rw [if_neg h1,if_neg h1]
theorem TZ{L:List Int}{l:List (Int×List Int×List Int)}{k:Nat}(h:si L l k≠0):apE L l=si L l k:=by unfold si at *;have:=KD (m:=l.drop k) h;rw [List.take_append_drop] at this;exact this
theorem KC{L:List Int}{l:List (Int×List Int×List Int)}:∀ {k:Nat},k<=l.length->si L l k=0->(Bq L l k).length=L.length
 | 0,_,_=>rfl
 | k+1,hk,h0=>by
  have h1:si L l k=0:=Classical.byContradiction fun aO=>by have hl:=KD (L:=L) (l:=l.take k) (m:=[l.getD k (0,[],[])]) aO;unfold si at h0;rw [ru (by omega)] at h0;exact aO (hl.symm.trans h0)
  rw [xn (by omega),Q0 (by rw [<- EC (by omega) h1];exact h0)];exact KC (by omega) h1
def Qp(L:List Int)(l:List (Int×List Int×List Int)):Int:=if 200<l.length then 4 else apE L l
def TX(L:List Int)(l:List (Int×List Int×List Int)):List Int:=if Qp L l=0 then TY L l else []
theorem TO{L:List Int}{c:(Int×List Int×List Int)}(h:bj L)(hc:bj c.2.2):bj (jk L c):=bN h hc
theorem Kw{L:List Int}{l:List (Int×List Int×List Int)}(h:bj L)(hl:∀ i,i<l.length->bj (l.getD i (0,[],[])).2.2):∀ {k:Nat},k<=l.length->bj (Bq L l k)
 | 0,_=>h
 | k+1,hk=>by rw [xn (by omega)];exact TO (Kw h hl (by omega)) (hl k (by omega))
theorem EA(a al:Option Addr)(cap cl:Nat)(L:List Int)(l:List (Int×List Int×List Int))(w:World)(hb:Bs w a cap L)(hl:Qz w al cl l)(zlC:l.length<=200) :
  Calls Tryz.prog 12 #[.slice a L.length cap,.slice al l.length cl] w (Ends w (TX L l) (aR (apE L l))):=by
 have hF:Qp L l=apE L l:=by unfold Qp;rw [if_neg (by omega)]
 have hR0:apE L l=0->TX L l=Bq L l l.length:=fun h=>by unfold TX Bq;rw [hF,if_pos h,List.take_length]
 have hR1:apE L l≠0->TX L l=[]:=fun h=>by unfold TX;rw [hF,if_neg h]
 have hE:apE L l=si L l l.length:=by unfold si;rw [List.take_length]
 have hLn:=hb.2.2.1;have ic:=af (fun(k:Nat) (hk:k<=l.length)=>Kw (l:=l) hb.1 (fun i hi=>by obtain⟨_,_,_,_,_,_,_,_,_,_,_,h⟩:=hl.at hi;exact h.1) hk);have HC:=af (kg a cap L w hb);have HL:=af hl;have HR0:=af hR0;have vp:=af hR1;have HE:=af hE;have qh:=af (fun(k:Nat) (hk:k<l.length) (h0:si L l k=0)=>EC hk h0);have HSL:=af (fun(k:Nat) (hk:k<l.length)=>xn (L:=L) hk);have Oy:=af (fun(k:Nat) (h:si L l k≠0)=>TZ h);have qc:=af (fun(k:Nat) (hk:k<=l.length) (h:si L l k=0)=>KC hk h);have cY:si L l 0=0:=rfl;have dw:Bq L l 0=L:=rfl;clear hb hl hR0 hR1 hE hF;generalize apE L l=AE at *;generalize TX L l=AR at *;generalize si L l=EK at *;generalize Bq L l=LK at *;generalize hn:L.length=n at *;generalize hm:l.length=m at *;have HM:=af hm;clear hn hm;go_enter Tryz.func12,Tryz.ntmps12
 go_wp2_with fail
 refine(ae HC).mono ?_;rintro e w1 ⟨a1,c1,rfl,az,ay⟩;rw [<- dw] at az;have BX:=af az;have aL:=af ay;clear az ay HC;go_wp2_with fail
 go_loopw [18] (fun kv wr=>∃ k:Nat,k<=m/\kv=.int .i64 k/\EK k=0/\cj wr w.heap.size (.slice a1 n c1) (LK k)/\Below w.heap.size w wr) (fun kv _=>m-(intOf kv).toNat)
 case atStart=>exact⟨0,Nat.zero_le _,rfl,cY,ae BX,ae aL⟩
 case round =>
  obtain⟨k,hk,rfl,hk0,az,ao⟩:=hrel;by_cases aM:k<m
  ·have hlen:=ae qc k (by omega) hk0;obtain⟨b,off,s1,d1,s2,d2,rfl,q0,q1,q2,h1,h2⟩:=((ae HL).below ao).at (show k<l.length by rw [ae HM];exact aM);have jw:=ae qh k aM hk0;have tE:=ae HSL k aM;generalize l.getD k (0,[],[])=c at *;obtain⟨x,O,N⟩:=c;dsimp only at q0 q1 q2 h1 h2;have fp:Below wr.heap.size wr (wr.alloc (.cells #[.int .i64 x,.slice s1 O.length d1,.slice s2 N.length d2] 83)):=(Below.refl _ wr).alloc zNr _;have wL:=N5 a1 s1 s2 c1 d1 d2 (LK k) O N x w.heap.size _ (by rw [hlen];exact az.below fp) (ae ic k (by omega)) (by omega) (h1.below fp) (h2.below fp) (Nat.le_trans ao.size fp.size);rw [hlen,<- jw,<- tE] at wL;unfold xg at wL;have G4:=af wL;have HBT:=af (ao.trans (fp.mono ao.size));have hOl:=h1.2.2.1;have K8:=h2.2.2.1;have Ua:=af (ae Oy (k+1));generalize O.length=o at *;generalize N.length=nn at *;clear wL jw tE h1 h2 fp az ao hlen;go_wp2_with fail
   refine(ae G4).mono ?_;rintro e w2 ⟨rfl,dy,aK⟩;by_cases hz:EK (k+1)=0
   ·rw [hz,aA];have zm:=af (dy hz);have br:=af ((ae HBT).trans aK);clear dy aK HBT G4;go_wp2;go_roundw
    case rel=>exact⟨k+1,by omega,by go_num,hz,ae zm,ae br⟩
    case measure=>simp [intOf];omega
   ·rw [aC _ hz];have br:=af ((ae HBT).trans aK);clear dy aK HBT G4;go_wp2;go_ret2;have he:=ae Ua hz;rw [ae vp (by rw [he];exact hz),he,aC _ hz];exact⟨none,0,rfl,eC _,ae br⟩
  ·obtain rfl:k=m:=by omega
   have HO:=af az;have HB:=af ao;clear az ao;go_wp2;go_ret2;have he:AE=0:=(ae HE).trans hk0;have hlen:=ae qc k zNr hk0;rw [ae HR0 he,he,aA];have hO:=ae HO;rw [<- hlen] at hO;obtain⟨a',c',e',aX⟩:=hO.bs (ae ic k zNr) (by rw [hlen];omega);simp only [Value.slice.injEq,true_and] at e';refine⟨a1,c1,by rw [hlen];rfl,?_,ae HB⟩;rw [e'.1,e'.2];exact aX
end Go.Proofs.YtcimhnnendlblaaGreat
