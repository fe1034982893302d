/-
  Parts of the proofs.
-/
import Derived.Test.YtcimhnnendlblaaGreatJIm
set_option maxRecDepth 100000
set_option maxHeartbeats 16000000
set_option linter.all false
namespace Go.Proofs.YtcimhnnendlblaaGreat
section
open Go.RowKit
def Ul(b:List Int)(h:Int):Bool:=decide (aq b h≠0) && decide (di b (ai b h)=0)
def nZ(e f:(Int×Int×Int×Int)):Bool:=decide (e.2.1<f.2.1+f.2.2.1) && decide (f.2.1<e.2.1+e.2.2.1)
def lapK(b:List Int)(h:Int):Nat->Bool
 | 0=>false
 | k+1=>lapK b h k || (Ul b ((k:Int)+1) && nZ (ai b h) (ai b ((k:Int)+1)))
theorem nY{b:List Int}{h:Int}:∀ {k:Nat},lapK b h k=true ↔ ∃ j:Nat,j<k/\Ul b ((j:Int)+1)=true/\nZ (ai b h) (ai b ((j:Int)+1))=true
 | 0=>by simp [lapK]
 | k+1=>by
  unfold lapK;rw [Bool.or_eq_true,Bool.and_eq_true,nY];constructor
  ·rintro (⟨j,h1,h2⟩ | h2)
   ·exact⟨j,by omega,h2⟩
   ·exact⟨k,by omega,h2⟩
  ·rintro ⟨j,h1,h2⟩;by_cases e:j=k
   ·subst e;exact .inr h2
   ·exact .inl ⟨j,by omega,h2⟩
def oM(b:List Int)(h:Int):Int:=if aq b h=0 then 0 else if di b (ai b h)≠0 then 3 else if lapK b h (h-1).toNat=true then 2 else 1
def eH(b:List Int)(h:Int):List (Int×Int) :=if oM b h=0 then (if (ai b h).2.1=0/\(ai b h).2.2.1=0 then [] else [(3,h)]) else if oM b h=3 then [(1,h)] else if oM b h=2 then [(2,h)] else []
def vC(b:List Int):Nat->List (Int×Int)
 | 0=>[]
 | k+1=>vC b k++eH b ((k:Int)+1)
def pJ(b:List Int)(i:Nat):Bool :=decide ((aT ((rowAt b i).take 8)).2≠0) || (decide ((rowAt b i).getD 8 0≠0) || (decide ((rowAt b i).getD 9 0≠0) || (!dC ((rowAt b i).getD 10 0) || decide (oM b ((rowAt b i).getD 10 0)≠1))))
def nameAt(b:List Int)(i:Nat):ByteArray:=(aT ((rowAt b i).take 8)).1
def dJ(b:List Int)(i:Nat)(ns:List ByteArray):Bool:=isRoot (rowAt b i) && (!pJ b i && !ns.contains (nameAt b i))
def cG(b:List Int):Nat->List ByteArray
 | 0=>[]
 | k+1=>cG b k++if dJ b k (cG b k)=true then [nameAt b k] else []
def dX(b:List Int)(i:Nat):List (Int×Int) :=if isRoot (rowAt b i)=false then [] else if pJ b i=true then [(4,i)] else if (cG b i).contains (nameAt b i)=true then [(5,i)] else []
def vy(b:List Int):Nat->List (Int×Int)
 | 0=>[]
 | k+1=>vy b k++dX b k
def bh(b:List Int):List (Int×Int):=vC b 40++vy b 8
theorem kq{b:List Int}{f:Int×Int}:∀ {k:Nat},f∈vC b k ↔ ∃ j:Nat,j<k/\f∈eH b ((j:Int)+1)
 | 0=>by simp [vC]
 | k+1=>by
  unfold vC;rw [List.mem_append,kq];constructor
  ·rintro (⟨j,h1,h2⟩ | h2)
   ·exact⟨j,by omega,h2⟩
   ·exact⟨k,by omega,h2⟩
  ·rintro ⟨j,h1,h2⟩;by_cases e:j=k
   ·subst e;exact .inr h2
   ·exact .inl ⟨j,by omega,h2⟩
theorem kp{b:List Int}{f:Int×Int}:∀ {k:Nat},f∈vy b k ↔ ∃ j:Nat,j<k/\f∈dX b j
 | 0=>by simp [vy]
 | k+1=>by
  unfold vy;rw [List.mem_append,kp];constructor
  ·rintro (⟨j,h1,h2⟩ | h2)
   ·exact⟨j,by omega,h2⟩
   ·exact⟨k,by omega,h2⟩
  ·rintro ⟨j,h1,h2⟩;by_cases e:j=k
   ·subst e;exact .inr h2
   ·exact .inl ⟨j,by omega,h2⟩
theorem Np(b:List Int)(h:Int):(eH b h).length<=1:=by
 unfold eH
 repeat' split
 all_goals simp
theorem L8(b:List Int)(i:Nat):(dX b i).length<=1:=by
 unfold dX
 repeat' split
 all_goals simp
theorem rT(b:List Int)(k:Nat):(vC b k).length<=k:=by
 induction k with
 | zero=>exact zNr
 | succ k ih=>unfold vC;rw [zLa];have:=Np b ((k:Int)+1);omega
theorem rD(b:List Int)(k:Nat):(vy b k).length<=k:=by
 induction k with
 | zero=>exact zNr
 | succ k ih=>unfold vy;rw [zLa];have:=L8 b k;omega
theorem mw(b:List Int):(bh b).length<=48:=by unfold bh;rw [zLa];have:=rT b 40;have:=rD b 8;omega
theorem nL(n j:Nat):(ag n).getD j 0=0:=by have:=jT n 0 j;rwa [List.drop_zero] at this
section
variable {b:List Int}
theorem nu{h:Int}{f:Int×Int}(h1:1<=h)(h2:h<=40)(hf:f∈eH b h):f∈bh b:=by unfold bh;refine List.mem_append.2 (.inl (kq.2 ⟨(h-1).toNat,by omega,?_⟩));rw [show(((h-1).toNat:Nat):Int)+1=h by omega];exact hf
theorem qU{i:Nat}{f:Int×Int}(hi:i<8)(hf:f∈dX b i):f∈bh b:=by unfold bh;exact List.mem_append.2 (.inr (kp.2 ⟨i,hi,hf⟩))
theorem tu{c:List Int}{h:Int}(hlen:c.length=b.length)(hb:288<=b.length)(h1:1<=h)(h2:h<=40)(hs:∀ j,j<5->c.getD (cJ h+j) 0=b.getD (cJ h+j) 0):aq c h=aq b h/\ai c h=ai b h:=by have hp:=cH h1 h2;have e0:=hs 0 (by omega);rw [Nat.add_zero] at e0;have ht:aq c h=aq b h:=e0;refine⟨ht,?_⟩;unfold ai;rw [ht,dI _ _ (by omega),dI _ _ (by omega),dI b _ (by omega),dI b _ (by omega)];have e1:=hs 1 (by omega);have e2:=hs 2 (by omega);have e3:=hs 3 (by omega);have e4:=hs 4 (by omega);rw [e1,show cJ h+1+1=cJ h+2 by omega,e2,e3,show cJ h+3+1=cJ h+4 by omega,e4]
theorem ig{c:List Int}{e:(Int×Int×Int×Int)}(hlen:c.length=b.length):di c e=di b e:=by unfold di;rw [hlen]
theorem zp(b:List Int)(h:Int):oM b h=0\/oM b h=1\/oM b h=2\/oM b h=3:=by
 unfold oM
 repeat' split
 all_goals simp
theorem oR{h:Int}:oM b h=0 ↔ aq b h=0:=by
 unfold oM;by_cases h0:aq b h=0
 ·rw [if_pos h0];simp [h0]
 ·rw [if_neg h0];constructor
  ·intro h
   repeat' split at h
   all_goals cases h
  ·intro h;exact absurd h h0
theorem dH{h:Int}:eH b h=[] ↔ (oM b h=1\/(aq b h=0/\(ai b h).2.1=0/\(ai b h).2.2.1=0)):=by
 unfold eH;rcases zp b h with h0 | h0 | h0 | h0
 ·rw [if_pos h0];have ht:=oR.1 h0;by_cases h1:(ai b h).2.1=0/\(ai b h).2.2.1=0
  ·rw [if_pos h1];exact⟨fun _=>.inr ⟨ht,h1⟩,fun _=>rfl⟩
  ·rw [if_neg h1];constructor
   ·intro h;cases h
   ·rintro (h | h)
    ·omega
    ·exact absurd h.2 h1
 ·rw [if_neg (by omega),if_neg (by omega),if_neg (by omega)];exact⟨fun _=>.inl h0,fun _=>rfl⟩
 ·rw [if_neg (by omega),if_neg (by omega),if_pos h0];have ht:aq b h≠0:=fun e=>by have:=oR.2 e;omega
  constructor
  ·intro h;cases h
  ·rintro (h | h)
   ·omega
   ·exact absurd h.1 ht
 ·rw [if_neg (by omega),if_pos h0];have ht:aq b h≠0:=fun e=>by have:=oR.2 e;omega
  constructor
  ·intro h;cases h
  ·rintro (h | h)
   ·omega
   ·exact absurd h.1 ht
theorem iJ{h:Int}:oM b h=1 ↔ aq b h≠0/\di b (ai b h)=0/\lapK b h (h-1).toNat=false:=by
 unfold oM;by_cases h0:aq b h=0
 ·rw [if_pos h0];simp [h0]
 ·rw [if_neg h0];by_cases h1:di b (ai b h)≠0
  ·rw [if_pos h1];constructor
   ·intro h;cases h
   ·rintro ⟨_,h,_⟩;exact absurd h h1
  ·rw [if_neg h1];have vD:di b (ai b h)=0:=by simpa using h1
   by_cases h2:lapK b h (h-1).toNat=true
   ·rw [if_pos h2];constructor
    ·intro h;cases h
    ·rintro ⟨_,_,h⟩;rw [h2] at h;cases h
   ·rw [if_neg h2];exact⟨fun _=>⟨h0,vD,by simpa using h2⟩,fun _=>rfl⟩
theorem uZ{c:List Int}{h:Int}(hb:288<=c.length)(h1:1<=h)(h2:h<=40)(hz:∀ j,j<5->c.getD (cJ h+j) 0=0):aq c h=0/\(ai c h).2.1=0/\(ai c h).2.2.1=0:=by
 have hp:=cH h1 h2;have e0:=hz 0 (by omega);rw [Nat.add_zero] at e0;have e1:=hz 1 (by omega);have e2:=hz 2 (by omega);have e3:=hz 3 (by omega);have e4:=hz 4 (by omega);refine⟨e0,?_,?_⟩
 ·show bz c (cJ h+1) 2=0
  rw [dI _ _ (by omega),e1,show cJ h+1+1=cJ h+2 by omega,e2];rfl
 ·show bz c (cJ h+3) 2=0
  rw [dI _ _ (by omega),e3,show cJ h+3+1=cJ h+4 by omega,e4];rfl
theorem fu{i:Nat}:pJ b i=false ↔ (aT ((rowAt b i).take 8)).2=0/\(rowAt b i).getD 8 0=0/\(rowAt b i).getD 9 0=0/\dC ((rowAt b i).getD 10 0)=true/\oM b ((rowAt b i).getD 10 0)=1:=by unfold pJ;rw [Bool.or_eq_false_iff,Bool.or_eq_false_iff,Bool.or_eq_false_iff,Bool.or_eq_false_iff,decide_eq_false_iff_not,decide_eq_false_iff_not,decide_eq_false_iff_not,decide_eq_false_iff_not,Decidable.not_not,Decidable.not_not,Decidable.not_not,Decidable.not_not,Bool.not_eq_false']
theorem dD{i:Nat}:dX b i=[] ↔ isRoot (rowAt b i)=false\/dJ b i (cG b i)=true:=by
 unfold dX dJ;cases hr:isRoot (rowAt b i) with
 | false=>simp
 | true =>
  rw [if_neg (by simp)];cases hq:pJ b i with
  | true=>simp
  | false =>
   rw [if_neg (by simp)];cases hc:(cG b i).contains (nameAt b i) with
   | true=>simp
   | false=>simp
theorem C1{i:Nat}(hb:288<=b.length)(hi:i<8)(hz:∀ j,j<11->b.getD (200+11 * i+j) 0=0):isRoot (rowAt b i)=false:=by
 unfold isRoot;rw [List.any_eq_false];intro x hx;obtain⟨j,hj,rfl⟩:=List.getElem_of_mem hx;have hj':=hj;rw [aS (by omega)] at hj';have e:(rowAt b i).getD j 0=0:=by rw [bH hj'];exact hz j hj'
 rw [List.getD,zLg hj] at e;simp at e;simp [e]
end
def cP(b:List Int)(x n:Int):List Int:=(b.drop x.toNat).take n.toNat
def gu(b:List Int)(e:(Int×Int×Int×Int)):Int×List Int:=(e.2.2.2,cP b e.2.1 e.2.2.1)
def aD(b:List Int)(h:Int):Int×List Int:=if aq b h=0 then (-1,[]) else gu b (ai b h)
def FM(b:List Int)(k:Nat):List (Int×Int×List Int):=(entsK b k).map fun e=>(e.1,gu b e)
theorem qG{b:List Int}{x:Int×Int×List Int}:∀ {k:Nat},x∈FM b k ↔ ∃ j:Nat,j<k/\aq b ((j:Int)+1)≠0/\x=((j:Int)+1,aD b ((j:Int)+1))
 | 0=>by simp [FM,entsK]
 | k+1=>by
  have ih:=qG (b:=b) (x:=x) (k:=k);unfold FM at ih ⊢;unfold entsK;rw [List.map_append,List.mem_append,ih];by_cases ht:aq b ((k:Int)+1)=0
  ·rw [if_pos ht];constructor
   ·rintro (⟨j,h1,h2⟩ | h2)
    ·exact⟨j,by omega,h2⟩
    ·cases h2
   ·rintro ⟨j,h1,h2,h3⟩;by_cases e:j=k
    ·subst e;exact absurd ht h2
    ·exact .inl ⟨j,by omega,h2,h3⟩
  ·rw [if_neg ht];have ho:aD b ((k:Int)+1)=gu b (ai b ((k:Int)+1)):=by unfold aD;rw [if_neg ht]
   have hx:(ai b ((k:Int)+1)).1=(k:Int)+1:=rfl;constructor
   ·rintro (⟨j,h1,h2⟩ | h2)
    ·exact⟨j,by omega,h2⟩
    ·refine⟨k,by omega,ht,?_⟩;rw [List.map_cons,List.map_nil] at h2;rw [zMs h2,ho,hx]
   ·rintro ⟨j,h1,h2,h3⟩;by_cases e:j=k
    ·subst e;refine .inr ?_;rw [List.map_cons,List.map_nil,h3,ho,hx];exact List.mem_singleton.2 rfl
    ·exact .inl ⟨j,by omega,h2,h3⟩
def sameO(a b:List Int):Nat->Bool
 | 0=>true
 | k+1=>sameO a b k && decide (aD a ((k:Int)+1)=aD b ((k:Int)+1))
theorem jV{a b:List Int}:∀ {k:Nat},sameO a b k=true ↔ ∀ j:Nat,j<k->aD a ((j:Int)+1)=aD b ((j:Int)+1)
 | 0=>by simp [sameO]
 | k+1=>by
  unfold sameO;rw [Bool.and_eq_true,jV,decide_eq_true_iff];constructor
  ·rintro ⟨h1,h2⟩ j hj;by_cases e:j=k
   ·subst e;exact h2
   ·exact h1 j (by omega)
  ·intro h;exact⟨fun j hj=>h j (by omega),h k (by omega)⟩
theorem Dh{b:List Int}{h:Int}(hb:bj b)(ht:aq b h≠0):0<=(aD b h).1:=by unfold aD gu ai;rw [if_neg ht];have h1:0<=aq b h/\aq b h<=255:=hb.getD (cJ h);dsimp only;omega
theorem dF{b:List Int}{h:Int}(ht:aq b h=0):aD b h=(-1,[]):=by unfold aD;rw [if_pos ht]
theorem RI{a b:List Int}(ha:bj a)(hb:bj b)(k:Nat):FM a k=FM b k ↔ sameO a b k=true:=by
 rw [jV];constructor
 ·intro h j hj;by_cases h1:aq a ((j:Int)+1)=0
  ·by_cases h2:aq b ((j:Int)+1)=0
   ·rw [dF h1,dF h2]
   ·have hm:((j:Int)+1,aD b ((j:Int)+1))∈FM b k:=qG.2 ⟨j,hj,h2,rfl⟩;rw [<- h] at hm;obtain⟨i,hi,h3,h4⟩:=qG.1 hm;have:i=j:=by have:=congrArg Prod.fst h4;dsimp only at this;omega
    subst this;exact absurd h1 h3
  ·have hm:((j:Int)+1,aD a ((j:Int)+1))∈FM a k:=qG.2 ⟨j,hj,h1,rfl⟩;rw [h] at hm;obtain⟨i,hi,h3,h4⟩:=qG.1 hm;have:i=j:=by have:=congrArg Prod.fst h4;dsimp only at this;omega
   subst this;exact congrArg Prod.snd h4
 ·intro h;induction k with
  | zero=>rfl
  | succ k ih =>
   have hk:=h k (by omega);have hi:=ih (fun j hj=>h j (by omega));unfold FM at hi ⊢;unfold entsK;rw [List.map_append,List.map_append,hi]
   congr 1
   by_cases h1:aq a ((k:Int)+1)=0
   ·have h2:aq b ((k:Int)+1)=0:=by
     refine Classical.byContradiction fun h2=>?_
     have:=Dh hb h2;rw [<- hk,dF h1] at this;dsimp only at this;omega
    rw [if_pos h1,if_pos h2];rfl
   ·have h2:¬ aq b ((k:Int)+1)=0:=by intro h2;have:=Dh ha h1;rw [hk,dF h2] at this;dsimp only at this;omega
    rw [if_neg h1,if_neg h2];unfold aD at hk;rw [if_neg h1,if_neg h2] at hk;rw [List.map_cons,List.map_nil,List.map_cons,List.map_nil,hk];rfl
def pO(a b:List Int)(x y:(Int×Int×Int×Int)):Bool:=decide (x.1=y.1) && (decide (x.2.2.2=y.2.2.2) && decide (cP a x.2.1 x.2.2.1=cP b y.2.1 y.2.2.1))
theorem Tv{a b:List Int}{x y:(Int×Int×Int×Int)}:pO a b x y=true ↔ (x.1,gu a x)=(y.1,gu b y):=by unfold pO gu;rw [Bool.and_eq_true,Bool.and_eq_true,decide_eq_true_iff,decide_eq_true_iff,decide_eq_true_iff];simp only [Prod.mk.injEq]
def eqAll{α β:Type}(f:α->β->Bool):List α->List β->Bool
 | [],[]=>true
 | x :: l,y :: m=>f x y && eqAll f l m
 | _,_=>false
theorem El{α β γ:Type}{f:α->β->Bool}{p:α->γ}{q:β->γ}(h:∀ x y,f x y=true ↔ p x=q y):∀ {l:List α} {m:List β},eqAll f l m=true ↔ l.map p=m.map q
 | [],[]=>by simp [eqAll]
 | [],y :: m=>by simp [eqAll]
 | x :: l,[]=>by simp [eqAll]
 | x :: l,y :: m=>by unfold eqAll;rw [Bool.and_eq_true,h,El h,List.map_cons,List.map_cons,List.cons.injEq]
theorem NI{a b:List Int}(ha:bj a)(hb:bj b):eqAll (pO a b) (entsK a 40) (entsK b 40)=sameO a b 40:=by
 have h1:=El (f:=pO a b) (p:=fun e=>(e.1,gu a e)) (q:=fun e=>(e.1,gu b e)) (fun x y=>Tv) (l:=entsK a 40) (m:=entsK b 40);have h2:=RI ha hb 40;unfold FM at h2;rw [h2] at h1;cases h3:eqAll (pO a b) (entsK a 40) (entsK b 40) <;> cases h4:sameO a b 40
 ·rfl
 ·rw [h3,h4] at h1;simp at h1
 ·rw [h3,h4] at h1;simp at h1
 ·rfl
theorem fF{a b:ByteArray}:(a == b)=true ↔ a=b:=by
 cases a with | mk x=>cases b with | mk y =>
 constructor
 ·intro h;have h':(x == y)=true:=h;rw [eq_of_beq h']
 ·intro h
  injection h with h
  subst h
  show(x == x)=true
  exact beq_self_eq_true x
theorem se:LawfulBEq ByteArray:={ eq_of_beq:=fun h=>fF.1 h,rfl:=fF.2 rfl }
def aU(l:List (ByteArray×Int))(s:ByteArray):Int:=((l.find? (fun r=>r.1 == s)).map (·.2)).getD 0
def lW(l m:List (ByteArray×Int)):Bool:=l.all (fun r=>aU m r.1 == r.2) && decide (l.length=m.length)
structure vw (l:List (ByteArray×Int)):Prop where
 nodup:(l.map (·.1)).Nodup
 pos:∀ r∈l,1<=r.2/\r.2<=40
theorem dN{b:List Int}(hf:bh b=[]):vw (ak b 8):=by
 have hn:∀ i,i<8->dX b i=[]:=fun i hi=>by
  refine Classical.byContradiction fun h=>?_
  obtain⟨f,hm⟩:=List.exists_mem_of_ne_nil _ h;have:=qU hi hm;rw [hf] at this;cases this
 have hk:∀ k,k<=8->cG b k=(ak b k).map (·.1)/\(cG b k).Nodup/\∀ r∈ak b k,1<=r.2/\r.2<=40:=by
  intro k;induction k with
  | zero=>intro _;exact⟨rfl,List.nodup_nil,fun r hr=>by cases hr⟩
  | succ k ih =>
   intro hk;obtain⟨h1,h2,h3⟩:=ih (by omega);rcases dD.1 (hn k (by omega)) with h | h
   ·have e1:cG b (k+1)=cG b k:=by
     show cG b k++_=_
     have:dJ b k (cG b k)=false:=by unfold dJ;rw [h,Bool.false_and]
     rw [this,if_neg (by simp),List.append_nil]
    have e2:ak b (k+1)=ak b k:=by
     show ak b k++_=_
     rw [h,if_neg (by simp),List.append_nil]
    rw [e1,e2];exact⟨h1,h2,h3⟩
   ·have e1:cG b (k+1)=cG b k++[nameAt b k]:=by
     show cG b k++_=_
     rw [if_pos h]
    have hfi:=h;unfold dJ at hfi;rw [Bool.and_eq_true,Bool.and_eq_true] at hfi;obtain⟨f1,f2,f3⟩:=hfi;have e2:ak b (k+1)=ak b k++[rootOf (rowAt b k)]:=by
     show ak b k++_=_
     rw [f1,if_pos rfl]
    have f2':pJ b k=false:=by simpa using f2
    have f3':nameAt b k ∉ cG b k:=by
     intro hm;haveI:=se
     rw [List.contains_iff_mem.2 hm] at f3;cases f3
    obtain⟨_,_,_,g4,_⟩:=fu.1 f2';have g4':=aF.1 g4;refine⟨?_,?_,?_⟩
    ·rw [e1,e2,List.map_append,h1];rfl
    ·rw [e1,List.nodup_append];exact⟨h2,by simp,fun x hx y hy e=>by rw [zMs hy] at e;subst e;exact f3' hx⟩
    ·rw [e2];intro r hr;rcases zMa hr with hr | hr
     ·exact h3 r hr
     ·rw [zMs hr];exact g4'
 obtain⟨h1,h2,h3⟩:=hk 8 zNr;exact⟨by rw [<- h1];exact h2,h3⟩
theorem qJ{m:List (ByteArray×Int)}(hm:vw m){s:ByteArray}{h:Int}(hh:1<=h):aU m s=h ↔ (s,h)∈m:=by
 unfold aU;constructor
 ·intro e;cases hf:m.find? (fun r=>r.1 == s) with
  | none=>rw [hf] at e;simp at e;omega
  | some r =>rw [hf] at e;have h1:=List.mem_of_find?_eq_some hf;have h2:=List.find?_some hf;have e':r.2=h:=e;have kL:r.1=s:=fF.1 h2;have:r=(s,h):=Prod.ext kL e';rw [<- this];exact h1
 ·intro mF;cases hf:m.find? (fun r=>r.1 == s) with
  | none =>exact absurd (fF.2 rfl) (List.find?_eq_none.1 hf (s,h) mF)
  | some r =>
   have h1:=List.mem_of_find?_eq_some hf;have h2:r.1=s:=fF.1 (List.find?_some (p:=fun(r:(ByteArray×Int))=>r.1 == s) hf);have:r=(s,h):=by
    have AK:∀ (l:List (ByteArray×Int)),(l.map (·.1)).Nodup->∀ x∈l,∀ y∈l,x.1=y.1->x=y:=by
     intro l;induction l with
     | nil=>intro _ x hx;cases hx
     | cons z l ih =>
      intro hn x hx y hy e;rw [List.map_cons,List.nodup_cons] at hn;rcases zMc hx with hx | hx <;> rcases zMc hy with hy | hy
      ·rw [hx,hy]
      ·exact absurd (List.mem_map.2 ⟨y,hy,by rw [<- e,hx]⟩) hn.1
      ·exact absurd (List.mem_map.2 ⟨x,hx,by rw [e,hy]⟩) hn.1
      ·exact ih hn.2 x hx y hy e
    exact AK m hm.nodup r h1 (s,h) mF h2
   rw [this];rfl
theorem vP{l m:List (ByteArray×Int)}(hl:vw l)(hm:vw m):lW l m=true ↔ l.length=m.length/\∀ r∈l,r∈m:=by
 unfold lW;rw [Bool.and_eq_true,decide_eq_true_iff,List.all_eq_true];constructor
 ·rintro ⟨h1,h2⟩;refine⟨h2,fun r hr=>?_⟩;have:=(qJ hm (hl.pos r hr).1).1 (by simpa using h1 r hr);exact this
 ·rintro ⟨h1,h2⟩;refine⟨fun r hr=>?_,h1⟩;have:=(qJ hm (s:=r.1) (hl.pos r hr).1).2 (h2 r hr);simpa using this
def sH(b:List Int):Int:=if b9 b.length=false then 3 else if bh b=[] then 0 else 6
def nP(a b:List Int):Int:=if b9 a.length=false then 3 else if b9 b.length=false then 3 else if bh a=[]/\bh b=[] then 0 else 6
def mQ(a b:List Int):Bool:=nP a b == 0 && (sameO a b 40 && lW (ak a 8) (ak b 8))
theorem bV{b:List Int}:bh b=[] ↔ (∀ h,1<=h->h<=40->eH b h=[])/\∀ i,i<8->dX b i=[]:=by
 constructor
 ·intro hf;refine⟨fun h h1 h2=>?_,fun i hi=>?_⟩
  ·refine List.eq_nil_iff_forall_not_mem.2 (fun f hm=>?_);have:=nu h1 h2 hm;rw [hf] at this;cases this
  ·refine List.eq_nil_iff_forall_not_mem.2 (fun f hm=>?_);have:=qU hi hm;rw [hf] at this;cases this
 ·rintro ⟨h1,h2⟩;refine List.eq_nil_iff_forall_not_mem.2 (fun f hf=>?_);unfold bh at hf;rcases zMa hf with hf | hf
  ·obtain⟨j,hj,hf⟩:=kq.1 hf;rw [h1 _ (by omega) (by omega)] at hf;cases hf
  ·obtain⟨j,hj,hf⟩:=kp.1 hf;rw [h2 j hj] at hf;cases hf
section
variable {b c:List Int}
theorem OK(hlen:c.length=b.length)(hs:∀ h,1<=h->h<=40->aq c h=aq b h/\ai c h=ai b h):∀ h,1<=h->h<=40->oM c h=oM b h:=by
 intro h h1 h2;have dy:∀ j:Nat,j<40->Ul c ((j:Int)+1)=Ul b ((j:Int)+1):=fun j hj=>by obtain⟨e1,e2⟩:=hs ((j:Int)+1) (by omega) (by omega);unfold Ul;rw [e1,e2,ig hlen]
 have SN:∀ k:Nat,k<=40->lapK c h k=lapK b h k:=by
  intro k;induction k with
  | zero=>intro _;rfl
  | succ k ih =>intro hk;unfold lapK;rw [ih (by omega),dy k (by omega),(hs h h1 h2).2,(hs ((k:Int)+1) (by omega) (by omega)).2]
 unfold oM;rw [(hs h h1 h2).1,(hs h h1 h2).2,ig hlen,SN _ (by omega)]
theorem rQ(hlen:c.length=b.length)(hb:288<=b.length)(hs:∀ j,j<288->c.getD j 0=b.getD j 0):∀ h,1<=h->h<=40->aq c h=aq b h/\ai c h=ai b h:=fun h h1 h2 =>tu hlen hb h1 h2 (fun j hj=>hs _ (by have:=cH h1 h2;omega))
theorem D5(hlen:c.length=b.length)(hb:288<=b.length)(hs:∀ j,j<288->c.getD j 0=b.getD j 0):∀ i,i<8->rowAt c i=rowAt b i:=fun i hi=>by
 apply bQ
 ·rw [aS (by omega),aS (by omega)]
 ·intro j hj;rw [aS (by omega)] at hj;rw [bH hj,bH hj];exact hs _ (by omega)
theorem oW(bn:∀ i,i<8->rowAt c i=rowAt b i)(hw:∀ i,i<8->dC ((rowAt b i).getD 10 0)=true->isRoot (rowAt b i)=true->oM b ((rowAt b i).getD 10 0)=1->oM c ((rowAt b i).getD 10 0)=1)(hf:∀ i,i<8->dX b i=[]) :
  ∀ k,k<=8->cG c k=cG b k/\∀ i,i<k->dX c i=[]:=by
 intro k;induction k with
 | zero=>intro _;exact⟨by simp only [cG],fun i hi=>absurd hi (Nat.not_lt_zero i)⟩
 | succ k ih =>
  intro hk;obtain⟨ih1,ih2⟩:=ih (by omega);have hr:=bn k (by omega);have JJ:nameAt c k=nameAt b k:=by unfold nameAt;rw [hr]
  have key:dJ c k (cG b k)=dJ b k (cG b k)/\dX c k=[]:=by
   rcases dD.1 (hf k (by omega)) with h0 | h0
   ·have h1:isRoot (rowAt c k)=false:=by rw [hr];exact h0
    have e1:dJ c k (cG b k)=false:=by unfold dJ;rw [h1];rfl
    have e2:dJ b k (cG b k)=false:=by unfold dJ;rw [h0];rfl
    exact⟨by rw [e1,e2],dD.2 (.inl h1)⟩
   ·have K9:=h0;unfold dJ at K9;rw [Bool.and_eq_true,Bool.and_eq_true,Bool.not_eq_true',Bool.not_eq_true'] at K9;have hZ:pJ c k=false:=by obtain⟨q1,q2,q3,q4,q5⟩:=fu.1 K9.2.1;refine fu.2 ?_;rw [hr];exact⟨q1,q2,q3,q4,hw k (by omega) q4 K9.1 q5⟩
    have e1:dJ c k (cG b k)=true:=by unfold dJ;rw [hr,hZ,JJ,K9.1,K9.2.2];rfl
    exact⟨by rw [e1,h0],dD.2 (.inr (by rw [ih1];exact e1))⟩
  refine⟨?_,fun i hi=>?_⟩
  ·simp only [cG];rw [ih1,key.1,JJ]
  ·by_cases e:i=k
   ·subst e;exact key.2
   ·exact ih2 i (by omega)
theorem D6(hlen:c.length=b.length)(hb:288<=b.length)(hs:∀ j,j<288->c.getD j 0=b.getD j 0)(hf:bh b=[]):bh c=[]:=by
 obtain⟨f1,f2⟩:=bV.1 hf;have he:=rQ hlen hb hs;have hwh:=OK hlen he;refine bV.2 ⟨fun h h1 h2=>?_,fun i hi=>?_⟩
 ·rw [dH,hwh h h1 h2,(he h h1 h2).1,(he h h1 h2).2];exact dH.1 (f1 h h1 h2)
 ·refine(oW (D5 hlen hb hs) (fun j hj hq _ h1=>?_) f2 8 (by omega)).2 i hi;have hh:=aF.1 hq;rw [hwh _ hh.1 hh.2];exact h1
end
section
variable {b:List Int}
structure aB (b:List Int):Prop where
 len:288<=b.length/\b.length<=6400
 ok:bh b=[]
theorem aB.cW(hf:aB b):b9 b.length=true:=bF.2 (by have:=hf.len;omega)
theorem aB.hand(hf:aB b){h:Int}(h1:1<=h)(h2:h<=40)(ht:aq b h≠0):oM b h=1/\di b (ai b h)=0:=by
 rcases dH.1 ((bV.1 hf.ok).1 h h1 h2) with hw | hw
 ·exact⟨hw,(iJ.1 hw).2.1⟩
 ·exact absurd hw.1 ht
theorem aB.jB(hf:aB b){h:Int}(h1:1<=h)(h2:h<=40)(ht:aq b h≠0):288<=(ai b h).2.1/\1<=(ai b h).2.2.1/\(ai b h).2.2.1<=1000/\(ai b h).2.1+(ai b h).2.2.1<=b.length/\0<=(ai b h).2.2.2/\(ai b h).2.2.2<=15:=by have:=bS.1 (hf.hand h1 h2 ht).2;obtain⟨_,_,q1,q2,q3,q4,q5,q6⟩:=this;exact⟨q5,q3,q4,q6,q1,q2⟩
theorem zdX{h:Int}(hw:oM b h=1):Ul b h=true:=by obtain⟨h1,h2,_⟩:=iJ.1 hw;unfold Ul;rw [decide_eq_true h1,decide_eq_true h2];rfl
theorem wC(e f:(Int×Int×Int×Int)):nZ e f=nZ f e:=by unfold nZ;rw [Bool.and_comm]
theorem pq{e f:(Int×Int×Int×Int)}:nZ e f=false ↔ f.2.1+f.2.2.1<=e.2.1\/e.2.1+e.2.2.1<=f.2.1:=by unfold nZ;rw [Bool.and_eq_false_iff,decide_eq_false_iff_not,decide_eq_false_iff_not];omega
theorem aB.apart(hf:aB b){h k:Int}(h1:1<=h)(h2:h<=40)(k1:1<=k)(k2:k<=40)(hk:h≠k)(ht:aq b h≠0)(kt:aq b k≠0):nZ (ai b h) (ai b k)=false:=by
 have key:∀ {h k:Int},1<=h->h<=40->1<=k->k<h->aq b h≠0->aq b k≠0->nZ (ai b h) (ai b k)=false:=by
  intro h k h1 h2 k1 aM ht kt;have hw:=(hf.hand h1 h2 ht).1;have kw:=(hf.hand k1 (by omega) kt).1;cases hl:nZ (ai b h) (ai b k) with
  | false=>rfl
  | true =>have gI:=(iJ.1 hw).2.2;have:lapK b h (h-1).toNat=true:=nY.2 ⟨(k-1).toNat,by omega,by rw [show(((k-1).toNat:Nat):Int)+1=k by omega];exact⟨zdX kw,hl⟩⟩;rw [gI] at this;cases this
 rcases Int.lt_or_gt_of_ne hk with h' | h'
 ·rw [wC];exact key k1 k2 h1 h' kt ht
 ·exact key h1 h2 k1 h' ht kt
theorem ze{c:List Int}(hl:b9 c.length=true)(hh:∀ h,1<=h->h<=40->aq c h≠0->di c (ai c h)=0)(ha:∀ h k,1<=h->h<=40->1<=k->k<h->aq c h≠0->aq c k≠0->nZ (ai c h) (ai c k)=false)
  (hz:∀ h,1<=h->h<=40->aq c h=0->(ai c h).2.1=0/\(ai c h).2.2.1=0) (hr:(∀ h,1<=h->h<=40->aq c h≠0->oM c h=1)->∀ i,i<8->dX c i=[]):aB c:=by
 have hw:∀ h,1<=h->h<=40->aq c h≠0->oM c h=1:=fun h h1 h2 ht=>by
  refine iJ.2 ⟨ht,hh h h1 h2 ht,?_⟩;cases hq:lapK c h (h-1).toNat with
  | false=>rfl
  | true =>obtain⟨j,hj,ho,hlp⟩:=nY.1 hq;unfold Ul at ho;rw [Bool.and_eq_true,decide_eq_true_iff] at ho;rw [ha h ((j:Int)+1) h1 h2 (by omega) (by omega) ht ho.1] at hlp;cases hlp
 have hlen:=bF.1 hl;refine⟨by omega,bV.2 ⟨fun h h1 h2=>dH.2 ?_,hr hw⟩⟩;by_cases ht:aq c h=0
 ·exact .inr ⟨ht,hz h h1 h2 ht⟩
 ·exact .inl (hw h h1 h2 ht)
theorem qz(hf:aB b){e:(Int×Int×Int×Int)}(he:di b e=0)(h0:aq b e.1=0)(gI:∀ k,1<=k->k<=40->aq b k≠0->nZ e (ai b k)=false) :
  aB (bP b e)/\(∀ k,1<=k->k<=40->k≠e.1->aq (bP b e) k=aq b k/\ai (bP b e) k=ai b k)/\aq (bP b e) e.1≠0/\ai (bP b e) e.1=e/\(bP b e).length=b.length/\(∀ j,200<=j->(bP b e).getD j 0=b.getD j 0):=by
 have hb:=hf.len;have hlen:=lZ he;obtain⟨_,hh,_⟩:=bS.1 he;have D4:=aF.1 hh;have hp:=cH D4.1 D4.2;have sh:(dB e).length=5:=rfl;have hL:bP b e=splice b (cJ e.1) (dB e):=by unfold bP;rw [if_pos he]
 obtain⟨JO,qg⟩:=zU he;have jQ:aq (bP b e) e.1≠0:=(aJ.1 JO).2.2;have fe:∀ k,1<=k->k<=40->k≠e.1->aq (bP b e) k=aq b k/\ai (bP b e) k=ai b k:=fun k k1 k2 hk=>by rw [hL];exact lV sh hb.1 D4.1 D4.2 k1 k2 hk
 have qN:∀ j,200<=j->(bP b e).getD j 0=b.getD j 0:=fun j hj=>by rw [hL,aY (by rw [sh];omega) (by rw [sh];omega)]
 have bn:∀ i,i<8->rowAt (bP b e) i=rowAt b i:=fun i hi=>by
  apply bQ
  ·rw [aS (by omega),aS (by omega)]
  ·intro j hj;rw [aS (by omega)] at hj;rw [bH hj,bH hj];exact qN _ (by omega)
 refine⟨ze (by rw [hlen];exact hf.cW) (fun h h1 h2 ht=>?_) (fun h k h1 h2 k1 aM ht kt=>?_) (fun h h1 h2 ht=>?_) (fun hw=>?_),fe,jQ,qg,hlen,qN⟩
 ·by_cases hq:h=e.1
  ·subst hq;rw [qg,ig hlen];exact he
  ·obtain⟨e1,e2⟩:=fe h h1 h2 hq;rw [e1] at ht;rw [e2,ig hlen];exact(hf.hand h1 h2 ht).2
 ·by_cases hq:h=e.1
  ·subst hq;obtain⟨e1,e2⟩:=fe k k1 (by omega) (by omega);rw [e1] at kt;rw [qg,e2];exact gI k k1 (by omega) kt
  ·obtain⟨e1,e2⟩:=fe h h1 h2 hq;rw [e1] at ht;by_cases GM:k=e.1
   ·subst GM;rw [e2,qg,wC];exact gI h h1 h2 ht
   ·obtain⟨e3,e4⟩:=fe k k1 (by omega) GM;rw [e3] at kt;rw [e2,e4];exact hf.apart h1 h2 k1 (by omega) (by omega) ht kt
 ·by_cases hq:h=e.1
  ·subst hq;exact absurd ht jQ
  ·obtain⟨e1,e2⟩:=fe h h1 h2 hq;rw [e1] at ht;rw [e2];rcases dH.1 ((bV.1 hf.ok).1 h h1 h2) with hw | hw
   ·exact absurd ht (iJ.1 hw).1
   ·exact hw.2
 ·refine(oW bn (fun i hi hq _ fR=>?_) (bV.1 hf.ok).2 8 (by omega)).2;have hx:=aF.1 hq;have ht:=(iJ.1 fR).1;refine hw _ hx.1 hx.2 ?_;rw [(fe _ hx.1 hx.2 (fun e'=>ht (by rw [e'];exact h0))).1];exact ht
theorem wX(hf:aB b){h:Int}(he:aP b h=0)(gI:∀ i,i<8->isRoot (rowAt b i)=true->(rowAt b i).getD 10 0≠h) :
  aB (cN b h)/\(∀ k,1<=k->k<=40->k≠h->aq (cN b h) k=aq b k/\ai (cN b h) k=ai b k)/\aq (cN b h) h=0/\(cN b h).length=b.length/\(∀ j,200<=j->(cN b h).getD j 0=b.getD j 0):=by
 have hb:=hf.len;obtain⟨_,hh,_⟩:=aJ.1 he;have D4:=aF.1 hh;have hp:=cH D4.1 D4.2;have sh:=aj 5;have hL:cN b h=splice b (cJ h) (ag 5):=by unfold cN;rw [if_pos he]
 have hlen:(cN b h).length=b.length:=by rw [hL,length_splice (by rw [sh];omega)]
 have hzero:∀ j,j<5->(cN b h).getD (cJ h+j) 0=0:=fun j hj=>by rw [hL,bY (by rw [sh];omega) (by rw [sh];exact hj)];exact nL 5 j
 have jQ:=uZ (c:=cN b h) (by omega) D4.1 D4.2 hzero;have fe:∀ k,1<=k->k<=40->k≠h->aq (cN b h) k=aq b k/\ai (cN b h) k=ai b k:=fun k k1 k2 hk=>by rw [hL];exact lV sh hb.1 D4.1 D4.2 k1 k2 hk
 have qN:∀ j,200<=j->(cN b h).getD j 0=b.getD j 0:=fun j hj=>by rw [hL,aY (by rw [sh];omega) (by rw [sh];omega)]
 have bn:∀ i,i<8->rowAt (cN b h) i=rowAt b i:=fun i hi=>by
  apply bQ
  ·rw [aS (by omega),aS (by omega)]
  ·intro j hj;rw [aS (by omega)] at hj;rw [bH hj,bH hj];exact qN _ (by omega)
 have aO:∀ k,aq (cN b h) k≠0->k≠h:=fun k hk e=>by subst e;exact hk jQ.1
 refine⟨ze (by rw [hlen];exact hf.cW) (fun k k1 k2 ht=>?_) (fun k j k1 k2 j1 aM ht jt=>?_) (fun k k1 k2 ht=>?_) (fun hw=>?_),fe,jQ.1,hlen,qN⟩
 ·obtain⟨e1,e2⟩:=fe k k1 k2 (aO k ht);rw [e1] at ht;rw [e2,ig hlen];exact(hf.hand k1 k2 ht).2
 ·obtain⟨e1,e2⟩:=fe k k1 k2 (aO k ht);obtain⟨e3,e4⟩:=fe j j1 (by omega) (aO j jt);rw [e1] at ht;rw [e3] at jt;rw [e2,e4];exact hf.apart k1 k2 j1 (by omega) (by omega) ht jt
 ·by_cases hq:k=h
  ·subst hq;exact jQ.2
  ·obtain⟨e1,e2⟩:=fe k k1 k2 hq;rw [e1] at ht;rw [e2];rcases dH.1 ((bV.1 hf.ok).1 k k1 k2) with hw | hw
   ·exact absurd ht (iJ.1 hw).1
   ·exact hw.2
 ·refine(oW bn (fun i hi hq hr fR=>?_) (bV.1 hf.ok).2 8 (by omega)).2;have hx:=aF.1 hq;refine hw _ hx.1 hx.2 ?_;rw [(fe _ hx.1 hx.2 (gI i hi hr)).1];exact(iJ.1 fR).1
theorem Db{c:List Int}{x n:Int}(hlen:c.length=b.length)(h:∀ j:Nat,x.toNat<=j->j<x.toNat+n.toNat->c.getD j 0=b.getD j 0):cP c x n=cP b x n:=by
 unfold cP;apply bQ
 ·rw [zLt,zLt,zLd,zLd,hlen]
 ·intro j hj;rw [zLt,zLd] at hj;have Ch:j<n.toNat:=by omega
  have:=h (x.toNat+j) (by omega) (by omega);simp only [List.getD,List.getElem?_take,if_pos Ch,List.getElem?_drop] at this ⊢;exact this
theorem l7{c:List Int}{h:Int}(hlen:c.length=b.length)(h1:aq c h=aq b h)(h2:ai c h=ai b h)(hp:aq b h≠0->∀ j:Nat,(ai b h).2.1.toNat<=j->j<(ai b h).2.1.toNat+(ai b h).2.2.1.toNat->c.getD j 0=b.getD j 0):aD c h=aD b h:=by
 unfold aD;rw [h1];by_cases ht:aq b h=0
 ·rw [if_pos ht,if_pos ht]
 ·rw [if_neg ht,if_neg ht];unfold gu;rw [h2,Db hlen (hp ht)]
theorem zT(hf:aB b){e:(Int×Int×Int×Int)}(he:di b e=0)(h0:aq b e.1=0)(gI:∀ k,1<=k->k<=40->aq b k≠0->nZ e (ai b k)=false) :
  (∀ k,1<=k->k<=40->k≠e.1->aD (bP b e) k=aD b k)/\aD (bP b e) e.1=(e.2.2.2,cP b e.2.1 e.2.2.1):=by
 obtain⟨_,ho,ht,hE,hlen,qN⟩:=qz hf he h0 gI;refine⟨fun k k1 k2 hk=>?_,?_⟩
 ·obtain⟨e1,e2⟩:=ho k k1 k2 hk;refine l7 hlen e1 e2 (fun BQ j hj _=>qN j ?_);have:=(hf.jB k1 k2 BQ).1;omega
 ·unfold aD;rw [if_neg ht,hE];unfold gu;rw [Db hlen (fun j hj _=>qN j (by obtain⟨_,_,_,_,_,_,q,_⟩:=bS.1 he;omega))]
theorem nX(hf:aB b){x:Nat}{r:List Int}(hx:288<=x)(k7:x+r.length<=b.length) :
  aB (splice b x r)/\(splice b x r).length=b.length/\(∀ k,1<=k->k<=40->aq (splice b x r) k=aq b k/\ai (splice b x r) k=ai b k) /\
  ∀ k,1<=k->k<=40->(aq b k≠0->(ai b k).2.1+(ai b k).2.2.1<=x\/(x:Int)+r.length<=(ai b k).2.1)->aD (splice b x r) k=aD b k:=by
 have hb:=hf.len;have hlen:=length_splice k7;have hs:∀ j,j<288->(splice b x r).getD j 0=b.getD j 0:=fun j hj=>aY k7 (.inl (by omega))
 have he:=rQ hlen hb.1 hs;refine⟨⟨by rw [hlen];exact hb,D6 hlen hb.1 hs hf.ok⟩,hlen,he,fun k k1 k2 rS=>?_⟩;obtain⟨e1,e2⟩:=he k k1 k2;refine l7 hlen e1 e2 (fun BQ j hj1 Ch=>aY k7 ?_);have fc:=hf.jB k1 k2 BQ;have:=rS BQ;omega
end
end
def there(n:Int)(e:(Int×Int)):Bool:=decide (0<=e.1) && (decide (1<=e.2) && decide (e.2<=n-e.1))
def over(a b:(Int×Int)):Bool:=decide (a.1<b.1+b.2) && decide (b.1<a.1+a.2)
theorem rp{n:Int}{e:(Int×Int)}:there n e=true ↔ 0<=e.1/\1<=e.2/\e.1+e.2<=n:=by unfold there;simp only [Bool.and_eq_true,decide_eq_true_eq];omega
theorem ko{a b:(Int×Int)}:over a b=false ↔ b.1+b.2<=a.1\/a.1+a.2<=b.1:=by unfold over;simp only [Bool.and_eq_false_iff,decide_eq_false_iff_not];omega
theorem rG(a b:(Int×Int)):over a b=over b a:=by unfold over;exact Bool.and_comm _ _
def chkL(n:Int):List (Int×Int)->List (Int×Int)->Int
 | _,[]=>0
 | ah,e :: r=>if there n e=false then 1 else if ah.any (over e)=true then 7 else chkL n (ah++[e]) r
def r7(n:Int)(l:List (Int×Int)):Int:=if n<0\/6400<n then 1 else if 200<l.length then 4 else chkL n [] l
structure Good (n:Int) (l:List (Int×Int)):Prop where
 all:∀ e∈l,0<=e.1/\1<=e.2/\e.1+e.2<=n
 apart:l.Pairwise (fun a b=>over a b=false)
theorem Eu{n:Int}:∀ {ah l:List (Int×Int)},chkL n ah l=0 ↔ (∀ e∈l,there n e=true)/\l.Pairwise (fun a b=>over a b=false)/\∀ e∈l,∀ a∈ah,over e a=false
 | ah,[]=>by simp [chkL]
 | ah,e :: r=>by
  unfold chkL;by_cases h1:there n e=false
  ·rw [if_pos h1];constructor
   ·intro h;cases h
   ·intro h;have:=h.1 e (by simp);rw [h1] at this;cases this
  ·rw [if_neg h1];have vD:there n e=true:=by cases h:there n e <;> simp_all
   by_cases h2:ah.any (over e)=true
   ·rw [if_pos h2];constructor
    ·intro h;cases h
    ·intro h;obtain⟨a,ha,hoa⟩:=List.any_eq_true.1 h2;have:=h.2.2 e (by simp) a ha;rw [hoa] at this;cases this
   ·rw [if_neg h2,Eu];have kL:∀ a∈ah,over e a=false:=fun a ha=>by
     cases h:over e a with
     | false=>rfl
     | true=>exact absurd (List.any_eq_true.2 ⟨a,ha,h⟩) h2
    constructor
    ·rintro ⟨g1,g2,g3⟩;refine⟨fun x hx=>?_,List.pairwise_cons.2 ⟨fun x hx=>?_,g2⟩,fun x hx a ha=>?_⟩
     ·rcases List.mem_cons.1 hx with rfl | hx
      ·exact vD
      ·exact g1 x hx
     ·rw [rG];exact g3 x hx e (by simp)
     ·rcases List.mem_cons.1 hx with rfl | hx
      ·exact kL a ha
      ·exact g3 x hx a (by simp [ha])
    ·rintro ⟨g1,g2,g3⟩;obtain⟨p1,p2⟩:=List.pairwise_cons.1 g2;refine⟨fun x hx=>g1 x (by simp [hx]),p2,fun x hx a ha=>?_⟩;rcases List.mem_append.1 ha with ha | ha
     ·exact g3 x (by simp [hx]) a ha
     ·obtain rfl:=List.mem_singleton.1 ha;rw [rG];exact p1 x hx
theorem kQ{n:Int}{l:List (Int×Int)}:r7 n l=0 ↔ 0<=n/\n<=6400/\l.length<=200/\Good n l:=by
 unfold r7;by_cases h1:n<0\/6400<n
 ·rw [if_pos h1];exact⟨fun h=>(by cases h),fun h=>by omega⟩
 ·rw [if_neg h1];by_cases h2:200<l.length
  ·rw [if_pos h2];exact⟨fun h=>(by cases h),fun h=>by omega⟩
  ·rw [if_neg h2,Eu];constructor
   ·rintro ⟨g1,g2,_⟩;exact⟨by omega,by omega,by omega,⟨fun e he=>rp.1 (g1 e he),g2⟩⟩
   ·rintro ⟨_,_,_,g⟩;exact⟨fun e he=>rp.2 (g.all e he),g.apart,fun e he a ha=>by cases ha⟩
theorem Good.perm{n:Int}{l s:List (Int×Int)}(h:Good n l)(hp:s.Perm l):Good n s :=⟨fun e he=>h.all e (hp.mem_iff.1 he),(hp.pairwise_iff (fun {x y} DN=>by rw [rG];exact DN)).2 h.apart⟩
def runsOf:Int->List (Int×Int)->List (Int×Int)
 | _,[]=>[]
 | f,e :: r=>(if f<e.1 then [(f,e.1-f)] else [])++runsOf (e.1+e.2) r
def dq:Int->List (Int×Int)->Int
 | f,[]=>f
 | _,e :: r=>dq (e.1+e.2) r
def eN:Int->List (Int×Int)->Prop
 | _,[]=>True
 | f,e :: r=>f<=e.1/\0<=e.2/\eN (e.1+e.2) r
def dG(l:List (Int×Int)):Int:=(l.map (·.2)).sum
theorem ja(e:(Int×Int))(l:List (Int×Int)):dG (e :: l)=e.2+dG l:=by simp [dG]
theorem sr(a b:List (Int×Int)):dG (a++b)=dG a+dG b:=by simp [dG]
theorem ni{a b:List (Int×Int)}(h:a.Perm b):dG a=dG b:=by
 unfold dG;induction h with
 | nil=>rfl
 | cons x _ ih=>simp only [List.map_cons,List.sum_cons,ih]
 | swap x y l=>simp only [List.map_cons,List.sum_cons];omega
 | trans _ _ ih1 ih2=>rw [ih1,ih2]
theorem gD:∀ (f:Int) (a b:List (Int×Int)),runsOf f (a++b)=runsOf f a++runsOf (dq f a) b
 | f,[],b=>rfl
 | f,e :: r,b=>by simp only [List.cons_append,runsOf,dq];rw [gD,List.append_assoc]
theorem lJ:∀ (f:Int) (a b:List (Int×Int)),dq f (a++b)=dq (dq f a) b
 | f,[],b=>rfl
 | f,e :: r,b=>by simp only [List.cons_append,dq];exact lJ _ _ _
theorem pH:∀ {f:Int} {a b:List (Int×Int)},eN f (a++b) ↔ eN f a/\eN (dq f a) b
 | f,[],b=>by simp [eN,dq]
 | f,e :: r,b=>by simp only [List.cons_append,eN,dq];rw [pH];exact⟨fun⟨a,b,c,d⟩=>⟨⟨a,b,c⟩,d⟩,fun⟨⟨a,b,c⟩,d⟩=>⟨a,b,c,d⟩⟩
theorem eN.YB:∀ {f:Int} {s:List (Int×Int)},eN f s->f<=dq f s
 | f,[],_=>Int.le_refl _
 | f,e :: r,h=>by
  have:=eN.YB h.2.2;have h1:=h.1;have h2:=h.2.1
  show f<=dq (e.1+e.2) r
  omega
theorem eN.mem:∀ {f:Int} {s:List (Int×Int)},eN f s->∀ e∈s,f<=e.1/\0<=e.2/\e.1+e.2<=dq f s
 | f,[],_,e,he=>by cases he
 | f,x :: r,h,e,he=>by
  have h1:=h.1;have h2:=h.2.1;have h3:=eN.YB h.2.2
  show f<=e.1/\0<=e.2/\e.1+e.2<=dq (x.1+x.2) r
  rcases List.mem_cons.1 he with rfl | he
  ·omega
  ·have:=eN.mem h.2.2 e he;omega
theorem eN.sum:∀ {f:Int} {s:List (Int×Int)},eN f s->dG (runsOf f s)+dG s=dq f s-f
 | f,[],_=>by simp [runsOf,dq,dG]
 | f,e :: r,h=>by
  have ih:=eN.sum h.2.2;have h1:=h.1;simp only [runsOf,dq,sr,ja];by_cases hf:f<e.1
  ·rw [if_pos hf,ja];have:dG []=0:=rfl;dsimp only;omega
  ·rw [if_neg hf];have:dG []=0:=rfl;omega
theorem eN.run:∀ {f:Int} {s:List (Int×Int)},eN f s->∀ x∈runsOf f s,f<=x.1/\1<=x.2/\x.1+x.2<=dq f s/\∀ e∈s,over x e=false
 | f,[],_,x,hx=>by cases hx
 | f,e :: r,h,x,hx=>by
  obtain⟨h1,h2,h3⟩:=h;have he:=eN.YB h3;simp only [runsOf,List.mem_append] at hx
  show f<=x.1/\1<=x.2/\x.1+x.2<=dq (e.1+e.2) r/\_
  rcases hx with hx | hx
  ·by_cases hf:f<e.1
   ·rw [if_pos hf] at hx;obtain rfl:=List.mem_singleton.1 hx;refine⟨Int.le_refl _,by dsimp only;omega,by dsimp only;omega,fun y hy=>ko.2 ?_⟩;rcases List.mem_cons.1 hy with rfl | hy
    ·right;dsimp only;omega
    ·have:=eN.mem h3 y hy;right;dsimp only;omega
   ·rw [if_neg hf] at hx;cases hx
  ·obtain⟨g1,g2,g3,g4⟩:=eN.run h3 x hx;refine⟨by omega,g2,g3,fun y hy=>?_⟩;rcases List.mem_cons.1 hy with rfl | hy
   ·exact ko.2 (.inl g1)
   ·exact g4 y hy
def ED(l s:List (Int×Int)):Prop:=s.Perm l/\s.Pairwise (fun a b=>a.1<b.1)
theorem sU:∀ {s t:List (Int×Int)},s.Perm t->s.Pairwise (fun a b=>a.1<b.1)->t.Pairwise (fun a b=>a.1<b.1)->s=t
 | [],t,hp,_,_=>(List.nil_perm.1 hp).symm
 | x :: s,[],hp,_,_=>absurd hp.length_eq (by simp)
 | x :: s,y :: t,hp,hs,ht=>by
  obtain⟨gP,gM⟩:=List.pairwise_cons.1 hs;obtain⟨GL,iu⟩:=List.pairwise_cons.1 ht;have e:x=y:=by
   have hx:x∈y :: t:=hp.mem_iff.1 (by simp);have hy:y∈x :: s:=hp.mem_iff.2 (by simp);rcases List.mem_cons.1 hx with h | h
   ·exact h
   ·rcases List.mem_cons.1 hy with h' | h'
    ·exact h'.symm
    ·have:=GL x h;have:=gP y h';omega
  subst e;rw [sU (List.Perm.cons_inv hp) gM iu]
theorem pP:∀ {n f:Int} {s:List (Int×Int)},(∀ e∈s,f<=e.1/\1<=e.2)->s.Pairwise (fun a b=>over a b=false)->s.Pairwise (fun a b=>a.1<b.1)->eN f s
 | n,f,[],_,_,_=>trivial
 | n,f,e :: r,h,ho,hs=>by obtain⟨DY,K2⟩:=List.pairwise_cons.1 ho;obtain⟨gP,gM⟩:=List.pairwise_cons.1 hs;have he:=h e (by simp);refine⟨he.1,by omega,pP (n:=n) (fun x hx=>?_) K2 gM⟩;have h1:=ko.1 (DY x hx);have h2:=gP x hx;have h3:=h x (by simp [hx]);omega
theorem ED.chain{n:Int}{l s:List (Int×Int)}(hs:ED l s)(hg:Good n l)(hn:0<=n):eN 0 (s++[(n,0)])/\dq 0 (s++[(n,0)])=n/\dq 0 s<=n:=by
 have GS:=hg.perm hs.1;have hc:eN 0 s:=pP (n:=n) (fun e he=>⟨(GS.all e he).1,(GS.all e he).2.1⟩) GS.apart hs.2;have hle:dq 0 s<=n:=by
  have:∀ (s:List (Int×Int)) (f:Int),f<=n->(∀ e∈s,e.1+e.2<=n)->dq f s<=n:=by
   intro s;induction s with
   | nil=>intro f h _;exact h
   | cons e r ih=>intro f _ h;exact ih _ (h e (by simp)) (fun x hx=>h x (by simp [hx]))
  exact this s 0 hn (fun e he=>(GS.all e he).2.2)
 refine⟨pH.2 ⟨hc,hle,Int.le_refl _,trivial⟩,?_,hle⟩;rw [lJ]
 show n+0=n
 omega
def de(n:Int)(s:List (Int×Int)):List (Int×Int):=runsOf 0 (s++[(n,0)])
theorem ED.sum{n:Int}{l s:List (Int×Int)}(hs:ED l s)(hg:Good n l)(hn:0<=n):dG l+dG (de n s)=n:=by obtain⟨hc,he,_⟩:=hs.chain hg hn;have:=hc.sum;rw [he,sr,ni hs.1] at this;have h0:dG [(n,0)]=0:=rfl;unfold de;omega
theorem ED.ts{n:Int}{l s:List (Int×Int)}(hs:ED l s)(hg:Good n l)(hn:0<=n):∀ x∈de n s,0<=x.1/\1<=x.2/\x.1+x.2<=n/\∀ e∈l,over x e=false:=by obtain⟨hc,he,_⟩:=hs.chain hg hn;intro x hx;obtain⟨h1,h2,h3,h4⟩:=hc.run x hx;rw [he] at h3;exact⟨h1,h2,h3,fun e hh=>h4 e (by simp [hs.1.mem_iff.2 hh])⟩
def iH(size:Int)(mK r:(Int×Int)):(Int×Int):=if size<=r.2/\(mK.2=0\/r.2<mK.2) then r else mK
def fT(size:Int)(h:List (Int×Int)):(Int×Int):=h.foldl (iH size) (0,0)
theorem A4{size:Int}(hs:1<=size):∀ (h:List (Int×Int)) (b:(Int×Int)),(∀ r∈h,1<=r.2)->0<=b.2 ->
  ((h.foldl (iH size) b).2=0/\b.2=0/\∀ r∈h,r.2<size) \/
  (1<=(h.foldl (iH size) b).2/\((h.foldl (iH size) b)=b\/((h.foldl (iH size) b)∈h/\size<=(h.foldl (iH size) b).2))/\(1<=b.2->(h.foldl (iH size) b).2<=b.2)/\∀ r∈h,size<=r.2->(h.foldl (iH size) b).2<=r.2)
 | [],b,_,hb=>by
  by_cases h0:b.2=0
  ·exact .inl ⟨h0,h0,fun r hr=>by cases hr⟩
  ·exact .inr ⟨by show 1<=b.2;omega,.inl rfl,fun _=>Int.le_refl _,fun r hr=>by cases hr⟩
 | x :: h,b,hr,hb=>by
  have hx:=hr x (by simp);have hr':∀ r∈h,1<=r.2:=fun r hh=>hr r (by simp [hh])
  rw [List.foldl_cons];by_cases hc:size<=x.2/\(b.2=0\/x.2<b.2)
  ·have e:iH size b x=x:=if_pos hc;rw [e];rcases A4 hs h x hr' (by omega) with ⟨_,h2,_⟩ | ⟨h1,h2,h3,h4⟩
   ·omega
   ·have h5:=h3 hx;refine .inr ⟨h1,.inr ?_,fun ay=>by omega,fun r hh hsr=>?_⟩
    ·rcases h2 with h2 | ⟨h2,kL⟩
     ·exact⟨by rw [h2];simp,by rw [h2];exact hc.1⟩
     ·exact⟨by simp [h2],kL⟩
    ·rcases List.mem_cons.1 hh with rfl | hh
     ·exact h5
     ·exact h4 r hh hsr
  ·have e:iH size b x=b:=if_neg hc;rw [e];rcases A4 hs h b hr' hb with ⟨h1,h2,h3⟩ | ⟨h1,h2,h3,h4⟩
   ·refine .inl ⟨h1,h2,fun r hh=>?_⟩;rcases List.mem_cons.1 hh with rfl | hh
    ·omega
    ·exact h3 r hh
   ·refine .inr ⟨h1,?_,h3,fun r hh hsr=>?_⟩
    ·rcases h2 with h2 | ⟨h2,kL⟩
     ·exact .inl h2
     ·exact .inr ⟨by simp [h2],kL⟩
    ·rcases List.mem_cons.1 hh with rfl | hh
     ·have:=h3 (by omega);omega
     ·exact h4 r hh hsr
theorem A3{size:Int}(hs:1<=size){h:List (Int×Int)}(hr:∀ r∈h,1<=r.2) :
  ((fT size h).2=0/\∀ r∈h,r.2<size)\/(1<=(fT size h).2/\fT size h∈h/\size<=(fT size h).2/\∀ r∈h,size<=r.2->(fT size h).2<=r.2):=by
 rcases A4 hs h (0,0) hr (Int.le_refl _) with ⟨h1,_,h3⟩ | ⟨h1,h2,_,h4⟩
 ·exact .inl ⟨h1,h3⟩
 ·rcases h2 with h2 | h2
  ·have:(fT size h).2=0:=by unfold fT;rw [h2]
   unfold fT at this;omega
  ·exact .inr ⟨h1,h2.1,h2.2,h4⟩
theorem wu:∀ {h:List (Int×Int)},(∀ r∈h,1<=r.2)->0<=dG h/\∀ r∈h,r.2<=dG h
 | [],_=>⟨by simp [dG],fun r hr=>by cases hr⟩
 | x :: h,hr=>by
  obtain⟨h1,h2⟩:=wu (h:=h) (fun r hh=>hr r (by simp [hh]));have hx:=hr x (by simp);rw [ja];refine⟨by omega,fun r hh=>?_⟩;rcases List.mem_cons.1 hh with rfl | hh
  ·omega
  ·have:=h2 r hh;omega
section
open Go.RowKit
section
variable {b:List Int}
theorem eO{x:(Int×Int×Int×Int)}:∀ {k:Nat},x∈entsK b k ↔ ∃ j:Nat,j<k/\aq b ((j:Int)+1)≠0/\x=ai b ((j:Int)+1)
 | 0=>by simp [entsK]
 | k+1=>by
  unfold entsK;rw [List.mem_append,eO];by_cases ht:aq b ((k:Int)+1)=0
  ·rw [if_pos ht];constructor
   ·rintro (⟨j,h1,h2⟩ | h2)
    ·exact⟨j,by omega,h2⟩
    ·cases h2
   ·rintro ⟨j,h1,h2,h3⟩;by_cases e:j=k
    ·subst e;exact absurd ht h2
    ·exact .inl ⟨j,by omega,h2,h3⟩
  ·rw [if_neg ht];constructor
   ·rintro (⟨j,h1,h2⟩ | h2)
    ·exact⟨j,by omega,h2⟩
    ·exact⟨k,by omega,ht,zMs h2⟩
   ·rintro ⟨j,h1,h2,h3⟩;by_cases e:j=k
    ·subst e;exact .inr (List.mem_singleton.2 h3)
    ·exact .inl ⟨j,by omega,h2,h3⟩
def jJ(e:(Int×Int×Int×Int)):Int×Int:=(e.2.1-288,e.2.2.1)
def cU(b:List Int):List (Int×Int):=(entsK b 40).map jJ
theorem zaT(e f:(Int×Int×Int×Int)):over (jJ e) (jJ f)=nZ e f:=by unfold over nZ jJ;dsimp only;rw [Bool.eq_iff_iff];simp only [Bool.and_eq_true,decide_eq_true_eq];omega
theorem jZ{x:Int×Int}:x∈cU b ↔ ∃ h:Int,1<=h/\h<=40/\aq b h≠0/\x=jJ (ai b h):=by
 unfold cU;rw [List.mem_map];constructor
 ·rintro ⟨e,he,rfl⟩;obtain⟨j,h1,h2,rfl⟩:=eO.1 he;exact⟨(j:Int)+1,by omega,by omega,h2,rfl⟩
 ·rintro ⟨h,h1,h2,ht,rfl⟩;refine⟨ai b h,eO.2 ⟨(h-1).toNat,by omega,?_⟩,rfl⟩;rw [show(((h-1).toNat:Nat):Int)+1=h by omega];exact⟨ht,rfl⟩
theorem ry(b:List Int):(cU b).length<=40:=by unfold cU;rw [zLm];exact b8 b 40
theorem fh(hf:aB b):Good ((b.length:Int)-288) (cU b):=by
 refine⟨fun e he=>?_,?_⟩
 ·obtain⟨h,h1,h2,ht,rfl⟩:=jZ.1 he;have:=hf.jB h1 h2 ht
  show 0<=(ai b h).2.1-288/\1<=(ai b h).2.2.1/\(ai b h).2.1-288+(ai b h).2.2.1<=_
  omega
 ·unfold cU;rw [List.pairwise_map];have key:∀ k:Nat,k<=40->(entsK b k).Pairwise (fun x y=>over (jJ x) (jJ y)=false):=by
   intro k;induction k with
   | zero=>intro _;exact List.Pairwise.nil
   | succ k ih =>
    intro hk;unfold entsK;rw [List.pairwise_append];refine⟨ih (by omega),?_,?_⟩
    ·split
     ·exact List.Pairwise.nil
     ·exact List.pairwise_singleton _ _
    ·intro x hx y hy;obtain⟨j,h1,h2,rfl⟩:=eO.1 hx;by_cases ht:aq b ((k:Int)+1)=0
     ·rw [if_pos ht] at hy;cases hy
     ·rw [if_neg ht] at hy;rw [zMs hy,zaT];exact hf.apart (by omega) (by omega) (by omega) (by omega) (by omega) h2 ht
  exact key 40 zNr
theorem Re:∀ {s:List (Int×Int)} {f:Int},eN f s->∀ {p z:Int},f<=p->1<=z->p+z<=dq f s->(∀ e∈s,e.1+e.2<=p\/p+z<=e.1)->∃ x∈runsOf f s,x.1<=p/\p+z<=x.1+x.2:=by
 intro s;induction s with
 | nil =>intro f _ p z h1 h2 h3 _;simp only [dq] at h3;omega
 | cons e r ih =>
  intro f hc p z h1 h2 h3 h4;obtain⟨c1,c2,c3⟩:=hc;rcases h4 e (by simp) with h | h
  ·obtain⟨x,hx,h5⟩:=ih c3 h h2 h3 (fun e' Z9=>h4 e' (by simp [Z9]));exact⟨x,by unfold runsOf;exact List.mem_append.2 (.inr hx),h5⟩
  ·refine⟨(f,e.1-f),?_,h1,by show p+z<=f+(e.1-f);omega⟩;unfold runsOf;rw [if_pos (by omega)];simp
theorem Nr{n:Int}{l s:List (Int×Int)}(hs:ED l s)(hg:Good n l)(hn:0<=n){p z:Int}(h1:0<=p)(h2:1<=z)(h3:p+z<=n)(h4:∀ e∈l,e.1+e.2<=p\/p+z<=e.1):∃ x∈de n s,x.1<=p/\p+z<=x.1+x.2:=by
 obtain⟨c1,c2,_⟩:=hs.chain hg hn;refine Re c1 h1 h2 (by rw [c2];exact h3) (fun e he=>?_);rcases zMa he with he | he
 ·exact h4 e (hs.1.mem_iff.1 he)
 ·rw [zMs he];exact .inr h3
theorem Ys{n:Int}{l s:List (Int×Int)}(hs:ED l s)(hg:Good n l)(hn:0<=n){z:Int}(hz:1<=z)(hf:(fT z (de n s)).2≠0) :
  0<=(fT z (de n s)).1/\(fT z (de n s)).1+z<=n/\∀ e∈l,e.1+e.2<=(fT z (de n s)).1\/(fT z (de n s)).1+z<=e.1:=by
 have eQ:=hs.ts hg hn;rcases A3 hz (fun r hr=>(eQ r hr).2.1) with ⟨h,_⟩ | ⟨_,h1,h2,_⟩
 ·exact absurd h hf
 ·obtain⟨q1,q2,q3,q4⟩:=eQ _ h1;refine⟨q1,by omega,fun e he=>?_⟩;have:=ko.1 (q4 e he);omega
theorem Ej{n:Int}{l s:List (Int×Int)}(hs:ED l s)(hg:Good n l)(hn:0<=n){p z:Int}(h1:0<=p)(h2:1<=z)(h3:p+z<=n)(h4:∀ e∈l,e.1+e.2<=p\/p+z<=e.1):(fT z (de n s)).2≠0:=by
 obtain⟨x,hx,h5,h6⟩:=Nr hs hg hn h1 h2 h3 h4;rcases A3 h2 (fun r hr=>(hs.ts hg hn r hr).2.1) with ⟨_,h⟩ | ⟨h,_⟩
 ·have:=h x hx;omega
 ·omega
def eZ(b:List Int):Nat:=tr (fun j=>decide (aq b ((j:Int)+1)=0)) 40
theorem gU(b:List Int):cF (fun j=>decide (aq b ((j:Int)+1)=0)) 40 (eZ b):=cf _ _
def Oi(b:List Int)(h:Int)(x n:Nat)(t:Int):List Int:=bP (splice b x (ag n)) (h,(x:Int),(n:Int),t)
theorem Bu(hf:aB b){h t:Int}{x n:Nat}(h1:1<=h)(h2:h<=40)(ht0:aq b h=0)(hn:1<=n)(hn2:n<=1000)(hx:288<=x)(k7:x+n<=b.length)(t1:0<=t)(t2:t<=15)
  (gI:∀ k,1<=k->k<=40->aq b k≠0->(ai b k).2.1+(ai b k).2.2.1<=x\/(x:Int)+n<=(ai b k).2.1) :
  aB (Oi b h x n t)/\(Oi b h x n t).length=b.length/\aD (Oi b h x n t) h=(t,ag n)/\ai (Oi b h x n t) h=(h,(x:Int),(n:Int),t)/\aq (Oi b h x n t) h≠0 /\
   (∀ k,1<=k->k<=40->k≠h->aD (Oi b h x n t) k=aD b k/\aq (Oi b h x n t) k=aq b k/\ai (Oi b h x n t) k=ai b k):=by
 have hz:=aj n;obtain⟨K4,kU,Uo,DY⟩:=nX hf (r:=ag n) hx (by rw [hz];exact k7);have hp:di (splice b x (ag n)) (h,(x:Int),(n:Int),t)=0:=bS.2 ⟨K4.cW,aF.2 ⟨h1,h2⟩,t1,t2,by show 1<=(n:Int);omega,by show(n:Int)<=1000;omega,by show 288<=(x:Int);omega,by rw [kU];show(x:Int)+n<=_;omega⟩;have h0:aq (splice b x (ag n)) h=0:=by rw [(Uo h h1 h2).1];exact ht0
 have zhZ:∀ k,1<=k->k<=40->aq (splice b x (ag n)) k≠0->nZ (h,(x:Int),(n:Int),t) (ai (splice b x (ag n)) k)=false:=fun k k1 k2 kt=>by obtain⟨e1,e2⟩:=Uo k k1 k2;rw [e1] at kt;rw [e2];exact pq.2 (gI k k1 k2 kt)
 obtain⟨p1,p2,p3,p4,p5,p6⟩:=qz K4 hp h0 zhZ;obtain⟨o1,o2⟩:=zT K4 hp h0 zhZ;refine⟨p1,p5.trans kU,?_,p4,p3,fun k k1 k2 hk=>⟨?_,?_,?_⟩⟩
 ·refine o2.trans ?_
  congr 1
  unfold cP;dsimp only;rw [zTn,zTn];apply bQ
  ·rw [zLt,zLd,kU,hz];omega
  ·intro j hj;rw [zLt,zLd] at hj;have Ch:j<n:=by omega
   have:=bY (z:=b) (l:=ag n) (off:=x) (j:=j) (by rw [hz];exact k7) (by rw [hz];exact Ch);simp only [List.getD,List.getElem?_take,if_pos Ch,List.getElem?_drop] at this ⊢;exact this
 ·exact(o1 k k1 k2 hk).trans (DY k k1 k2 (fun kt=>by rw [hz];exact gI k k1 k2 kt))
 ·exact(p2 k k1 k2 hk).1.trans (Uo k k1 k2).1
 ·exact(p2 k k1 k2 hk).2.trans (Uo k k1 k2).2
theorem T1(hf:aB b){s:List (Int×Int)}(hs:ED (cU b) s){n:Nat}(hn:1<=n)(dc:(fT n (de ((b.length:Int)-288) s)).2≠0) :
  ∃ x:Nat,(x:Int)=288+(fT n (de ((b.length:Int)-288) s)).1/\288<=x/\x+n<=b.length/\∀ k,1<=k->k<=40->aq b k≠0->(ai b k).2.1+(ai b k).2.2.1<=x\/(x:Int)+n<=(ai b k).2.1:=by
 have hl:=hf.len;obtain⟨r1,r2,r3⟩:=Ys hs (fh hf) (by omega) (z:=(n:Int)) (by omega) dc;generalize (fT n (de ((b.length:Int)-288) s)).1=y at *;refine⟨(288+y).toNat,by omega,by omega,by omega,fun k k1 k2 kt=>?_⟩;have:=r3 (jJ (ai b k)) (jZ.2 ⟨k,k1,k2,kt,rfl⟩);unfold jJ at this;dsimp only at this;omega
theorem sQ(hf:aB b){h:Int}(h1:1<=h)(h2:h<=40)(ht:aq b h≠0){p:Nat}{r:List Int}(hr:(p:Int)+r.length<=(ai b h).2.2.1) :
  aB (splice b ((ai b h).2.1.toNat+p) r)/\(splice b ((ai b h).2.1.toNat+p) r).length=b.length/\(∀ k,1<=k->k<=40->k≠h->aD (splice b ((ai b h).2.1.toNat+p) r) k=aD b k) /\
   (∀ k,1<=k->k<=40->aq (splice b ((ai b h).2.1.toNat+p) r) k=aq b k/\ai (splice b ((ai b h).2.1.toNat+p) r) k=ai b k)/\cP (splice b ((ai b h).2.1.toNat+p) r) ((ai b h).2.1+p) r.length=r:=by
 have he:=hf.jB h1 h2 ht;have k7:(ai b h).2.1.toNat+p+r.length<=b.length:=by omega
 obtain⟨q1,q2,q3,q4⟩:=nX hf (x:=(ai b h).2.1.toNat+p) (r:=r) (by omega) k7;refine⟨q1,q2,fun k k1 k2 hk=>q4 k k1 k2 (fun kt=>?_),q3,?_⟩
 ·have:=pq.1 (hf.apart h1 h2 k1 k2 (fun e=>hk e.symm) ht kt);omega
 ·unfold cP;rw [show((ai b h).2.1+(p:Int)).toNat=(ai b h).2.1.toNat+p by omega,zTn];apply bQ
  ·rw [zLt,zLd,q2];omega
  ·intro j hj;rw [zLt,zLd] at hj;have Ch:j<r.length:=by omega
   have:=bY (z:=b) (l:=r) (off:=(ai b h).2.1.toNat+p) (j:=j) k7 Ch;simp only [List.getD,List.getElem?_take,if_pos Ch,List.getElem?_drop] at this ⊢;exact this
end
end
def kB(l:List (Int×Int)):List (Int×Int):=l.mergeSort (fun a b=>decide (a.1<=b.1))
theorem Good.oN{n:Int}{l s:List (Int×Int)}(hg:Good n l)(hp:s.Perm l)(hs:s.Pairwise (fun a b=>a.1<=b.1)):ED l s:=by refine⟨hp,?_⟩;have GS:=hg.perm hp;refine(hs.and GS.apart).imp_of_mem (fun {a b} ha hb ⟨h1,h2⟩=>?_);have:=ko.1 h2;have:=GS.all a ha;have:=GS.all b hb;omega
theorem Good.kB{n:Int}{l:List (Int×Int)}(hg:Good n l):ED l (kB l):=by refine hg.oN (List.mergeSort_perm l _) ?_;have:=List.pairwise_mergeSort (le:=fun a b:(Int×Int)=>decide (a.1<=b.1)) (fun a b c h1 h2=>by simp at *;omega) (fun a b=>by simp;omega) l;exact this.imp (fun h=>by simpa using h)
theorem Good.LF{n:Int}{l s:List (Int×Int)}(hg:Good n l)(hp:s.Perm l)(hs:s.Pairwise (fun a b=>a.1<=b.1)):s=YtcimhnnendlblaaGreat.kB l :=sU ((hg.oN hp hs).1.trans hg.kB.1.symm) (hg.oN hp hs).2 hg.kB.2
def dS(n:Int)(l:List (Int×Int)):List (Int×Int):=if r7 n l=0 then de n (kB l) else []
def jg(n:Int)(l:List (Int×Int))(size:Int):Int:=if r7 n l≠0 then r7 n l else if size<1\/6400<size then 1 else if (fT size (dS n l)).2=0 then 4 else 0
def iC(n:Int)(l:List (Int×Int))(size:Int):Int:=if jg n l size=0 then (fT size (dS n l)).1 else 0
theorem zM:∀ (f:Int) (s:List (Int×Int)),(runsOf f s).length<=s.length
 | f,[]=>Nat.le_refl _
 | f,e :: r=>by
  have:=zM (e.1+e.2) r;simp only [runsOf,List.length_append,List.length_cons];by_cases h:f<e.1
  ·rw [if_pos h];simp;omega
  ·rw [if_neg h];simp;omega
theorem kM{n:Int}{l:List (Int×Int)}(hc:r7 n l=0):(∀ x∈dS n l,0<=x.1/\1<=x.2/\x.1+x.2<=n)/\(dS n l).length<=201:=by
 obtain⟨h0,h1,h2,hg⟩:=kQ.1 hc;unfold dS;rw [if_pos hc];refine⟨fun x hx=>?_,?_⟩
 ·have:=hg.kB.ts hg h0 x hx;exact⟨this.1,this.2.1,this.2.2.1⟩
 ·refine Nat.le_trans (zM _ _) ?_;rw [List.length_append,hg.kB.1.length_eq];simp;omega
section
open Go.RowKit
def mb(l:List (Int×Int×Int×Int)):Int:=l.foldl (fun h e=>if e.1=h then h+1 else h) 1
theorem Du(l:List (Int×Int×Int×Int))(e:(Int×Int×Int×Int)):mb (l++[e])=if e.1=mb l then mb l+1 else mb l:=by unfold mb;rw [List.foldl_append];rfl
theorem Dv(b:List Int):∀ k:Nat,mb (entsK b k)=(tr (fun j=>decide (aq b ((j:Int)+1)=0)) k:Int)+1
 | 0=>by
  have h:=(cf (fun j=>decide (aq b ((j:Int)+1)=0)) 0).1;have:tr (fun j=>decide (aq b ((j:Int)+1)=0)) 0=0:=by omega
  rw [this];rfl
 | k+1=>by
  have ih:=Dv b k;have h1:=cf (fun j=>decide (aq b ((j:Int)+1)=0)) k;have h2:=cf (fun j=>decide (aq b ((j:Int)+1)=0)) (k+1);generalize tr (fun j=>decide (aq b ((j:Int)+1)=0)) k=p at *;have hp:=h1.1;unfold entsK;by_cases ht:aq b ((k:Int)+1)=0
  ·rw [if_pos ht,List.append_nil,ih];have h3:cF (fun j=>decide (aq b ((j:Int)+1)=0)) (k+1) p:=⟨by omega,h1.2.1,fun aM=>by
    by_cases e:p=k
    ·rw [e];exact decide_eq_true ht
    ·exact h1.2.2 (by omega)⟩
   rw [cF.unique h2 h3]
  ·rw [if_neg ht,Du,ih];by_cases e:p=k
   ·subst e;rw [if_pos (by show(p:Int)+1=p+1;rfl)];have h3:cF (fun j=>decide (aq b ((j:Int)+1)=0)) (p+1) (p+1):=⟨zNr,fun j hj=>by
     by_cases ej:j=p
     ·rw [ej];exact decide_eq_false ht
     ·exact h1.2.1 j (by omega),fun h=>absurd h (Nat.lt_irrefl _)⟩
    rw [cF.unique h2 h3];omega
   ·rw [if_neg (by show ¬ (k:Int)+1=p+1;omega)];have h3:cF (fun j=>decide (aq b ((j:Int)+1)=0)) (k+1) p:=⟨by omega,h1.2.1,fun _=>h1.2.2 (by omega)⟩;rw [cF.unique h2 h3]
theorem Ap(b:List Int):mb (entsK b 40)=(eZ b:Int)+1:=Dv b 40
theorem Pq(b:List Int):eZ b<=40:=(gU b).1
theorem Sc{l:List (Int×Int×Int×Int)}{k:Nat}{e:(Int×Int×Int×Int)}(h:l[k]?=some e):mb (l.take (k+1))=if e.1=mb (l.take k) then mb (l.take k)+1 else mb (l.take k):=by rw [List.take_add_one,h];exact Du _ _
theorem zbp:∀ (l:List (Int×Int×Int×Int)),1<=mb l/\mb l<=l.length+1:=by
 intro l;have key:∀ (l:List (Int×Int×Int×Int)) (h:Int),h<=l.foldl (fun h e=>if e.1=h then h+1 else h) h/\l.foldl (fun h e=>if e.1=h then h+1 else h) h<=h+l.length:=by
  intro l;induction l with
  | nil=>intro h;simp
  | cons e r ih =>
   intro h;simp only [List.foldl_cons,zLc];have:=ih (if e.1=h then h+1 else h);split at this
   ·rename_i he;rw [if_pos he];omega
   ·rename_i he;rw [if_neg he];omega
 have:=key l 1;unfold mb;omega
theorem zaP{b r:List Int}{e:(Int×Int×Int×Int)}{x:Nat}(he:di b e=0)(hx:288<=x)(k7:x+r.length<=b.length):di (splice b x r) e=0/\splice (bP b e) x r=bP (splice b x r) e:=by
 have hl:=length_splice k7;obtain⟨q1,q2,q3⟩:=bS.1 he;have hh:=aF.1 q2;have hp:=cH hh.1 hh.2;have sh:(dB e).length=5:=rfl;have he2:di (splice b x r) e=0:=bS.2 (by rw [hl];exact⟨q1,q2,q3⟩);refine⟨he2,?_⟩;have ay:cJ e.1+(dB e).length<=b.length:=by rw [sh];omega
 have aK:cJ e.1+(dB e).length<=(splice b x r).length:=by rw [hl];exact ay
 have kU:=length_splice ay;have bR:x+r.length<=(splice b (cJ e.1) (dB e)).length:=by rw [kU];exact k7
 unfold bP;rw [if_pos he,if_pos he2];apply bQ
 ·rw [length_splice bR,kU,length_splice aK,hl]
 ·intro j hj;by_cases c1:j<cJ e.1
  ·rw [aY bR (.inl (by omega)),aY ay (.inl c1),aY aK (.inl c1),aY k7 (.inl (by omega))]
  ·by_cases c2:j<cJ e.1+5
   ·obtain⟨i,rfl⟩:∃ i,j=cJ e.1+i:=⟨j-cJ e.1,by omega⟩;rw [aY bR (.inl (by omega)),bY ay (by rw [sh];omega),bY aK (by rw [sh];omega)]
   ·have c3:cJ e.1+(dB e).length<=j:=by rw [sh];omega
    rw [aY aK (.inr c3)];by_cases c4:j<x
    ·rw [aY bR (.inl c4),aY k7 (.inl c4),aY ay (.inr c3)]
    ·by_cases c5:j<x+r.length
     ·obtain⟨i,rfl⟩:∃ i,j=x+i:=⟨j-x,by omega⟩;rw [bY bR (by omega),bY k7 (by omega)]
     ·rw [aY bR (.inr (by omega)),aY k7 (.inr (by omega)),aY ay (.inr c3)]
def sK(L:List Int)(n t:Int):Int:=if n<1\/1000<n\/t<0\/15<t then 1 else if eZ L=40 then 4 else jg ((L.length:Int)-288) (cU L) n
def Oj(L:List Int)(n t:Int):Int:=if sK L n t=0 then (eZ L:Int)+1 else 0
def kR(L:List Int)(n t:Int):List Int:=if sK L n t=0 then Oi L ((eZ L:Int)+1) (288+iC ((L.length:Int)-288) (cU L) n).toNat n.toNat t else L
theorem zy{L:List Int}(hf:aB L):r7 ((L.length:Int)-288) (cU L)=0:=by have:=hf.len;exact kQ.2 ⟨by omega,by omega,Nat.le_trans (ry L) (by decide),fh hf⟩
theorem Hs{L:List Int}(hf:aB L):ED (cU L) (kB (cU L)):=(fh hf).kB
theorem Ek{L:List Int}(hf:aB L){n:Int}(h1:1<=n)(h2:n<=6400):jg ((L.length:Int)-288) (cU L) n=if (fT n (de ((L.length:Int)-288) (kB (cU L)))).2=0 then 4 else 0:=by unfold jg dS;rw [if_neg (fun h=>h (zy hf)),if_neg (by omega),if_pos (zy hf)]
theorem Nu{L:List Int}(hf:aB L){n:Int}(h1:1<=n)(h2:n<=6400)(h0:jg ((L.length:Int)-288) (cU L) n=0):iC ((L.length:Int)-288) (cU L) n=(fT n (de ((L.length:Int)-288) (kB (cU L)))).1:=by unfold iC;rw [if_pos h0];unfold dS;rw [if_pos (zy hf)]
structure GH (L:List Int) (n t:Int) (x N:Nat):Prop where
 eqn:n=N
 n1:1<=N
 n2:N<=1000
 t1:0<=t
 t2:t<=15
 low:eZ L<40
 free:aq L ((eZ L:Int)+1)=0
 fit:jg ((L.length:Int)-288) (cU L) n=0
 eqx:288+iC ((L.length:Int)-288) (cU L) n=x
 x1:288<=x
 x2:x+N<=L.length
 no:∀ k,1<=k->k<=40->aq L k≠0->(ai L k).2.1+(ai L k).2.2.1<=x\/(x:Int)+N<=(ai L k).2.1
theorem yu{L:List Int}(hf:aB L){n t:Int}(h0:sK L n t=0):∃ x N,GH L n t x N:=by
 unfold sK at h0;by_cases h1:n<1\/1000<n\/t<0\/15<t
 ·rw [if_pos h1] at h0;exact absurd h0 (by decide)
 ·rw [if_neg h1] at h0;by_cases h2:eZ L=40
  ·rw [if_pos h2] at h0;exact absurd h0 (by decide)
  ·rw [if_neg h2] at h0;have h3:=Pq L;obtain⟨N,rfl⟩:=Int.eq_ofNat_of_zero_le (show 0<=n by omega);have dc:(fT (N:Int) (de ((L.length:Int)-288) (kB (cU L)))).2≠0:=fun hz=>by rw [Ek hf (by omega) (by omega),if_pos hz] at h0;exact absurd h0 (by decide)
   obtain⟨x,hx,GK,k7,gI⟩:=T1 hf (Hs hf) (n:=N) (by omega) dc;exact⟨x,N,rfl,by omega,by omega,by omega,by omega,by omega,of_decide_eq_true ((gU L).2.2 (by omega)),h0,by rw [Nu hf (by omega) (by omega) h0,hx],GK,k7,gI⟩
section
variable {L:List Int} {n t:Int} {x N:Nat}
theorem GH.fK(h:GH L n t x N)(h0:sK L n t=0):kR L n t=Oi L ((eZ L:Int)+1) x N t/\Oj L n t=(eZ L:Int)+1:=by unfold kR Oj;rw [if_pos h0,if_pos h0,h.eqx,h.eqn,zTn,zTn];exact⟨rfl,rfl⟩
theorem GH.put(h:GH L n t x N)(hf:aB L):di L ((eZ L:Int)+1,(x:Int),(N:Int),t)=0:=by have h1:=h.low;have h2:=h.n1;have h3:=h.n2;have h4:=h.t1;have h5:=h.t2;have h6:=h.x1;have h7:=h.x2;exact bS.2 ⟨hf.cW,aF.2 ⟨by show 1<=(eZ L:Int)+1;omega,by show(eZ L:Int)+1<=40;omega⟩,h4,h5,by show 1<=(N:Int);omega,by show(N:Int)<=1000;omega,by show 288<=(x:Int);omega,by show(x:Int)+N<=_;omega⟩
theorem GH.keep(h:GH L n t x N)(hf:aB L)(h0:sK L n t=0):aB (kR L n t)/\(kR L n t).length=L.length/\aD (kR L n t) ((eZ L:Int)+1)=(t,ag N)/\ai (kR L n t) ((eZ L:Int)+1)=((eZ L:Int)+1,(x:Int),(N:Int),t)/\aq (kR L n t) ((eZ L:Int)+1)≠0 /\
  (∀ k,1<=k->k<=40->k≠(eZ L:Int)+1->aD (kR L n t) k=aD L k/\aq (kR L n t) k=aq L k/\ai (kR L n t) k=ai L k):=by
 rw [(h.fK h0).1];exact Bu hf (by omega) (by have:=h.low;omega) h.free h.n1 h.n2 h.x1 h.x2 h.t1 h.t2 h.no
theorem GH.lay(h:GH L n t x N)(hf:aB L)(h0:sK L n t=0):splice (bP L ((eZ L:Int)+1,(x:Int),(N:Int),t)) x (ag N)=kR L n t:=by rw [(h.fK h0).1];exact(zaP (h.put hf) h.x1 (by rw [aj];exact h.x2)).2
end
theorem Qq{L:List Int}(hb:bj L)(n t:Int):bj (kR L n t):=by
 unfold kR;split
 ·unfold Oi bP;split
  ·exact bN (bN hb (bW _)) (oE _)
  ·exact fun z hz=>(by cases hz)
 ·exact hb
theorem KG{L:List Int}(hf:aB L)(n t:Int):aB (kR L n t):=by
 by_cases h0:sK L n t=0
 ·obtain⟨x,N,h⟩:=yu hf h0;exact(h.keep hf h0).1
 ·unfold kR;rw [if_neg h0];exact hf
theorem P6{L:List Int}(hf:aB L):∀ e∈entsK L 40,0<=e.2.1/\e.2.1<=65535/\0<=e.2.2.1/\e.2.2.1<=65535:=fun e he=>by obtain⟨j,h1,h2,rfl⟩:=eO.1 he;have:=hf.jB (h:=(j:Int)+1) (by omega) (by omega) h2;have:=hf.len;omega
def vz(L:List Int)(h x n:Int):Int:=if aP L h≠0 then aP L h else if x<0\/n<0\/(ai L h).2.2.1<x+n then 3 else 0
theorem l5{L:List Int}{h x n:Int}:vz L h x n=0 ↔ aP L h=0/\0<=x/\0<=n/\x+n<=(ai L h).2.2.1:=by
 unfold vz;by_cases h0:aP L h=0
 ·rw [if_neg (fun h=>h h0)];by_cases h1:x<0\/n<0\/(ai L h).2.2.1<x+n
  ·rw [if_pos h1];exact⟨fun h=>absurd h (by decide),fun h=>by omega⟩
  ·rw [if_neg h1];exact⟨fun _=>⟨h0,by omega⟩,fun _=>rfl⟩
 ·rw [if_pos h0];exact⟨fun h=>absurd h h0,fun h=>absurd h.1 h0⟩
def L7(L:List Int)(h x n:Int):List Int:=if vz L h x n=0 then (L.drop ((ai L h).2.1.toNat+x.toNat)).take n.toNat else []
def tB(L:List Int)(h x:Int)(l:List Int):List Int:=if vz L h x l.length=0 then splice L ((ai L h).2.1.toNat+x.toNat) l else L
theorem dV{n:Nat}(h1:288<=n)(h2:n<=6400):aB (ag n)/\(∀ h:Int,aq (ag n) h=0)/\∀ i,i<8->isRoot (rowAt (ag n) i)=false:=by
 have hl:=aj n;have ht:∀ h:Int,aq (ag n) h=0:=fun h=>by unfold aq;exact nL n _
 have hr:∀ i,i<8->isRoot (rowAt (ag n) i)=false:=fun i hi=>C1 (by omega) hi (fun j _=>nL n _)
 refine⟨ze (bF.2 (by rw [hl];omega)) (fun h _ _ q=>absurd (ht h) q) (fun h _ _ _ _ _ q _=>absurd (ht h) q) (fun h a1 a2 _=>(uZ (by omega) a1 a2 (fun j _=>nL n _)).2) (fun _ i hi=>dD.2 (.inl (hr i hi))),ht,hr⟩
theorem KF{b:List Int}(hf:aB b){h t:Int}{x n:Nat}(he:di (splice b x (ag n)) (h,(x:Int),(n:Int),t)=0)(h1:1<=h)(h2:h<=40)(hx:288<=x)(k7:x+n<=b.length):∀ j,200<=j->j<288->(Oi b h x n t).getD j 0=b.getD j 0:=fun j hj Ch=>by have hz:=aj n;have hb:=hf.len;have hp:=cH h1 h2;have sh:(dB (h,(x:Int),(n:Int),t)).length=5:=rfl;unfold Oi bP;rw [if_pos he];dsimp only;rw [aY (by rw [sh,length_splice (by rw [hz];exact k7)];omega) (by rw [sh];exact .inr (by omega)),aY (by rw [hz];exact k7) (.inl (by omega))]
end
end Go.Proofs.YtcimhnnendlblaaGreat
