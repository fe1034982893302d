/-
  Images as plain lists of bytes: entries, roots, what is put and dropped. (Part of the proofs over package image.)
-/
import Derived.Test.YtchmlnmhbfaclaaGreatDoorJRef
namespace Go.Proofs.YtchmlnmhbfaclaaGreatDoor
open Go.RowKit
set_option linter.unusedVariables false
theorem length_splice{z l:List Int}{off:Nat}(h:off+l.length<=z.length):(splice z off l).length=z.length:=by
 simp [splice];omega
theorem qi{z l:List Int}{off j:Nat}(h:off+l.length<=z.length)(hj:j<l.length):(splice z off l).getD (off+j) 0=l.getD j 0:=by
 have h1:(z.take off).length=off:=by simp;omega
 unfold splice
 rw [List.getD,List.getElem?_append_right (by omega),h1,Nat.add_sub_cancel_left,List.getElem?_append_left hj]
 rfl
theorem zw{z l:List Int}{off j:Nat}(h:off+l.length<=z.length)(hj:j<off\/off+l.length<=j):(splice z off l).getD j 0=z.getD j 0:=by
 have h1:(z.take off).length=off:=by simp;omega
 unfold splice
 rcases hj with hj | hj
 ·rw [List.getD,List.getElem?_append_left (by omega),List.getElem?_take,if_pos hj]
  rfl
 ·rw [List.getD,List.getElem?_append_right (by omega),h1,List.getElem?_append_right (by omega),List.getElem?_drop]
  rw [show off+l.length+(j-off-l.length)=j by omega]
  rfl
theorem qL(l:List Int)(p:Nat)(h:p+2<=l.length):Qj l p 2=l.getD p 0+256 * l.getD (p+1) 0:=by
 rw [zdH l p 1 (by omega),zdH l p 0 (by omega)]
 have:Qj l p 0=0:=by simp [Qj,numOf]
 rw [this]
 simp
 omega
def Zi(n:Int):Bool:=decide (288<=n) && decide (n<=6400)
def zaT(h:Int):Bool:=decide (1<=h) && decide (h<=40)
theorem zM{n:Int}:Zi n=true ↔ 288<=n/\n<=6400:=by unfold Zi;rw [Bool.and_eq_true,decide_eq_true_iff,decide_eq_true_iff]
theorem zm{n:Int}:zaT n=true ↔ 1<=n/\n<=40:=by unfold zaT;rw [Bool.and_eq_true,decide_eq_true_iff,decide_eq_true_iff]
def plc(h:Int):Nat:=(5 * (h-1)).toNat
def zg(b:List Int)(h:Int):Int:=b.getD (plc h) 0
def zO(b:List Int)(h:Int):Int:=if Zi b.length=false then 3 else if zaT h=false then 1 else if zg b h=0 then 5 else 0
def ze(b:List Int)(h:Int):(Int×Int×Int×Int):=(h,Qj b (plc h+1) 2,Qj b (plc h+3) 2,zg b h-1)
def zBz:(Int×Int×Int×Int):=(0,0,0,0)
def zaQ(b:List Int)(h:Int):(Int×Int×Int×Int):=if zO b h=0 then ze b h else zBz
def zo(b:List Int):Nat->List (Int×Int×Int×Int)
 | 0=>[]
 | k+1=>zo b k++if zg b ((k:Int)+1)=0 then [] else [ze b ((k:Int)+1)]
theorem qj(b:List Int)(k:Nat):(zo b k).length<=k:=by
 induction k with
 | zero=>exact Nat.le_refl _
 | succ k ih=>unfold zo;rw [List.length_append];split <;> simp <;> omega
def Za(b:List Int)(e:(Int×Int×Int×Int)):Int :=
 if Zi b.length=false then 3
 else if zaT e.1=false\/e.2.2.2<0\/15<e.2.2.2\/e.2.2.1<1\/1000<e.2.2.1 then 1
 else if e.2.1<288\/b.length-e.2.1<e.2.2.1 then 3 else 0
def zax(e:(Int×Int×Int×Int)):List Int:=[(e.2.2.2+1) % 256,e.2.1 % 256,e.2.1 / 256 % 256,e.2.2.1 % 256,e.2.2.1 / 256 % 256]
def putL(b:List Int)(e:(Int×Int×Int×Int)):List Int:=if Za b e=0 then splice b (plc e.1) (zax e) else []
def qh(b:List Int)(h:Int):List Int:=if zO b h=0 then splice b (plc h) (zerosB 5) else []
theorem znO(e:(Int×Int×Int×Int)):Byt (zax e):=by
 intro z hz
 unfold zax at hz
 rcases List.mem_cons.1 hz with rfl | hz
 ·omega
 rcases List.mem_cons.1 hz with rfl | hz
 ·omega
 rcases List.mem_cons.1 hz with rfl | hz
 ·omega
 rcases List.mem_cons.1 hz with rfl | hz
 ·omega
 rw [List.mem_singleton.1 hz]
 omega
theorem qx{h:Int}(h1:1<=h)(h2:h<=40):plc h+5<=200:=by unfold plc;omega
theorem zAJ{h k:Int}(h1:1<=h)(k1:1<=k)(hk:h≠k):plc h+5<=plc k\/plc k+5<=plc h:=by unfold plc;omega
theorem zq{b:List Int}{h:Int}:zO b h=0 ↔ Zi b.length=true/\zaT h=true/\zg b h≠0:=by
 unfold zO
 by_cases h1:Zi b.length=false
 ·rw [if_pos h1];simp [h1]
 ·rw [if_neg h1]
  have h1':Zi b.length=true:=by simpa using h1
  by_cases h2:zaT h=false
  ·rw [if_pos h2];simp [h2]
  ·rw [if_neg h2]
   have h2':zaT h=true:=by simpa using h2
   by_cases h3:zg b h=0
   ·rw [if_pos h3];simp [h3]
   ·rw [if_neg h3];simp [h1',h2',h3]
theorem qe{b:List Int}{e:(Int×Int×Int×Int)}:Za b e=0 ↔ Zi b.length=true/\zaT e.1=true/\0<=e.2.2.2/\e.2.2.2<=15/\1<=e.2.2.1/\e.2.2.1<=1000/\288<=e.2.1/\e.2.1+e.2.2.1<=b.length:=by
 unfold Za
 by_cases h1:Zi b.length=false
 ·rw [if_pos h1];simp [h1]
 ·rw [if_neg h1]
  have h1':Zi b.length=true:=by simpa using h1
  by_cases h2:zaT e.1=false
  ·rw [if_pos (.inl h2)];simp [h2]
  ·have h2':zaT e.1=true:=by simpa using h2
   by_cases h3:zaT e.1=false\/e.2.2.2<0\/15<e.2.2.2\/e.2.2.1<1\/1000<e.2.2.1
   ·rw [if_pos h3]
    constructor
    ·intro h;cases h
    ·rintro ⟨_,_,h⟩
     rcases h3 with h3 | h3
     ·exact absurd h3 h2
     ·omega
   ·rw [if_neg h3]
    have h3':¬ (e.2.2.2<0\/15<e.2.2.2\/e.2.2.1<1\/1000<e.2.2.1):=fun h=>h3 (.inr h)
    by_cases h4:e.2.1<288\/b.length-e.2.1<e.2.2.1
    ·rw [if_pos h4]
     constructor
     ·intro h;cases h
     ·rintro ⟨_,_,h⟩;omega
    ·rw [if_neg h4]
     refine⟨fun _=>⟨h1',h2',by omega⟩,fun _=>rfl⟩
theorem zcv{b:List Int}{e:(Int×Int×Int×Int)}(h:Za b e=0):(putL b e).length=b.length:=by
 obtain⟨h1,h2,_⟩:=qe.1 h
 have h1':=zM.1 h1
 have h2':=zm.1 h2
 have:=qx h2'.1 h2'.2
 unfold putL
 rw [if_pos h]
 exact length_splice (by show plc e.1+5<=_;omega)
theorem zhQ{b:List Int}{e:(Int×Int×Int×Int)}(h:Za b e=0):zO (putL b e) e.1=0/\ze (putL b e) e.1=e:=by
 obtain⟨h1,h2,h3⟩:=qe.1 h
 have h1':=zM.1 h1
 have h2':=zm.1 h2
 have hp:=qx h2'.1 h2'.2
 have hlen:=zcv h
 have hin:∀ j,j<5->(putL b e).getD (plc e.1+j) 0=(zax e).getD j 0:=fun j hj=>by
  unfold putL
  rw [if_pos h]
  exact qi (by show plc e.1+5<=_;omega) hj
 have t0:=hin 0 (by omega)
 have t1:=hin 1 (by omega)
 have t2:=hin 2 (by omega)
 have t3:=hin 3 (by omega)
 have t4:=hin 4 (by omega)
 obtain⟨x,a,l,t⟩:=e
 dsimp only at *
 have e0:(zax (x,a,l,t)).getD 0 0=(t+1) % 256:=rfl
 have e1:(zax (x,a,l,t)).getD 1 0=a % 256:=rfl
 have e2:(zax (x,a,l,t)).getD 2 0=a / 256 % 256:=rfl
 have e3:(zax (x,a,l,t)).getD 3 0=l % 256:=rfl
 have e4:(zax (x,a,l,t)).getD 4 0=l / 256 % 256:=rfl
 rw [e0,Nat.add_zero] at t0
 rw [e1] at t1
 rw [e2] at t2
 rw [e3] at t3
 rw [e4] at t4
 refine⟨zq.2 ⟨by rw [hlen];exact h1,h2,?_⟩,?_⟩
 ·unfold zg
  rw [t0];omega
 ·unfold ze zg
  rw [qL _ _ (by rw [hlen];omega),qL _ _ (by rw [hlen];omega),t0,t1,t2,t3,t4]
  simp only [Prod.mk.injEq,true_and]
  omega
theorem za1{b r:List Int}{h k:Int}(hr:r.length=5)(hb:288<=b.length)(h1:1<=h)(h2:h<=40)(k1:1<=k)(k2:k<=40)(hk:k≠h):zg (splice b (plc h) r) k=zg b k/\ze (splice b (plc h) r) k=ze b k:=by
 have hp:=qx h1 h2
 have hq:=qx k1 k2
 have hne:=zAJ h1 k1 (fun e=>hk e.symm)
 have hlen:(splice b (plc h) r).length=b.length:=length_splice (by omega)
 have hout:∀ j,j<5->(splice b (plc h) r).getD (plc k+j) 0=b.getD (plc k+j) 0:=fun j hj=>zw (by omega) (by omega)
 have e0:=hout 0 (by omega)
 rw [Nat.add_zero] at e0
 have ht:zg (splice b (plc h) r) k=zg b k:=e0
 refine⟨ht,?_⟩
 unfold ze
 rw [ht,qL _ _ (by omega),qL _ _ (by omega),qL b _ (by omega),qL b _ (by omega)]
 have e1:=hout 1 (by omega)
 have e2:=hout 2 (by omega)
 have e3:=hout 3 (by omega)
 have e4:=hout 4 (by omega)
 rw [e1,show plc k+1+1=plc k+2 by omega,e2,e3,show plc k+3+1=plc k+4 by omega,e4]
def rowAt(b:List Int)(i:Nat):List Int:=(b.drop (200+11 * i)).take 11
def zj(r:List Int):Bool:=r.any (fun c=>c != 0)
def rootOf(r:List Int):ByteArray×Int:=((zG (r.take 8)).1,r.getD 10 0)
def zk(b:List Int):Nat->List (ByteArray×Int)
 | 0=>[]
 | k+1=>zk b k++if zj (rowAt b k)=true then [rootOf (rowAt b k)] else []
theorem za3(b:List Int)(k:Nat):(zk b k).length<=k:=by
 induction k with
 | zero=>exact Nat.le_refl _
 | succ k ih=>unfold zk;rw [List.length_append];split <;> simp <;> omega
def zaF(r:ByteArray×Int):Bool:=decide (r.1.size=0) && decide (r.2=0)
theorem zac{r:ByteArray×Int}:zaF r=true ↔ r.1.size=0/\r.2=0:=by unfold zaF;rw [Bool.and_eq_true,decide_eq_true_iff,decide_eq_true_iff]
def Qb(s:ByteArray):Bool:=decide (1<=s.size) && (decide (s.size<=8) && decide (zil (fun j=>(!ltr ((strL s).getD j 0))) s.size=s.size))
theorem zS{s:ByteArray}:Qb s=true ↔ ZO s:=by
 unfold Qb
 rw [Bool.and_eq_true,Bool.and_eq_true,decide_eq_true_iff,decide_eq_true_iff,decide_eq_true_iff]
 have hf:=zB (fun j=>(!ltr ((strL s).getD j 0))) s.size
 constructor
 ·rintro ⟨h1,h2,h3⟩
  rw [h3] at hf
  exact⟨h1,h2,hf⟩
 ·rintro ⟨h1,h2,h3⟩
  exact⟨h1,h2,hf.unique h3⟩
def ZL(r:ByteArray×Int):Int:=if zaF r=true then 0 else if zaT r.2=false then 1 else if Qb r.1=true then 0 else 2
def zbR(r:ByteArray×Int):List Int:=if zaF r=true then zerosB 11 else zI r.1++[0,0,r.2 % 256]
def prE(b:List Int)(i:Int)(r:ByteArray×Int):Int:=if Zi b.length=false then 3 else if i<0\/7<i then 1 else ZL r
def prL(b:List Int)(i:Int)(r:ByteArray×Int):List Int:=if prE b i r=0 then splice b (200+11 * i.toNat) (zbR r) else []
theorem zdu{r:ByteArray×Int}(h:ZL r=0):(zbR r).length=11:=by
 unfold zbR
 unfold ZL at h
 by_cases h0:zaF r=true
 ·rw [if_pos h0];exact length_zerosB 11
 ·rw [if_neg h0] at h ⊢
  by_cases h1:zaT r.2=false
  ·rw [if_pos h1] at h;cases h
  ·rw [if_neg h1] at h
   by_cases h2:Qb r.1=true
   ·rw [List.length_append,zH _ (zS.1 h2).2.1];rfl
   ·rw [if_neg h2] at h;cases h
theorem znN(r:ByteArray×Int):Byt (zbR r):=by
 unfold zbR
 by_cases h0:zaF r=true
 ·rw [if_pos h0];exact byt_zerosB 11
 ·rw [if_neg h0]
  intro z hz
  rcases List.mem_append.1 hz with hz | hz
  ·exact zdU _ z hz
  rcases List.mem_cons.1 hz with rfl | hz
  ·omega
  rcases List.mem_cons.1 hz with rfl | hz
  ·omega
  rw [List.mem_singleton.1 hz]
  omega
theorem zcw{b:List Int}{i:Int}{r:ByteArray×Int}:prE b i r=0 ↔ Zi b.length=true/\0<=i/\i<=7/\ZL r=0:=by
 unfold prE
 by_cases h1:Zi b.length=false
 ·rw [if_pos h1];simp [h1]
 ·rw [if_neg h1]
  have h1':Zi b.length=true:=by simpa using h1
  by_cases h2:i<0\/7<i
  ·rw [if_pos h2]
   constructor
   ·intro h;cases h
   ·rintro ⟨_,_,_,_⟩;omega
  ·rw [if_neg h2]
   exact⟨fun h=>⟨h1',by omega,by omega,h⟩,fun h=>h.2.2.2⟩
theorem zls{b:List Int}{i:Int}{r:ByteArray×Int}(h:prE b i r=0):(prL b i r).length=b.length:=by
 obtain⟨h1,h2,h3,h4⟩:=zcw.1 h
 have h1':=zM.1 h1
 unfold prL
 rw [if_pos h]
 exact length_splice (by rw [zdu h4];omega)
theorem zF{b:List Int}{i j:Nat}(hj:j<11):(rowAt b i).getD j 0=b.getD (200+11 * i+j) 0:=by
 unfold rowAt
 simp [List.getD,hj]
theorem zu{b:List Int}{i:Nat}(h:200+11 * i+11<=b.length):(rowAt b i).length=11:=by
 unfold rowAt;simp;omega
theorem zjs{b l:List Int}{off i:Nat}(h:off+l.length<=b.length)(hi:200+11 * i+11<=b.length)(ho:off+l.length<=200+11 * i\/200+11 * i+11<=off):rowAt (splice b off l) i=rowAt b i:=by
 have hl:=length_splice h
 apply zJ
 ·rw [zu (by omega),zu hi]
 ·intro j hj
  rw [zu (by omega)] at hj
  rw [zF hj,zF hj]
  exact zw h (by omega)
theorem zmN{b l:List Int}{i:Nat}(hl:l.length=11)(hi:200+11 * i+11<=b.length):rowAt (splice b (200+11 * i) l) i=l:=by
 have h:200+11 * i+l.length<=b.length:=by omega
 have hs:=length_splice h
 apply zJ
 ·rw [zu (by omega),hl]
 ·intro j hj
  rw [zu (by omega)] at hj
  rw [zF hj]
  exact qi h (by omega)
theorem ZH:zj (zerosB 11)=false:=by
 unfold zj
 rw [List.any_eq_false]
 intro z hz
 have:=(List.mem_replicate.1 hz).2
 simp [this]
theorem zcW{r:ByteArray×Int}(h:ZL r=0)(hn:¬ zaF r=true):zj (zbR r)=true/\rootOf (zbR r)=r:=by
 unfold ZL at h
 unfold zbR
 rw [if_neg hn] at h ⊢
 by_cases h1:zaT r.2=false
 ·rw [if_pos h1] at h;cases h
 rw [if_neg h1] at h
 have h1':=zm.1 (show zaT r.2=true by simpa using h1)
 by_cases h2':Qb r.1=true
 ·have h2:=zS.1 h2'
  have hl:=zH r.1 h2.2.1
  have hm:r.2 % 256=r.2:=by omega
  refine⟨?_,?_⟩
  ·unfold zj
   refine List.any_eq_true.2 ⟨r.2 % 256,by simp,?_⟩
   rw [hm]
   exact bne_iff_ne.2 (by omega)
  ·unfold rootOf
   have ht:(zI r.1++[0,0,r.2 % 256]).take 8=zI r.1:=by rw [List.take_append_of_le_length (by omega),List.take_of_length_le (by omega)]
   have hg:(zI r.1++[0,0,r.2 % 256]).getD 10 0=r.2 % 256:=by
    rw [List.getD,List.getElem?_append_right (by omega),hl];rfl
   rw [ht,hg,hm]
   have hf:=zbz r.1 h2
   have hz:=zby r.1 h2.2.1
   have e1:zp (zI r.1)=r.1.size:=(zB _ _).unique hf
   have e2:QT (zI r.1) r.1.size=8-r.1.size:=(zB _ _).unique hz
   have hr:(zG (zI r.1)).1=r.1:=by
    unfold zG
    rw [if_neg (fun h=>h hl),e1,e2,hl,if_neg (by have:=h2.1;omega)]
    exact zec r.1
   rw [hr]
 ·rw [if_neg h2'] at h;cases h
theorem zbr{b c:List Int}:∀ m,(∀ j,j<m->rowAt c j=rowAt b j)->zk c m=zk b m:=by
 intro m
 induction m with
 | zero=>intro _;rfl
 | succ m ih =>
  intro h
  unfold zk
  rw [h m (by omega),ih (fun j hj=>h j (by omega))]
end Go.Proofs.YtchmlnmhbfaclaaGreatDoor
