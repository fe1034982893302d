/-
  Parts of the proofs, joined by program.
-/
import Derived.Test.YtchmlnmhbfaclaaGreatDoorJNum
import Derived.Test.YtchmlnmhbfaclaaGreatDoorJStm
namespace Go.Proofs.YtchmlnmhbfaclaaGreatDoor
set_option linter.unusedVariables false
def Sec(l:List Int):Prop:=l.length=32/\Byt l
structure DS where
 secs:List (List Int)
 mem:List (Nat×List Int)
 left:Int
 down:Bool
structure DS.Ok (D:DS):Prop where
 len:D.secs.length<=300
 sec:∀ s∈D.secs,Sec s
 mem:∀ p∈D.mem,p.1<D.secs.length/\Sec p.2
 apart:(D.mem.map (·.1)).Nodup
 left:-9223372036854775808<=D.left/\D.left<=9223372036854775807
def qa:List (Nat×List Int)->Nat->List Int->List (Nat×List Int)
 | [],i,b=>[(i,b)]
 | (j,c) :: r,i,b=>if j=i then (i,b) :: r else (j,c) :: qa r i b
def DS.rd(D:DS)(i:Nat):List Int:=(D.mem.lookup i).getD (D.secs.getD i [])
theorem Qw{m:List (Nat×List Int)}{i:Nat}{b:List Int}(h:m.lookup i=some b):(i,b)∈m:=by
 induction m with
 | nil=>simp at h
 | cons p r ih =>
  obtain⟨j,c⟩:=p
  simp only [List.lookup_cons] at h
  split at h
  ·rename_i e
   simp at e h
   subst e;subst h;simp
  ·exact List.mem_cons_of_mem _ (ih h)
theorem QI{m:List (Nat×List Int)}{i:Nat}:m.lookup i=none ↔ i ∉ m.map (·.1):=by
 induction m with
 | nil=>simp
 | cons p r ih =>
  obtain⟨j,c⟩:=p
  simp only [List.lookup_cons]
  split
  ·rename_i e
   simp at e
   subst e;simp
  ·rename_i e
   have e':¬ i=j:=by simpa using e
   rw [ih];simp [e']
theorem zfQ{m:List (Nat×List Int)}(hn:(m.map (·.1)).Nodup){k:Nat}(hk:k<m.length):m.lookup (m.getD k (0,[])).1=some (m.getD k (0,[])).2:=by
 induction m generalizing k with
 | nil=>simp at hk
 | cons p r ih =>
  obtain⟨j,c⟩:=p
  simp only [List.map_cons,List.nodup_cons] at hn
  cases k with
  | zero=>simp
  | succ k =>
   have hk':k<r.length:=by simpa using hk
   have:=ih hn.2 hk'
   have hm:(r.getD k (0,[])).1∈r.map (·.1):=by
    have:r.getD k (0,[])=r[k]:=by simp [List.getD,hk']
    rw [this];exact List.mem_map.2 ⟨_,List.getElem_mem hk',rfl⟩
   have hne:¬ (r.getD k (0,[])).1=j:=fun e=>hn.1 (e ▸ hm)
   have e2:((j,c) :: r).getD (k+1) (0,[])=r.getD k (0,[]):=by simp [List.getD]
   rw [e2,List.lookup_cons]
   simp only [show((r.getD k (0,[])).1 == j)=false from by simpa using hne]
   exact this
theorem Zr(m:List (Nat×List Int))(i:Nat)(b:List Int)(j:Nat):(qa m i b).lookup j=if j=i then some b else m.lookup j:=by
 induction m with
 | nil =>
  simp only [qa,List.lookup_cons,List.lookup_nil]
  by_cases h:j=i
  ·simp [h]
  ·have h':(j == i)=false:=by simpa using h
   simp [h,h']
 | cons p r ih =>
  obtain⟨k,c⟩:=p
  unfold qa
  by_cases hki:k=i
  ·subst hki
   simp only [if_true,List.lookup_cons]
   by_cases h:j=k
   ·simp [h]
   ·have h':(j == k)=false:=by simpa using h
    simp [h,h']
  ·simp only [hki,if_false,List.lookup_cons,ih]
   by_cases h:j=k
   ·subst h;simp [hki]
   ·have h':(j == k)=false:=by simpa using h
    simp [h']
theorem zcB(m:List (Nat×List Int))(i:Nat)(b:List Int):(qa m i b).map (·.1)=if i∈m.map (·.1) then m.map (·.1) else m.map (·.1)++[i]:=by
 induction m with
 | nil=>simp [qa]
 | cons p r ih =>
  obtain⟨k,c⟩:=p
  unfold qa
  by_cases hki:k=i
  ·subst hki;simp
  ·simp only [hki,if_false,List.map_cons,ih]
   have:¬ i=k:=fun e=>hki e.symm
   by_cases hm:i∈r.map (·.1)
   ·simp [hm]
   ·simp [hm,this]
theorem zyx{m:List (Nat×List Int)}{i:Nat}{b:List Int}{p:Nat×List Int}(h:p∈qa m i b):p=(i,b)\/p∈m:=by
 induction m with
 | nil=>simp [qa] at h;exact .inl h
 | cons q r ih =>
  obtain⟨k,c⟩:=q
  unfold qa at h
  by_cases hki:k=i
  ·simp [hki] at h
   rcases h with h | h
   ·exact .inl h
   ·exact .inr (by simp [h])
  ·simp [hki] at h
   rcases h with h | h
   ·exact .inr (by simp [h])
   ·rcases ih h with h | h
    ·exact .inl h
    ·exact .inr (by simp [h])
def Qp(secs:List (List Int))(mem:List (Nat×List Int)):Nat->List (List Int)
 | 0=>secs
 | k+1=>(Qp secs mem k).set (mem.getD k (0,[])).1 (mem.getD k (0,[])).2
def zkR(s b:List Int)(cut:Nat):List Int:=b.take cut++s.drop cut
def one(keep:List Bool)(zR:Int)(cut k:Nat)(s b:List Int):List Int :=
 if (k:Int)=zR then zkR s b cut else if keep.getD k false then b else s
def qE(secs:List (List Int))(mem:List (Nat×List Int))(keep:List Bool)(zR:Int)(cut:Nat):Nat->List (List Int)
 | 0=>secs
 | k+1=>(qE secs mem keep zR cut k).set (mem.getD k (0,[])).1 (one keep zR cut k ((qE secs mem keep zR cut k).getD (mem.getD k (0,[])).1 []) (mem.getD k (0,[])).2)
theorem ZW(secs mem k):(Qp secs mem k).length=secs.length:=by
 induction k with
 | zero=>rfl
 | succ k ih=>simp [Qp,ih]
theorem Qx(secs mem keep zR cut k):(qE secs mem keep zR cut k).length=secs.length:=by
 induction k with
 | zero=>rfl
 | succ k ih=>simp [qE,ih]
theorem zdI(l:List (List Int))(i:Nat)(x:List Int)(h:i<l.length):(l.set i x).getD i []=x:=by
 simp [List.getD,h]
theorem getD_set_ne(l:List (List Int)){i j:Nat}(x:List Int)(h:i≠j):(l.set i x).getD j []=l.getD j []:=by
 simp [List.getD,h]
theorem zyJ{m:List (Nat×List Int)}{k:Nat}(hk:k<m.length):(m.getD k (0,[])).1∈m.map (·.1):=by
 have:m.getD k (0,[])=m[k]:=by simp [List.getD,hk]
 rw [this];exact List.mem_map.2 ⟨_,List.getElem_mem hk,rfl⟩
theorem zaD{m:List (Nat×List Int)}{k:Nat}(hk:k<m.length):m.getD k (0,[])∈m:=by
 have:m.getD k (0,[])=m[k]:=by simp [List.getD,hk]
 rw [this];exact List.getElem_mem hk
theorem key_inj{m:List (Nat×List Int)}(hn:(m.map (·.1)).Nodup){j k:Nat}(hj:j<m.length)(hk:k<m.length)(h:(m.getD j (0,[])).1=(m.getD k (0,[])).1):j=k:=by
 have e1:(m.getD j (0,[])).1=(m.map (·.1))[j]'(by simpa using hj):=by simp [List.getD,hj]
 have e2:(m.getD k (0,[])).1=(m.map (·.1))[k]'(by simpa using hk):=by simp [List.getD,hk]
 rw [e1,e2] at h
 exact(List.getElem_inj hn).1 h
theorem zci(secs mem keep zR cut)(i:Nat):∀ k,(∀ j,j<k->(mem.getD j (0,[])).1≠i)->(qE secs mem keep zR cut k).getD i []=secs.getD i []
 | 0,_=>rfl
 | k+1,h=>by
  unfold qE
  rw [getD_set_ne _ _ (h k (Nat.lt_succ_self k))]
  exact zci secs mem keep zR cut i k (fun j hj=>h j (by omega))
theorem zkw{secs mem}(keep zR cut)(hn:(mem.map (·.1)).Nodup)(hl:∀ p∈mem,p.1<secs.length){k:Nat}(hk:k<mem.length):∀ n,k<n->n<=mem.length ->
  (qE secs mem keep zR cut n).getD (mem.getD k (0,[])).1 []=one keep zR cut k (secs.getD (mem.getD k (0,[])).1 []) (mem.getD k (0,[])).2
 | 0,h,_=>by omega
 | n+1,h,hn'=>by
  unfold qE
  by_cases e:k=n
  ·subst e
   rw [zdI _ _ _ (by rw [Qx];exact hl _ (zaD hk))]
   rw [zci secs mem keep zR cut _ k (fun j hj e2=>by have:=key_inj hn (by omega) hk e2;omega)]
  ·rw [getD_set_ne _ _ (fun e2=>e (key_inj hn hk (by omega) e2.symm))]
   exact zkw keep zR cut hn hl hk n (by omega) (by omega)
theorem zeD(secs mem)(i:Nat):∀ k,(∀ j,j<k->(mem.getD j (0,[])).1≠i)->(Qp secs mem k).getD i []=secs.getD i []
 | 0,_=>rfl
 | k+1,h=>by
  unfold Qp
  rw [getD_set_ne _ _ (h k (Nat.lt_succ_self k))]
  exact zeD secs mem i k (fun j hj=>h j (by omega))
theorem zko{secs mem}(hn:(mem.map (·.1)).Nodup)(hl:∀ p∈mem,p.1<secs.length){k:Nat}(hk:k<mem.length):∀ n,k<n->n<=mem.length ->
  (Qp secs mem n).getD (mem.getD k (0,[])).1 []=(mem.getD k (0,[])).2
 | 0,h,_=>by omega
 | n+1,h,hn'=>by
  unfold Qp
  by_cases e:k=n
  ·subst e
   rw [zdI _ _ _ (by rw [ZW];exact hl _ (zaD hk))]
  ·rw [getD_set_ne _ _ (fun e2=>e (key_inj hn hk (by omega) e2.symm))]
   exact zko hn hl hk n (by omega) (by omega)
theorem zee{l:List (List Int)}{i:Nat}{x s:List Int}(h:s∈l.set i x):s∈l\/s=x:=List.mem_or_eq_of_mem_set h
theorem zU{l:List (List Int)}(h:∀ s∈l,Sec s){i:Nat}(hi:i<l.length):Sec (l.getD i []):=by
 have:l.getD i []=l[i]:=by simp [List.getD,hi]
 rw [this];exact h _ (List.getElem_mem hi)
theorem zmL{s b:List Int}(hs:Sec s)(hb:Sec b)(cut:Nat):Sec (zkR s b cut):=by
 refine⟨by simp [zkR,hs.1,hb.1];omega,fun z hz=>?_⟩
 rcases List.mem_append.1 hz with h | h
 ·exact hb.2 z (List.mem_of_mem_take h)
 ·exact hs.2 z (List.mem_of_mem_drop h)
theorem zxN{s b:List Int}(hs:Sec s)(hb:Sec b)(keep zR cut k):Sec (one keep zR cut k s b):=by
 unfold one
 split
 ·exact zmL hs hb cut
 ·split
  ·exact hb
  ·exact hs
theorem zgU{secs mem}(hs:∀ s∈secs,Sec s)(hm:∀ p∈mem,p.1<secs.length/\Sec p.2):∀ k,k<=mem.length->∀ s∈Qp secs mem k,Sec s
 | 0,_=>hs
 | k+1,h=>fun s h'=>by
  rcases zee h' with h1 | h1
  ·exact zgU hs hm k (by omega) s h1
  ·rw [h1];exact(hm _ (zaD (by omega))).2
theorem zd8{secs mem}(hs:∀ s∈secs,Sec s)(hm:∀ p∈mem,p.1<secs.length/\Sec p.2)(keep zR cut):∀ k,k<=mem.length->∀ s∈qE secs mem keep zR cut k,Sec s
 | 0,_=>hs
 | k+1,h=>fun s h'=>by
  rcases zee h' with h1 | h1
  ·exact zd8 hs hm keep zR cut k (by omega) s h1
  ·rw [h1]
   refine zxN (zU (zd8 hs hm keep zR cut k (by omega)) ?_) (hm _ (zaD (by omega))).2 _ _ _ _
   rw [Qx];exact(hm _ (zaD (by omega))).1
def DS.new(n:Nat):DS:=⟨List.replicate n (List.replicate 32 0),[],-1,false⟩
def DS.put(D:DS)(i:Nat)(b:List Int):DS:={ D with mem:=qa D.mem i b }
def DS.step(D:DS):DS:=if D.left=0 then { D with down:=true } else if 0<D.left then { D with left:=D.left-1 } else D
def DS.flush(D:DS):DS:={ D with secs:=Qp D.secs D.mem D.mem.length,mem:=[]}
def DS.crash(D:DS)(keep:List Bool)(zR:Int)(cut:Nat):DS:=⟨qE D.secs D.mem keep zR cut D.mem.length,[],-1,false⟩
def DS.readE(D:DS)(i:Int):Int:=if i<0\/(D.secs.length:Int)<=i then 1 else if D.down then 9 else 0
def DS.writeE(D:DS)(i:Int)(b:List Int):Int:=if i<0\/(D.secs.length:Int)<=i then 1 else if b.length≠32 then 3 else if D.down then 9 else if D.left=0 then 9 else 0
def DS.write(D:DS)(i:Int)(b:List Int):DS:=if i<0\/(D.secs.length:Int)<=i\/b.length≠32\/D.down=true then D else (D.put i.toNat b).step
def DS.flushE(D:DS):Int:=if D.down then 9 else if D.left=0 then 9 else 0
def DS.doFlush(D:DS):DS:=if D.down then D else if D.left=0 then { D with down:=true } else D.step.flush
theorem DS.ok_new(n:Nat)(h:n<=300):(DS.new n).Ok where
 len:=by simp [DS.new];exact h
 sec:=fun s hs=>by
  have:s=List.replicate 32 0:=List.eq_of_mem_replicate hs
  subst this
  exact⟨by simp,fun z hz=>by rw [List.eq_of_mem_replicate hz];omega⟩
 mem:=fun p hp=>by simp [DS.new] at hp
 apart:=by simp [DS.new]
 left:=by simp [DS.new]
theorem DS.Ok.put{D:DS}(h:D.Ok){i:Nat}{b:List Int}(hi:i<D.secs.length)(hb:Sec b):(D.put i b).Ok where
 len:=h.len
 sec:=h.sec
 mem:=fun p hp=>by
  rcases zyx hp with rfl | h1
  ·exact⟨hi,hb⟩
  ·exact h.mem p h1
 apart:=by
  show((qa D.mem i b).map (·.1)).Nodup
  rw [zcB]
  split
  ·exact h.apart
  ·rename_i hn
   rw [List.nodup_append]
   refine⟨h.apart,by simp,fun a ha c hc e=>?_⟩
   simp at hc;subst hc;subst e;exact hn ha
 left:=h.left
theorem DS.Ok.step{D:DS}(h:D.Ok):D.step.Ok:=by
 unfold DS.step
 split
 ·exact⟨h.len,h.sec,h.mem,h.apart,h.left⟩
 ·split
  ·refine⟨h.len,h.sec,h.mem,h.apart,?_⟩
   have:=h.left
   show -9223372036854775808<=D.left-1/\D.left-1<=9223372036854775807
   omega
  ·exact h
theorem DS.Ok.flush{D:DS}(h:D.Ok):D.flush.Ok where
 len:=by show(Qp D.secs D.mem D.mem.length).length<=300;rw [ZW];exact h.len
 sec:=zgU h.sec h.mem _ (Nat.le_refl _)
 mem:=fun p hp=>by simp [DS.flush] at hp
 apart:=by simp [DS.flush]
 left:=h.left
theorem DS.Ok.crash{D:DS}(h:D.Ok)(keep zR cut):(D.crash keep zR cut).Ok where
 len:=by show(qE D.secs D.mem keep zR cut D.mem.length).length<=300;rw [Qx];exact h.len
 sec:=zd8 h.sec h.mem _ _ _ _ (Nat.le_refl _)
 mem:=fun p hp=>by simp [DS.crash] at hp
 apart:=by simp [DS.crash]
 left:=by simp [DS.crash]
theorem DS.Ok.write{D:DS}(h:D.Ok){i:Int}{b:List Int}(hb:Byt b):(D.write i b).Ok:=by
 unfold DS.write
 split
 ·exact h
 ·rename_i hn
  have h1:0<=i/\i<D.secs.length/\b.length=32:=by
   refine⟨?_,?_,?_⟩
   ·rcases Int.lt_or_le i 0 with h1 | h1
    ·exact absurd (.inl h1) hn
    ·exact h1
   ·rcases Int.lt_or_le i D.secs.length with h1 | h1
    ·exact h1
    ·exact absurd (.inr (.inl h1)) hn
   ·rcases Nat.decEq b.length 32 with h1 | h1
    ·exact absurd (.inr (.inr (.inl h1))) hn
    ·exact h1
  exact(h.put (by omega) ⟨h1.2.2,hb⟩).step
theorem DS.Ok.fail{D:DS}(h:D.Ok){n:Int}(hn:-9223372036854775808<=n/\n<=9223372036854775807):DS.Ok { D with left:=n }:=⟨h.len,h.sec,h.mem,h.apart,hn⟩
theorem DS.Ok.doFlush{D:DS}(h:D.Ok):D.doFlush.Ok:=by
 unfold DS.doFlush
 split
 ·exact h
 ·split
  ·exact⟨h.len,h.sec,h.mem,h.apart,h.left⟩
  ·exact h.step.flush
theorem DS.Ok.rd{D:DS}(h:D.Ok){i:Nat}(hi:i<D.secs.length):Sec (D.rd i):=by
 unfold DS.rd
 cases e:D.mem.lookup i with
 | none=>exact zU h.sec hi
 | some b=>exact(h.mem _ (Qw e)).2
theorem DS.Ok.mem_len{D:DS}(h:D.Ok):D.mem.length<=300:=by
 have h1:(D.mem.map (·.1)).length<=D.secs.length:=by
  have:=List.Nodup.length_le_of_subset h.apart (l₂:=List.range D.secs.length) (fun x hx=>by
   obtain⟨p,hp,rfl⟩:=List.mem_map.1 hx
   exact List.mem_range.2 (h.mem p hp).1)
  simpa using this
 have:=h.len
 simp at h1;omega
end Go.Proofs.YtchmlnmhbfaclaaGreatDoor
namespace Go.Proofs.YtchmlnmhbfaclaaGreatDoor
open Go.RowKit
set_option linter.unusedVariables false
def Qq(x:DS×Int)(i:Int)(b:List Int):DS×Int:=if x.2=0 then (x.1.write i b,x.1.writeE i b) else x
def Qr(x:DS×Int):DS×Int:=if x.2=0 then (x.1.doFlush,x.1.flushE) else x
def wsF(x:DS×Int)(f:Nat->Int×List Int):Nat->DS×Int
 | 0=>x
 | k+1=>Qq (wsF x f k) (f k).1 (f k).2
theorem zfn(D:DS):D.step.secs=D.secs:=by
 unfold DS.step
 split
 ·rfl
 ·split <;> rfl
theorem zeP(D:DS):D.step.mem=D.mem:=by
 unfold DS.step
 split
 ·rfl
 ·split <;> rfl
theorem QN(D:DS)(i:Int)(b:List Int):(D.write i b).secs=D.secs:=by
 unfold DS.write
 split
 ·rfl
 ·rw [zfn];rfl
theorem zbS(D:DS)(i:Int)(b:List Int)(k:Nat)(h:(k:Int)≠i):(D.write i b).mem.lookup k=D.mem.lookup k:=by
 unfold DS.write
 split
 ·rfl
 ·rename_i hn
  rw [zeP]
  show(qa D.mem i.toNat b).lookup k=_
  rw [Zr,if_neg (fun e=>h (by omega))]
theorem ziY{D:DS}{i:Int}{b:List Int}(h1:0<=i)(h2:i<D.secs.length)(h3:b.length=32):(D.writeE i b=0/\D.down=false/\D.left≠0)\/(D.writeE i b=9):=by
 unfold DS.writeE
 rw [if_neg (by omega),if_neg (by omega)]
 by_cases hd:D.down=true
 ·rw [if_pos hd];exact .inr rfl
 ·rw [if_neg hd]
  by_cases hl:D.left=0
  ·rw [if_pos hl];exact .inr rfl
  ·rw [if_neg hl];exact .inl ⟨rfl,by simpa using hd,hl⟩
theorem QG{D:DS}{i:Int}{b:List Int}(h:D.writeE i b=0):0<=i/\i<D.secs.length/\b.length=32/\D.down=false/\D.left≠0:=by
 unfold DS.writeE at h
 by_cases h1:i<0\/(D.secs.length:Int)<=i
 ·rw [if_pos h1] at h;cases h
 ·rw [if_neg h1] at h
  by_cases h2:b.length≠32
  ·rw [if_pos h2] at h;cases h
  ·rw [if_neg h2] at h
   by_cases hd:D.down=true
   ·rw [if_pos hd] at h;cases h
   ·rw [if_neg hd] at h
    by_cases hl:D.left=0
    ·rw [if_pos hl] at h;cases h
    ·exact⟨by omega,by omega,by omega,by simpa using hd,hl⟩
theorem zbi{D:DS}{i:Int}{b:List Int}(h:D.writeE i b=0):D.write i b=(D.put i.toNat b).step:=by
 obtain⟨h1,h2,h3,h4,_⟩:=QG h
 unfold DS.write
 rw [if_neg]
 rintro (h | h | h | h)
 ·omega
 ·omega
 ·exact h h3
 ·rw [h4] at h;cases h
theorem zdZ{D:DS}{i:Int}{b:List Int}(h:D.writeE i b=0):(D.write i b).mem.lookup i.toNat=some b:=by
 rw [zbi h,zeP]
 show(qa D.mem i.toNat b).lookup i.toNat=_
 rw [Zr,if_pos rfl]
theorem zd0{D:DS}{i:Int}{b:List Int}(h:D.writeE i b=0):(D.write i b).down=false:=by
 obtain⟨h1,h2,h3,h4,h5⟩:=QG h
 rw [zbi h]
 unfold DS.step
 rw [if_neg (show ¬ (D.put i.toNat b).left=0 from h5)]
 split <;> exact h4
theorem zbv{D:DS}{i:Int}{b:List Int}(h:D.writeE i b=0)(k:Nat):(D.write i b).rd k=if (k:Int)=i then b else D.rd k:=by
 obtain⟨h1,_⟩:=QG h
 unfold DS.rd
 by_cases hk:(k:Int)=i
 ·rw [if_pos hk]
  have:k=i.toNat:=by omega
  rw [this,zdZ h];rfl
 ·rw [if_neg hk,zbS D i b k hk,QN]
theorem zaH(D:DS):(D.flushE=0/\D.down=false/\D.left≠0)\/D.flushE=9:=by
 unfold DS.flushE
 by_cases hd:D.down=true
 ·rw [if_pos hd];exact .inr rfl
 ·rw [if_neg hd]
  by_cases hl:D.left=0
  ·rw [if_pos hl];exact .inr rfl
  ·rw [if_neg hl];exact .inl ⟨rfl,by simpa using hd,hl⟩
theorem zdM{D:DS}(h:D.flushE=0):D.doFlush=D.step.flush/\D.step.down=false:=by
 rcases zaH D with ⟨_,h1,h2⟩ | h1
 ·unfold DS.doFlush
  rw [if_neg (by rw [h1];exact Bool.false_ne_true),if_neg h2]
  refine⟨rfl,?_⟩
  unfold DS.step
  rw [if_neg h2]
  split <;> exact h1
 ·rw [h1] at h;cases h
theorem Qd{D:DS}(h:D.flushE=9):D.doFlush.secs=D.secs/\D.doFlush.mem=D.mem:=by
 unfold DS.doFlush
 by_cases hd:D.down=true
 ·rw [if_pos hd];exact⟨rfl,rfl⟩
 ·rw [if_neg hd]
  by_cases hl:D.left=0
  ·rw [if_pos hl];exact⟨rfl,rfl⟩
  ·exfalso
   unfold DS.flushE at h
   rw [if_neg hd,if_neg hl] at h
   cases h
theorem zev{m:List (Nat×List Int)}{k:Nat}{b:List Int}(h:m.lookup k=some b):∃ q,q<m.length/\m.getD q (0,[])=(k,b):=by
 obtain⟨q,hq,e⟩:=List.getElem_of_mem (Qw h)
 exact⟨q,hq,by simp [List.getD,hq,e]⟩
theorem zg2{m:List (Nat×List Int)}{k:Nat}(h:m.lookup k=none):∀ j,j<m.length->(m.getD j (0,[])).1≠k:=fun j hj e=>QI.1 h (e ▸ zyJ hj)
theorem zpg{D:DS}(h:D.Ok)(k:Nat):D.flush.secs.getD k []=D.rd k:=by
 show(Qp D.secs D.mem D.mem.length).getD k []=_
 unfold DS.rd
 cases e:D.mem.lookup k with
 | none=>exact zeD _ _ k _ (zg2 e)
 | some b =>
  obtain⟨q,hq,e2⟩:=zev e
  have:=zko h.apart (fun p hp=>(h.mem p hp).1) hq D.mem.length hq (Nat.le_refl _)
  rw [e2] at this
  exact this
theorem zxB(D:DS)(k:Nat):D.step.rd k=D.rd k:=by unfold DS.rd;rw [zeP,zfn]
theorem zN{D:DS}(h:D.Ok)(he:D.flushE=0)(k:Nat):D.doFlush.secs.getD k []=D.rd k/\D.doFlush.mem=[]/\D.doFlush.down=false:=by
 obtain⟨h1,h2⟩:=zdM he
 rw [h1]
 exact⟨by rw [zpg h.step,zxB],rfl,h2⟩
theorem zl6(D:DS):D.doFlush.secs.length=D.secs.length:=by
 unfold DS.doFlush
 split
 ·rfl
 ·split
  ·rfl
  ·show(Qp D.step.secs D.step.mem D.step.mem.length).length=_
   rw [ZW,zfn]
def zxh(D:DS)(k:Nat)(v:List Int):Prop:=v=D.secs.getD k []\/∃ b,D.mem.lookup k=some b/\(v=b\/∃ c,c<=32/\v=zbP b (D.secs.getD k []) c)
theorem zcH{D:DS}(h:D.Ok)(keep:List Bool)(zR:Int)(c:Nat)(hc:c<=32)(k:Nat):zxh D k ((D.crash keep zR c).secs.getD k []):=by
 show zxh D k ((qE D.secs D.mem keep zR c D.mem.length).getD k [])
 cases e:D.mem.lookup k with
 | none=>exact .inl (zci _ _ _ _ _ k _ (zg2 e))
 | some b =>
  obtain⟨q,hq,e2⟩:=zev e
  have:=zkw keep zR c h.apart (fun p hp=>(h.mem p hp).1) hq D.mem.length hq (Nat.le_refl _)
  rw [e2] at this
  rw [this]
  unfold one
  split
  ·exact .inr ⟨b,e,.inr ⟨c,hc,rfl⟩⟩
  ·split
   ·exact .inr ⟨b,e,.inl rfl⟩
   ·exact .inl rfl
def Only(W:Nat->Prop)(D:DS)(C:Nat->List Int):Prop:=∀ k,¬ W k->D.mem.lookup k=none/\D.secs.getD k []=C k
theorem Only.poss{W:Nat->Prop}{D:DS}{C:Nat->List Int}(h:Only W D C){k:Nat}(hk:¬ W k){v:List Int}(hp:zxh D k v):v=C k:=by
 obtain⟨h1,h2⟩:=h k hk
 rcases hp with hp | ⟨b,hb,_⟩
 ·rw [hp,h2]
 ·rw [h1] at hb;cases hb
theorem Only.write{W:Nat->Prop}{D:DS}{C:Nat->List Int}(h:Only W D C)(i:Int)(b:List Int)(hi:∀ k:Nat,(k:Int)=i->W k):Only W (D.write i b) C:=fun k hk=>by
 rw [zbS D i b k (fun e=>hk (hi k e)),QN]
 exact h k hk
theorem Only.rd{W:Nat->Prop}{D:DS}{C:Nat->List Int}(h:Only W D C){k:Nat}(hk:¬ W k):D.rd k=C k:=by
 unfold DS.rd
 rw [(h k hk).1,(h k hk).2];rfl
theorem Only.flush{W:Nat->Prop}{D:DS}{C:Nat->List Int}(h:Only W D C)(ho:D.Ok):Only W D.doFlush C:=fun k hk=>by
 rcases zaH D with ⟨he,_⟩ | he
 ·obtain⟨h1,h2,_⟩:=zN ho he k
  rw [h1,h2]
  exact⟨rfl,h.rd hk⟩
 ·rw [(Qd he).1,(Qd he).2]
  exact h k hk
structure Run (W:Nat->Prop) (C:Nat->List Int) (n:Nat) (x:DS×Int):Prop where
 ok:x.1.Ok
 only:Only W x.1 C
 len:x.1.secs.length=n
 err:(x.2=0/\x.1.down=false)\/x.2=9
theorem Run.w{W:Nat->Prop}{C:Nat->List Int}{n:Nat}{x:DS×Int}(h:Run W C n x){i:Int}{b:List Int}(h1:0<=i)(h2:i<n)(hb:Sec b)(hi:W i.toNat):Run W C n (Qq x i b):=by
 unfold Qq
 split
 ·rename_i hx
  refine⟨h.ok.write hb.2,h.only.write i b (fun k hk=>by rw [show k=i.toNat by omega];exact hi),by show(x.1.write i b).secs.length=n;rw [QN];exact h.len,?_⟩
  rcases ziY (D:=x.1) h1 (by rw [h.len];exact h2) hb.1 with ⟨he,_⟩ | he
  ·exact .inl ⟨he,zd0 he⟩
  ·exact .inr he
 ·exact h
theorem Run.f{W:Nat->Prop}{C:Nat->List Int}{n:Nat}{x:DS×Int}(h:Run W C n x):Run W C n (Qr x):=by
 unfold Qr
 split
 ·rename_i hx
  refine⟨h.ok.doFlush,h.only.flush h.ok,by show x.1.doFlush.secs.length=n;rw [zl6];exact h.len,?_⟩
  rcases zaH x.1 with ⟨he,_⟩ | he
  ·exact .inl ⟨he,(zN h.ok he 0).2.2⟩
  ·exact .inr he
 ·exact h
theorem Run.ws{W:Nat->Prop}{C:Nat->List Int}{n:Nat}{x:DS×Int}(h:Run W C n x){f:Nat->Int×List Int}:∀ m,(∀ j,j<m->0<=(f j).1/\(f j).1<n/\Sec (f j).2/\W (f j).1.toNat)->Run W C n (wsF x f m)
 | 0,_=>h
 | m+1,hf=>(Run.ws h m (fun j hj=>hf j (by omega))).w (hf m (by omega)).1 (hf m (by omega)).2.1 (hf m (by omega)).2.2.1 (hf m (by omega)).2.2.2
theorem QE{x:DS×Int}{i:Int}{b:List Int}(h:(Qq x i b).2=0):x.2=0/\x.1.writeE i b=0/\(Qq x i b).1=x.1.write i b:=by
 unfold Qq at *
 split at h
 ·rename_i hx
  rw [if_pos hx]
  exact⟨hx,h,rfl⟩
 ·rename_i hx
  exact absurd h hx
theorem qq{x:DS×Int}(h:(Qr x).2=0):x.2=0/\x.1.flushE=0/\(Qr x).1=x.1.doFlush:=by
 unfold Qr at *
 split at h
 ·rename_i hx
  rw [if_pos hx]
  exact⟨hx,h,rfl⟩
 ·rename_i hx
  exact absurd h hx
theorem zfd{x:DS×Int}{f:Nat->Int×List Int}:∀ m,(wsF x f m).2=0->(∀ i j,i<m->j<m->(f i).1=(f j).1->(f i).2=(f j).2) ->
  x.2=0/\(∀ j,j<m->(wsF x f m).1.rd (f j).1.toNat=(f j).2)/\∀ k:Nat,(∀ j,j<m->(f j).1≠k)->(wsF x f m).1.rd k=x.1.rd k
 | 0,h,_=>⟨h,fun j hj=>by omega,fun k _=>rfl⟩
 | m+1,h,hinj=>by
  obtain⟨h1,h2,h3⟩:=QE (show(Qq (wsF x f m) (f m).1 (f m).2).2=0 from h)
  obtain⟨g1,g2,g3⟩:=zfd m h1 (fun i j hi hj=>hinj i j (by omega) (by omega))
  have hpos:=(QG h2).1
  refine⟨g1,fun j hj=>?_,fun k hk=>?_⟩
  ·show(Qq (wsF x f m) (f m).1 (f m).2).1.rd _=_
   rw [h3,zbv h2]
   by_cases e:j=m
   ·subst e
    rw [if_pos (by omega)]
   ·have hj':j<m:=by omega
    by_cases hz:0<=(f j).1
    ·by_cases e2:(f j).1=(f m).1
     ·rw [if_pos (by omega)]
      exact(hinj j m (by omega) (by omega) e2).symm
     ·rw [if_neg (by omega),g2 j hj']
    ·exfalso
     have:∀ q,j<q->(wsF x f q).2=0->0<=(f j).1:=by
      intro q
      induction q with
      | zero=>intro h;omega
      | succ q ih =>
       intro hq hq0
       obtain⟨a1,a2,_⟩:=QE (show(Qq (wsF x f q) (f q).1 (f q).2).2=0 from hq0)
       by_cases e3:j=q
       ·subst e3;exact(QG a2).1
       ·exact ih (by omega) a1
     exact hz (this m hj' h1)
  ·show(Qq (wsF x f m) (f m).1 (f m).2).1.rd _=_
   rw [h3,zbv h2,if_neg (fun e=>hk m (by omega) e.symm),g3 k (fun j hj=>hk j (by omega))]
def numsOf(body:List Int):List Int:=(body.drop 1).take (body.getD 0 0).toNat
def mark(L:Nat)(b:List Int):Option (Int×List Int) :=
 if (zV b).2.2=0/\(zV b).2.1.getD 0 0<=23/\(∀ z∈numsOf (zV b).2.1,z<L) then some ((zV b).1,numsOf (zV b).2.1) else none
def pick(x:Int×Nat×List Int)(i:Nat)(m:Option (Int×List Int)):Int×Nat×List Int :=
 match m with
 | some (s,l)=>if x.1<s then (s,i,l) else x
 | none=>x
def best(L:Nat)(a b:List Int):Int×Nat×List Int:=pick (pick (0,0,[]) 0 (mark L a)) 1 (mark L b)
theorem ztm{L:Nat}{a:Nat}(ha:a=0\/a=1){v:Nat->List Int}{s:Int}{l:List Int}(hm:mark L (v a)=some (s,l))(ho:∀ t l',mark L (v (1-a))=some (t,l')->t<s)(hs:0<s):best L (v 0) (v 1)=(s,a,l):=by
 unfold best
 rcases ha with rfl | rfl
 ·rw [hm]
  have e:pick (0,0,[]) 0 (some (s,l))=(s,0,l):=by
   show(if (0:Int)<s then (s,0,l) else (0,0,[]))=_
   rw [if_pos hs]
  rw [e]
  cases h1:mark L (v 1) with
  | none=>rfl
  | some q =>
   obtain⟨t,l'⟩:=q
   have:=ho t l' h1
   show(if s<t then (t,1,l') else (s,0,l))=_
   rw [if_neg (by omega)]
 ·rw [hm]
  cases h0:mark L (v 0) with
  | none =>
   show(if (0:Int)<s then (s,1,l) else (0,0,[]))=_
   rw [if_pos hs]
  | some q =>
   obtain⟨t,l'⟩:=q
   have:=ho t l' h0
   have e:(pick (0,0,[]) 0 (some (t,l'))).1<s:=by
    show(if (0:Int)<t then (t,0,l') else (0,0,[])).1<s
    split
    ·exact this
    ·exact hs
   show(if (pick (0,0,[]) 0 (some (t,l'))).1<s then (s,1,l) else pick (0,0,[]) 0 (some (t,l')))=_
   rw [if_pos e]
theorem qg{L:Nat}{b:List Int}{s:Int}{l:List Int}(hb:Byt b)(h:mark L b=some (s,l)):0<s/\l.length<=23/\(∀ z∈l,0<=z/\z<L)/\b.take 4=b.drop 28/\numOf (b.take 4)=s/\b.length=32:=by
 unfold mark at h
 split at h
 ·rename_i hc
  obtain⟨h1,h2,h3⟩:=hc
  simp only [Option.some.injEq,Prod.mk.injEq] at h
  obtain⟨hs,hl⟩:=h
  have hlen:b.length=32:=by
   by_cases e:b.length≠32
   ·unfold zV at h1;rw [if_pos e] at h1;cases h1
   ·omega
  have he:Qj b 0 4=Qj b 28 4:=by
   by_cases e:Qj b 0 4≠Qj b 28 4
   ·unfold zV at h1;rw [if_neg (by omega),if_pos e] at h1;cases h1
   ·omega
  have h0:¬ Qj b 0 4=0:=by
   intro e
   unfold zV at h1;rw [if_neg (by omega),if_neg (by omega),if_pos e] at h1;cases h1
  have ho:zV b=(Qj b 0 4,(b.drop 4).take 24,0):=by unfold zV;rw [if_neg (by omega),if_neg (by omega),if_neg h0]
  rw [ho] at hs hl h2 h3
  dsimp only at hs hl h2 h3
  have hbd:=zsu b hb 0 4 (by omega)
  refine⟨by omega,?_,?_,?_,by rw [<- zcE];exact hs,hlen⟩
  ·rw [<- hl];unfold numsOf;simp;omega
  ·intro z hz
   rw [<- hl] at hz
   refine⟨?_,h3 z hz⟩
   have:z∈b:=List.mem_of_mem_drop (List.mem_of_mem_take (List.mem_of_mem_drop (List.mem_of_mem_take hz)))
   exact(hb z this).1
  ·rw [zcE,zf2 b hlen] at he
   exact zfJ (by simp;omega) (fun z hz=>hb z (List.mem_of_mem_take hz)) (fun z hz=>hb z (List.mem_of_mem_drop hz)) he
 ·cases h
def Rec(L:Nat)(v:Nat->List Int)(s:Int)(P:Nat->List Int):Prop :=
 ∃ a l,(a=0\/a=1)/\mark L (v a)=some (s,l)/\(∀ t l',mark L (v (1-a))=some (t,l')->t<s)/\0<s/\(∀ k,k<l.length->v (2+23 * a+k)=P (l.getD k 0).toNat)/\∀ i,i<L->(i:Int) ∉ l->v (48+i)=P i
structure Neat (D:DS) (L:Nat) (s:Int) (P:Nat->List Int) (a:Nat) (l:List Int):Prop where
 ok:D.Ok
 mem:D.mem=[]
 down:D.down=false
 len:48+L<=D.secs.length
 lt:L<=200
 two:a=0\/a=1
 even:s % 2=(a:Int)
 s1:1<=s
 s2:s<=1000
 got:mark L (D.secs.getD a [])=some (s,l)
 redo:∀ k,k<l.length->D.secs.getD (2+23 * a+k) []=P (l.getD k 0).toNat
 pages:∀ i,i<L->D.secs.getD (48+i) []=P i
 other:(D.secs.getD (1-a) []).take 4=(D.secs.getD (1-a) []).drop 28
 differs:(D.secs.getD (1-a) []).take 4≠side (s+1)
 less:∀ t l',mark L (D.secs.getD (1-a) [])=some (t,l')->t<s
def ZM(L:Int)(l:List (Int×List Int))(k:Nat):Int :=
 if (l.getD k (0,[])).1<0\/L<=(l.getD k (0,[])).1 then 1 else if (l.getD k (0,[])).2.length≠32 then 3 else if (List.range k).any (fun j=>(l.getD j (0,[])).1 == (l.getD k (0,[])).1) then 7 else 0
def zeL(L:Int)(l:List (Int×List Int)):Nat->Int
 | 0=>0
 | k+1=>if zeL L l k=0 then ZM L l k else zeL L l k
def zZ(L:Int)(l:List (Int×List Int)):Int:=if 23<l.length then 4 else zeL L l l.length
structure zbg (L:Nat) (l:List (Int×List Int)):Prop where
 len:l.length<=23
 num:∀ k,k<l.length->0<=(l.getD k (0,[])).1/\(l.getD k (0,[])).1<L
 body:∀ k,k<l.length->(l.getD k (0,[])).2.length=32
 apart:∀ j k,j<k->k<l.length->(l.getD j (0,[])).1≠(l.getD k (0,[])).1
theorem zkD{L:Nat}{l:List (Int×List Int)}:∀ n,zeL L l n=0->∀ k,k<n->ZM L l k=0
 | 0,_,k,hk=>by omega
 | n+1,h,k,hk=>by
  unfold zeL at h
  by_cases h0:zeL L l n=0
  ·rw [if_pos h0] at h
   by_cases e:k=n
   ·subst e;exact h
   ·exact zkD n h0 k (by omega)
  ·rw [if_neg h0] at h
   exact absurd h h0
theorem zbk{L:Nat}{l:List (Int×List Int)}(h:zZ L l=0):zbg L l:=by
 unfold zZ at h
 by_cases h1:23<l.length
 ·rw [if_pos h1] at h;cases h
 ·rw [if_neg h1] at h
  have hp:=zkD l.length h
  have hall:∀ k,k<l.length->(0<=(l.getD k (0,[])).1/\(l.getD k (0,[])).1<L)/\(l.getD k (0,[])).2.length=32/\∀ j,j<k->(l.getD j (0,[])).1≠(l.getD k (0,[])).1:=by
   intro k hk
   have:=hp k hk
   unfold ZM at this
   by_cases c1:(l.getD k (0,[])).1<0\/(L:Int)<=(l.getD k (0,[])).1
   ·rw [if_pos c1] at this;cases this
   ·rw [if_neg c1] at this
    by_cases c2:(l.getD k (0,[])).2.length≠32
    ·rw [if_pos c2] at this;cases this
    ·rw [if_neg c2] at this
     by_cases c3:(List.range k).any (fun j=>(l.getD j (0,[])).1 == (l.getD k (0,[])).1)=true
     ·rw [if_pos c3] at this;cases this
     ·refine⟨by omega,by omega,fun j hj e=>c3 ?_⟩
      rw [List.any_eq_true]
      exact⟨j,List.mem_range.2 hj,by simpa using e⟩
  exact⟨by omega,fun k hk=>(hall k hk).1,fun k hk=>(hall k hk).2.1,fun j k hj hk=>(hall k hk).2.2 j hj⟩
def qm(l:List (Int×List Int)):List Int:=(l.length:Int) :: l.map (·.1)
def zE(D:DS)(a:Int)(l:List (Int×List Int)):DS×Int:=Qr (wsF (D,0) (fun i=>(2+23 * a+i,(l.getD i (0,[])).2)) l.length)
def zA(x:DS×Int)(a s:Int)(l:List (Int×List Int)):DS×Int :=
 Qr (if x.2=0 then (if (qO s (qm l)).2=0 then Qq x a (qO s (qm l)).1 else (x.1,(qO s (qm l)).2)) else x)
def QM(x:DS×Int)(l:List (Int×List Int)):DS×Int:=Qr (wsF x (fun i=>(48+(l.getD i (0,[])).1,(l.getD i (0,[])).2)) l.length)
def zi(D:DS)(s:Int)(l:List (Int×List Int)):DS×Int:=QM (zA (zE D ((s+1) % 2) l) ((s+1) % 2) (s+1) l) l
def upd(P:Nat->List Int)(l:List (Int×List Int))(i:Nat):List Int :=
 match l.find? (fun q=>q.1 == (i:Int)) with
 | some q=>q.2
 | none=>P i
theorem zaW{P:Nat->List Int}{l:List (Int×List Int)}{i:Nat}(h:(i:Int) ∉ l.map (·.1)):upd P l i=P i:=by
 unfold upd
 cases e:l.find? (fun q=>q.1 == (i:Int)) with
 | none=>rfl
 | some q =>
  exfalso
  have h1:=List.find?_some e
  have h2:=List.mem_of_find?_eq_some e
  exact h (List.mem_map.2 ⟨q,h2,by simpa using h1⟩)
theorem zfh{P:Nat->List Int}{l:List (Int×List Int)}{L:Nat}(hv:zbg L l){k:Nat}(hk:k<l.length):upd P l (l.getD k (0,[])).1.toNat=(l.getD k (0,[])).2:=by
 unfold upd
 have h0:=hv.num k hk
 have hq:(((l.getD k (0,[])).1.toNat:Nat):Int)=(l.getD k (0,[])).1:=by omega
 rw [hq]
 cases e:l.find? (fun q=>q.1 == (l.getD k (0,[])).1) with
 | none =>
  exfalso
  have:=List.find?_eq_none.1 e (l.getD k (0,[])) (by simp [List.getD,hk])
  simp at this
 | some q =>
  have h1:q.1=(l.getD k (0,[])).1:=by simpa using List.find?_some e
  obtain⟨j,hj,hje⟩:=List.getElem_of_mem (List.mem_of_find?_eq_some e)
  have hg:l.getD j (0,[])=q:=by simp [List.getD,hj,hje]
  have:j=k:=by
   rcases Nat.lt_trichotomy j k with h | h | h
   ·exact absurd (by rw [hg];exact h1) (hv.apart j k h hk)
   ·exact h
   ·exact absurd (by rw [hg];exact h1.symm) (hv.apart k j h hj)
  subst this
  rw [hg]
theorem QP(l:List (Int×List Int)):(qm l).length=l.length+1:=by simp [qm]
theorem zak{L:Nat}{s:Int}{l:List (Int×List Int)}(hv:zbg L l)(h1:1<=s)(h2:s<=4294967295):qO s (qm l)=(qQ s (qm l),0)/\mark L (qQ s (qm l))=some (s,l.map (·.1)):=by
 have hl:=hv.len
 have hm:=QP l
 refine⟨by unfold qO;rw [if_neg (by omega),if_neg (by omega)],?_⟩
 have ho:=zaE s (qm l) h1 h2 (by omega)
 have hn:numsOf (qm l++zerosB (24-(qm l).length))=l.map (·.1):=by
  unfold numsOf qm
  show List.take (Int.toNat ((l.length:Int))) (l.map (·.1)++zerosB _)=_
  rw [Int.toNat_natCast,List.take_append_of_le_length (by simp),List.take_of_length_le (by simp)]
 unfold mark
 rw [ho]
 dsimp only
 rw [hn,if_pos]
 refine⟨rfl,?_,fun z hz=>?_⟩
 ·show(l.length:Int)<=23
  omega
 ·obtain⟨q,hq,rfl⟩:=List.mem_map.1 hz
  obtain⟨j,hj,hje⟩:=List.getElem_of_mem hq
  have:=hv.num j hj
  have hg:l.getD j (0,[])=q:=by simp [List.getD,hj,hje]
  rw [hg] at this
  exact this.2
theorem zcf(l:List (Int×List Int)){k:Nat}(hk:k<l.length):(l.map (·.1)).getD k 0=(l.getD k (0,[])).1:=by simp [List.getD,hk]
theorem znU{x:DS×Int}{i:Int}{b:List Int}(h:x.2≠0):Qq x i b=x:=by unfold Qq;rw [if_neg h]
theorem zdX{x:DS×Int}(h:x.2≠0):Qr x=x:=by unfold Qr;rw [if_neg h]
theorem zpO{x:DS×Int}{f:Nat->Int×List Int}(h:x.2≠0):∀ m,wsF x f m=x
 | 0=>rfl
 | m+1=>by
  show Qq (wsF x f m) (f m).1 (f m).2=x
  rw [zpO h m,znU h]
theorem zas{x:DS×Int}{l:List (Int×List Int)}(h:x.2≠0):QM x l=x:=by unfold QM;rw [zpO h,zdX h]
theorem zdb{x:DS×Int}{a s:Int}{l:List (Int×List Int)}(h:x.2≠0):zA x a s l=x:=by unfold zA;rw [if_neg h,zdX h]
theorem zb6{D:DS}{i:Int}{b b':List Int}{k:Nat}(h:(D.write i b).mem.lookup k=some b'):D.mem.lookup k=some b'\/b'=b:=by
 by_cases hk:(k:Int)=i
 ·unfold DS.write at h
  split at h
  ·exact .inl h
  ·rw [zeP] at h
   have h':(qa D.mem i.toNat b).lookup k=some b':=h
   rw [Zr] at h'
   split at h'
   ·exact .inr (Option.some.inj h').symm
   ·exact .inl h'
 ·rw [zbS D i b k hk] at h
  exact .inl h
def img(D:DS)(k:Nat):List Int:=D.secs.getD k []
theorem Qh{D:DS}(h:D.mem=[])(W:Nat->Prop):Only W D (img D):=fun k _=>by rw [h];exact⟨rfl,rfl⟩
section
variable {D:DS} {L:Nat} {s:Int} {P:Nat->List Int} {a:Nat} {nl:List Int} {l:List (Int×List Int)}
def reg(a:Nat)(k:Nat):Prop:=2+23 * (1-a)<=k/\k<25+23 * (1-a)
variable {E:DS}
end
def qc(D:DS)(a:Nat)(l:List Int):DS×Int:=Qr (wsF (D,0) (fun i=>(48+l.getD i 0,D.rd (2+23 * a+i))) l.length)
structure Opened (D E:DS) (L:Nat) (P:Nat->List Int):Prop where
  ok:E.Ok
  mem:E.mem=[]
  down:E.down=false
  len:E.secs.length=D.secs.length
  low:∀ k,k<48->img E k=img D k
  pages:∀ i,i<L->img E (48+i)=P i
theorem zaz{D:DS}(h:D.mem=[])(k:Nat):D.rd k=img D k:=by unfold DS.rd img;rw [h];rfl
theorem ZT{l:List Int}{k:Nat}(hk:k<l.length):l.getD k 0∈l:=by
  rw [List.getD_eq_getElem?_getD,List.getElem?_eq_getElem hk];exact List.getElem_mem hk
theorem zm3{D:DS}{L:Nat}{s:Int}{P:Nat->List Int}(hok:D.Ok)(hm:D.mem=[])(hd:D.down=false)(hlen:48+L<=D.secs.length)(hr:Rec L (img D) s P) :
    ∃ a l,best L (img D 0) (img D 1)=(s,a,l)/\0<s/\(a=0\/a=1)/\l.length<=23/\(∀ z∈l,0<=z/\z<L) /\
      (((qc D a l).2=0/\Opened D (qc D a l).1 L P) \/
       ((qc D a l).2=9/\(qc D a l).1.Ok/\(qc D a l).1.secs.length=D.secs.length/\∀ v:Nat->List Int,(∀ k,zxh (qc D a l).1 k (v k))->Rec L v s P)):=by
  obtain⟨a,l,h2,hg,hless,hs,hredo,hpages⟩:=hr
  have hf:=qg (zU hok.sec (show a<D.secs.length by omega)).2 hg
  refine⟨a,l,ztm h2 hg hless hs,hs,h2,hf.2.1,hf.2.2.1,?_⟩
  have hl:=hf.2.1
  have hnum:=hf.2.2.1
  have r0:Run (fun k=>∃ j,j<l.length/\(k:Int)=48+l.getD j 0) (img D) D.secs.length (D,0):=⟨hok,Qh hm _,rfl,.inl ⟨rfl,hd⟩⟩
  have r1:=r0.ws (f:=fun i=>(48+l.getD i 0,D.rd (2+23 * a+i))) l.length (fun j hj=>by
    have hn:=hnum _ (ZT hj)
    refine⟨?_,?_,hok.rd (by omega),j,hj,?_⟩ <;> (dsimp only;omega))
  have r2:=r1.f
  unfold qc
  rcases r2.err with ⟨hz,hdz⟩ | hz
  · left
    obtain⟨f1,f2,f3⟩:=qq hz
    have hfl:=fun k=>zN r1.ok f2 k
    have hw:=zfd l.length f1 (fun i j hi hj e=>by
      dsimp only at e ⊢
      rw [zaz hm,zaz hm,hredo i hi,hredo j hj,show l.getD i 0=l.getD j 0 by omega])
    refine⟨hz,r2.ok,by rw [f3];exact(hfl 0).2.1,hdz,r2.len,fun k hk=>(r2.only k (fun⟨j,hj,hk2⟩=>by have:=hnum _ (ZT hj);omega)).2,fun i hi=>?_⟩
    by_cases hin:(i:Int)∈l
    · obtain⟨j,hj,hje⟩:=List.getElem_of_mem hin
      have hjd:l.getD j 0=(i:Int):=by rw [List.getD_eq_getElem?_getD,List.getElem?_eq_getElem hj,hje];rfl
      have e1:=hw.2.1 j hj
      dsimp only at e1
      rw [hjd,show(48+(i:Int)).toNat=48+i by omega,zaz hm,hredo j hj,hjd,Int.toNat_natCast] at e1
      show(Qr _).1.secs.getD (48+i) []=_
      rw [f3,(hfl _).1,e1]
    · have hno:¬ ∃ j,j<l.length/\((48+i:Nat):Int)=48+l.getD j 0:=fun⟨j,hj,hk2⟩=>hin (by
        have:=ZT hj
        rwa [show l.getD j 0=(i:Int) by omega] at this)
      have e1:img (Qr (wsF (D,0) (fun i=>(48+l.getD i 0,D.rd (2+23 * a+i))) l.length)).1 (48+i)=img D (48+i):=(r2.only _ hno).2
      rw [e1]
      exact hpages i hi hin
  · right
    refine⟨hz,r2.ok,r2.len,fun v hp=>?_⟩
    have e:∀ k:Nat,¬ (∃ j,j<l.length/\(k:Int)=48+l.getD j 0)->v k=img D k:=fun k hk=>r2.only.poss hk (hp k)
    have low:∀ k:Nat,k<48->v k=img D k:=fun k hk=>e k (fun⟨j,hj,hk2⟩=>by have:=hnum _ (ZT hj);omega)
    refine⟨a,l,h2,?_,?_,hs,fun k hk=>?_,fun i hi hin=>?_⟩
    · rw [low a (by omega)];exact hg
    · rw [low (1-a) (by omega)];exact hless
    · rw [low _ (by omega)];exact hredo k hk
    · rw [e (48+i) (fun⟨j,hj,hk2⟩=>hin (by
        have:=ZT hj
        rwa [show l.getD j 0=(i:Int) by omega] at this))]
      exact hpages i hi hin
theorem Opened.again{D E:DS}{L:Nat}{s:Int}{P:Nat->List Int}(h:Opened D E L P)(hr:Rec L (img D) s P)(hok:D.Ok)(hlen:48+L<=D.secs.length):Rec L (img E) s P:=by
  obtain⟨a,l,h2,hg,hless,hs,hredo,hpages⟩:=hr
  have hf:=qg (zU hok.sec (show a<D.secs.length by omega)).2 hg
  refine⟨a,l,h2,?_,?_,hs,fun k hk=>?_,fun i hi _=>h.pages i hi⟩
  · rw [h.low a (by omega)];exact hg
  · rw [h.low (1-a) (by omega)];exact hless
  · rw [h.low _ (by have:=hf.2.1;omega)];exact hredo k hk
def zD(D:DS):DS×Int:=Qr (Qq (Qq (D,0) 0 (qQ 2 [])) 1 (zerosB 32))
theorem za2:Sec (zerosB 32):=⟨length_zerosB 32,byt_zerosB 32⟩
theorem zfu:Sec (qQ 2 []):=⟨qJ 2 [] (by decide),zbI 2 [] (fun z hz=>by cases hz)⟩
theorem zu6(L:Nat):mark L (qQ 2 [])=some (2,[]):=by
  unfold mark
  rw [zaE 2 [] (by decide) (by decide) (by decide)]
  rw [if_pos]
  · rfl
  · refine⟨rfl,by decide,fun z hz=>?_⟩
    have:numsOf ([]++zerosB (24-([]:List Int).length))=[]:=by decide
    rw [this] at hz
    cases hz
theorem zoY(L:Nat):mark L (zerosB 32)=none:=by
  unfold mark
  have:(zV (zerosB 32)).2.2=5:=by decide
  rw [if_neg]
  rintro ⟨h,_⟩
  rw [this] at h
  cases h
theorem zbb(n:Nat)(h:48<n)(hn:n<=300)(L:Nat)(hL:48+L<=n)(hL2:L<=200):(zD (DS.new n)).2=0/\Neat (zD (DS.new n)).1 L 2 (fun _=>zerosB 32) 0 []/\(zD (DS.new n)).1.secs.length=n:=by
  have hlen:(DS.new n).secs.length=n:=by simp [DS.new]
  have r0:Run (fun k=>k=0\/k=1) (img (DS.new n)) n (DS.new n,0):=⟨DS.ok_new n hn,Qh rfl _,hlen,.inl ⟨rfl,rfl⟩⟩
  have r1:=r0.w (i:=0) (b:=qQ 2 []) (by omega) (by omega) zfu (.inl rfl)
  have r2:=r1.w (i:=1) (b:=zerosB 32) (by omega) (by omega) za2 (.inr rfl)
  have r3:=r2.f
  have e1:(DS.new n).writeE 0 (qQ 2 [])=0:=by
    unfold DS.writeE
    rw [if_neg (by rw [hlen];omega),if_neg (by rw [zfu.1];decide)]
    rfl
  have hl1:((DS.new n).write 0 (qQ 2 [])).left=-1:=by
    rw [zbi e1];rfl
  have hd1:=zd0 e1
  have e2:((DS.new n).write 0 (qQ 2 [])).writeE 1 (zerosB 32)=0:=by
    unfold DS.writeE
    rw [if_neg (by rw [QN,hlen];omega),if_neg (by rw [length_zerosB];decide),if_neg (by rw [hd1];exact Bool.false_ne_true),if_neg (by rw [hl1];decide)]
  have hl2:(((DS.new n).write 0 (qQ 2 [])).write 1 (zerosB 32)).left=-1:=by
    rw [zbi e2]
    unfold DS.step
    have:(((DS.new n).write 0 (qQ 2 [])).put (1:Int).toNat (zerosB 32)).left=-1:=hl1
    rw [if_neg (by rw [this];decide),if_neg (by rw [this];decide)]
    exact hl1
  have hd2:=zd0 e2
  have x1:Qq (DS.new n,0) 0 (qQ 2 [])=((DS.new n).write 0 (qQ 2 []),0):=by unfold Qq;rw [if_pos rfl,e1]
  have x2:Qq (Qq (DS.new n,0) 0 (qQ 2 [])) 1 (zerosB 32)=(((DS.new n).write 0 (qQ 2 [])).write 1 (zerosB 32),0):=by rw [x1];unfold Qq;rw [if_pos rfl,e2]
  have e3:(((DS.new n).write 0 (qQ 2 [])).write 1 (zerosB 32)).flushE=0:=by
    unfold DS.flushE
    rw [if_neg (by rw [hd2];exact Bool.false_ne_true),if_neg (by rw [hl2];decide)]
  have x3:zD (DS.new n)=((((DS.new n).write 0 (qQ 2 [])).write 1 (zerosB 32)).doFlush,0):=by unfold zD;rw [x2];unfold Qr;rw [if_pos rfl,e3]
  have hok2:(((DS.new n).write 0 (qQ 2 [])).write 1 (zerosB 32)).Ok:=by have:=r2.ok;rw [x2] at this;exact this
  have hfl:=fun k=>zN hok2 e3 k
  have hi:∀ k,img (((DS.new n).write 0 (qQ 2 [])).write 1 (zerosB 32)).doFlush k=if (k:Int)=1 then zerosB 32 else if (k:Int)=0 then qQ 2 [] else img (DS.new n) k:=fun k=>by
    show(DS.doFlush _).secs.getD k []=_
    rw [(hfl k).1,zbv e2,zbv e1]
    rfl
  have hz:∀ k,k<n->img (DS.new n) k=zerosB 32:=fun k hk=>by
    show(List.replicate n (List.replicate 32 (0:Int))).getD k []=_
    simp [List.getD,hk,zerosB]
  have h3:=r3.ok
  have hl3:=r3.len
  change (zD (DS.new n)).1.Ok at h3
  change (zD (DS.new n)).1.secs.length=n at hl3
  rw [x3] at h3 hl3
  rw [x3]
  have i0:img (((DS.new n).write 0 (qQ 2 [])).write 1 (zerosB 32)).doFlush 0=qQ 2 []:=by rw [hi 0,if_neg (by decide),if_pos (by decide)]
  have i1:img (((DS.new n).write 0 (qQ 2 [])).write 1 (zerosB 32)).doFlush 1=zerosB 32:=by rw [hi 1,if_pos (by decide)]
  refine⟨rfl,⟨h3,(hfl 0).2.1,(hfl 0).2.2,by show 48+L<=(DS.doFlush _).secs.length;rw [hl3];exact hL,hL2,.inl rfl,by decide,by decide,by decide,?_,fun k hk=>?_,fun i hL3=>?_,?_,?_,?_⟩,hl3⟩
  · show mark L (img _ 0)=_
    rw [i0];exact zu6 L
  · cases hk
  · show img _ (48+i)=_
    rw [hi,if_neg (by omega),if_neg (by omega),hz _ (by omega)]
  · show(img _ 1).take 4=(img _ 1).drop 28
    rw [i1];rfl
  · show(img _ 1).take 4≠_
    rw [i1]
    exact fun e=>zjh (n:=2+1) (by decide) (by decide) e.symm
  · show ∀ t l',mark L (img _ 1)=some (t,l')->t<2
    rw [i1,zoY]
    intro t l' ht
    cases ht
def zc(D:DS)(s:Int)(L:Nat)(l:List (Int×List Int)):DS×Int×Int :=
 if zZ L l≠0 then (D,s,zZ L l) else if D.down then (D,s,9) else if l=[] then (D,s,0) else ((zi D s l).1,if (zi D s l).2=0 then s+1 else s,(zi D s l).2)
def qs(D:DS)(L:Nat):DS×Int×Int :=
 if D.down then (D,0,9) else if (best L (D.rd 0) (D.rd 1)).1=0 then (D,0,5) else
  ((qc D (best L (D.rd 0) (D.rd 1)).2.1 (best L (D.rd 0) (D.rd 1)).2.2).1,if (qc D (best L (D.rd 0) (D.rd 1)).2.1 (best L (D.rd 0) (D.rd 1)).2.2).2=0 then (best L (D.rd 0) (D.rd 1)).1 else 0,(qc D (best L (D.rd 0) (D.rd 1)).2.1 (best L (D.rd 0) (D.rd 1)).2.2).2)
def Ever(x:DS×Int):Prop:=x.1.left<0/\(x.2=0->x.1.down=false)/\x.2≠9
theorem zaZ{D:DS}(h:D.left<0):D.step=D:=by
 unfold DS.step
 rw [if_neg (by omega),if_neg (by omega)]
theorem Ever.w{x:DS×Int}(h:Ever x)(i:Int)(b:List Int):Ever (Qq x i b):=by
 unfold Qq
 split
 ·rename_i hx
  have hd:=h.2.1 hx
  have he:x.1.writeE i b≠9:=by
   unfold DS.writeE
   split
   ·decide
   ·split
    ·decide
    ·rw [if_neg (by rw [hd];exact Bool.false_ne_true),if_neg (by have:=h.1;omega)]
     decide
  have hl:(x.1.write i b).left<0/\(x.1.write i b).down=false:=by
   unfold DS.write
   split
   ·exact⟨h.1,hd⟩
   ·rw [zaZ (show(x.1.put i.toNat b).left<0 from h.1)]
    exact⟨h.1,hd⟩
  exact⟨hl.1,fun _=>hl.2,he⟩
 ·exact h
theorem Ever.f{x:DS×Int}(h:Ever x):Ever (Qr x):=by
 unfold Qr
 split
 ·rename_i hx
  have hd:=h.2.1 hx
  have h1:=h.1
  have he:x.1.flushE=0:=by
   unfold DS.flushE
   rw [if_neg (by rw [hd];exact Bool.false_ne_true),if_neg (by omega)]
  obtain⟨e1,e2⟩:=zdM he
  refine⟨?_,fun _=>?_,by show x.1.flushE≠9;rw [he];decide⟩
  ·show x.1.doFlush.left<0
   rw [e1,zaZ h.1];exact h.1
  ·show x.1.doFlush.down=false
   rw [e1];exact e2
 ·exact h
theorem Ever.ws{x:DS×Int}(h:Ever x)(f:Nat->Int×List Int):∀ m,Ever (wsF x f m)
 | 0=>h
 | m+1=>(Ever.ws h f m).w _ _
theorem zg8(s:Int)(b:List Int):(qO s b).2≠9:=by
 unfold qO
 split
 ·show(1:Int)≠9;decide
 ·split
  ·show(4:Int)≠9;decide
  ·show(0:Int)≠9;decide
theorem Ever.commit{D:DS}{s:Int}{l:List (Int×List Int)}(h:D.left<0)(hd:D.down=false):(zi D s l).2≠9/\(zi D s l).1.left<0:=by
 have h0:Ever (D,0):=⟨h,fun _=>hd,by show(0:Int)≠9;decide⟩
 have h1:Ever (zE D ((s+1) % 2) l):=(h0.ws _ _).f
 have h2:Ever (zA (zE D ((s+1) % 2) l) ((s+1) % 2) (s+1) l):=by
  unfold zA
  split
  ·rename_i hx
   split
   ·exact(h1.w _ _).f
   ·rename_i hm
    refine Ever.f ⟨h1.1,fun e=>absurd e hm,zg8 _ _⟩
  ·exact h1.f
 have h3:Ever (zi D s l):=(h2.ws _ _).f
 exact⟨h3.2.2,h3.1⟩
theorem Ever.open{D:DS}{a:Nat}{l:List Int}(h:D.left<0)(hd:D.down=false):(qc D a l).2≠9/\(qc D a l).1.left<0:=by
 have h0:Ever (D,0):=⟨h,fun _=>hd,by show(0:Int)≠9;decide⟩
 have h3:Ever (qc D a l):=(h0.ws _ _).f
 exact⟨h3.2.2,h3.1⟩
structure Ready (D:DS) (L:Nat) (s:Int) (P:Nat->List Int):Prop where
 ok:D.Ok
 mem:D.mem=[]
 down:D.down=false
 len:48+L<=D.secs.length
 rec':Rec L (img D) s P
theorem zai{D:DS}{L:Nat}{s:Int}{P:Nat->List Int}(hok:D.Ok)(hlen:48+L<=D.secs.length)(keep:List Bool)(zR:Int)(c:Nat)(hr:Rec L (img (D.crash keep zR c)) s P):Ready (D.crash keep zR c) L s P :=
 ⟨hok.crash keep zR c,rfl,rfl,by show 48+L<=(qE _ _ _ _ _ _).length;rw [Qx];exact hlen,hr⟩
theorem zam{D:DS}(hm:D.mem=[])(keep:List Bool)(zR:Int)(c:Nat):img (D.crash keep zR c)=img D:=by
 funext k
 show(qE D.secs D.mem keep zR c D.mem.length).getD k []=_
 rw [hm];rfl
theorem zeb{D:DS}{L:Nat}{s:Int}{P:Nat->List Int}(h:Ready D L s P) :
  ((qs D L).2.2=0/\(qs D L).2.1=s/\Opened D (qs D L).1 L P/\Ready (qs D L).1 L s P/\(D.left<0->(qs D L).1.left<0)) \/
  ((qs D L).2.2=9/\¬ D.left<0/\(qs D L).1.Ok/\48+L<=(qs D L).1.secs.length/\∀ keep zR c,c<=32->Ready ((qs D L).1.crash keep zR c) L s P):=by
 obtain⟨a,l,hb,hs,h2,hl,hn,hres⟩:=zm3 h.ok h.mem h.down h.len h.rec'
 have e0:qs D L=((qc D a l).1,if (qc D a l).2=0 then s else 0,(qc D a l).2):=by
  unfold qs
  rw [zaz h.mem,zaz h.mem,hb,if_neg (by rw [h.down];exact Bool.false_ne_true),if_neg (show ¬ s=0 by omega)]
 rw [e0]
 rcases hres with ⟨r1,r2⟩ | ⟨r1,r2,r3,r4⟩
 ·left
  refine⟨r1,by show(if (qc D a l).2=0 then s else 0)=s;rw [if_pos r1],r2,⟨r2.ok,r2.mem,r2.down,by rw [r2.len];exact h.len,r2.again h.rec' h.ok h.len⟩,fun hl0=>(Ever.open hl0 h.down).2⟩
 ·right
  refine⟨r1,fun hl0=>(Ever.open hl0 h.down).1 r1,r2,by rw [r3];exact h.len,fun keep zR c hc=>zai r2 (by rw [r3];exact h.len) keep zR c (r4 _ (zcH r2 keep zR c hc))⟩
def Bk(b:List Int)(s:Int):Prop:=numOf (b.drop 28)<s
theorem zrN{L:Nat}{b:List Int}{s:Int}{l:List Int}(hb:Byt b)(h:mark L b=some (s,l)):Bk b (s+1):=by
 obtain⟨_,_,_,h4,h5,_⟩:=qg hb h
 unfold Bk
 rw [<- h4,h5]
 omega
theorem Bk.less{L:Nat}{b:List Int}{s:Int}(h:Bk b s)(hb:Byt b):∀ t l',mark L b=some (t,l')->t<s:=fun t l' ht=>by
 obtain⟨_,_,_,h4,h5,_⟩:=qg hb ht
 unfold Bk at h
 rw [<- h4,h5] at h
 exact h
theorem zsy{l:List Int}(h:l.length=4):∃ a b c d,l=[a,b,c,d]:=by
 match l,h with
 | [a,b,c,d],_=>exact⟨a,b,c,d,rfl⟩
theorem zxv{X Y:List Int}{n:Int}(hx:X.length=32)(hy:Y.length=32)(bx:Byt X)(by':Byt Y)(hX:numOf (X.drop 28)=n+1)(hY:Bk Y n){c:Nat}(hc:c<=32):zbP X Y c=X\/Bk (zbP X Y c) n:=by
 unfold Bk at hY ⊢
 have hsplit:zbP X Y c=X\/(c<=28/\(zbP X Y c).drop 28=Y.drop 28)\/(28<c/\(zbP X Y c).take 28=X.take 28/\(zbP X Y c).drop 28=(X.drop 28).take (c-28)++(Y.drop 28).drop (c-28)):=by
  right
  by_cases h:c<=28
  ·left
   refine⟨h,?_⟩
   unfold zbP
   rw [List.drop_append,List.drop_of_length_le (by simp;omega),List.nil_append,List.drop_drop,List.length_take]
   congr 1
   omega
  ·right
   refine⟨by omega,?_,?_⟩
   ·unfold zbP
    rw [List.take_append_of_le_length (by simp;omega),List.take_take,Nat.min_eq_left (by omega)]
   ·unfold zbP
    rw [List.drop_append_of_le_length (by simp;omega),List.drop_drop,List.drop_take,show 28+(c-28)=c by omega]
 rcases hsplit with h | ⟨_,h⟩ | ⟨h1,h2,h3⟩
 ·exact .inl h
 ·right;rw [h];exact hY
 ·obtain⟨x0,x1,x2,x3,ex⟩:=zsy (l:=X.drop 28) (by simp;omega)
  obtain⟨y0,y1,y2,y3,ey⟩:=zsy (l:=Y.drop 28) (by simp;omega)
  have hbx:∀ z∈[x0,x1,x2,x3],0<=z/\z<=255:=fun z hz=>bx z (List.mem_of_mem_drop (i:=28) (by rw [ex];exact hz))
  have hby:∀ z∈[y0,y1,y2,y3],0<=z/\z<=255:=fun z hz=>by' z (List.mem_of_mem_drop (i:=28) (by rw [ey];exact hz))
  have b0:=hbx x0 (by simp)
  have b1:=hbx x1 (by simp)
  have b2:=hbx x2 (by simp)
  have b3:=hbx x3 (by simp)
  have d0:=hby y0 (by simp)
  have d1:=hby y1 (by simp)
  have d2:=hby y2 (by simp)
  have d3:=hby y3 (by simp)
  have hall:(zbP X Y c).drop 28=X.drop 28->zbP X Y c=X:=fun e=>by
   rw [<- List.take_append_drop 28 (zbP X Y c),h2,e,List.take_append_drop]
  rw [ex] at hX hall
  rw [ey] at hY
  rw [ex,ey] at h3
  rw [h3] at hall ⊢
  simp only [numOf] at hX hY
  have hcc:c-28=1\/c-28=2\/c-28=3\/c-28=4:=by omega
  rcases hcc with e | e | e | e <;> rw [e] at hall ⊢ <;> simp only [List.take,List.drop,List.cons_append,List.nil_append,numOf] at hall ⊢
  ·by_cases hh:y1=x1/\y2=x2/\y3=x3
   ·obtain⟨rfl,rfl,rfl⟩:=hh
    exact .inl (hall rfl)
   ·right;omega
  ·by_cases hh:y2=x2/\y3=x3
   ·obtain⟨rfl,rfl⟩:=hh
    exact .inl (hall rfl)
   ·right;omega
  ·by_cases hh:y3=x3
   ·obtain rfl:=hh
    exact .inl (hall rfl)
   ·right;omega
  ·exact .inl (hall trivial)
def Rb(L:Nat)(v:Nat->List Int)(s:Int)(P:Nat->List Int):Prop :=
 ∃ a l,(a=0\/a=1)/\s % 2=((a:Nat):Int)/\mark L (v a)=some (s,l)/\Bk (v (1-a)) s/\0<s/\(∀ k,k<l.length->v (2+23 * a+k)=P (l.getD k 0).toNat)/\∀ i,i<L->(i:Int) ∉ l->v (48+i)=P i
theorem Rb.again{L:Nat}{v:Nat->List Int}{s:Int}{P:Nat->List Int}(h:Rb L v s P)(hb:Byt (v 0)/\Byt (v 1)):Rec L v s P:=by
 obtain⟨a,l,h1,_,h3,h4,h5⟩:=h
 refine⟨a,l,h1,h3,h4.less ?_,h5⟩
 rcases h1 with rfl | rfl
 ·exact hb.2
 ·exact hb.1
structure Nt (D:DS) (L:Nat) (s:Int) (P:Nat->List Int) (a:Nat) (l:List Int):Prop where
 ok:D.Ok
 mem:D.mem=[]
 down:D.down=false
 len:48+L<=D.secs.length
 lt:L<=200
 two:a=0\/a=1
 even:s % 2=(a:Int)
 s1:1<=s
 s2:s<=10000
 got:mark L (D.secs.getD a [])=some (s,l)
 redo:∀ k,k<l.length->D.secs.getD (2+23 * a+k) []=P (l.getD k 0).toNat
 pages:∀ i,i<L->D.secs.getD (48+i) []=P i
 bk:Bk (D.secs.getD (1-a) []) s
def zDw(D:DS)(L:Nat)(s:Int)(P:Nat->List Int)(l:List (Int×List Int)):Prop :=
 ∀ v:Nat->List Int,(∀ k,zxh D k (v k))->Rb L v s P\/Rb L v (s+1) (upd P l)
section
variable {D:DS} {L:Nat} {s:Int} {P:Nat->List Int} {a:Nat} {nl:List Int} {l:List (Int×List Int)}
theorem zwy(h:Nt D L s P a nl)(hv:zbg L l)(hb:∀ k,k<l.length->Byt (l.getD k (0,[])).2):Run (reg a) (img D) D.secs.length (zE D ((s+1) % 2) l):=by
 have ha:(s+1) % 2=((1-a:Nat):Int):=by have:=h.even;rcases h.two with rfl | rfl <;> omega
 have hl:=h.len
 have hvl:=hv.len
 unfold zE
 refine Run.f (Run.ws (⟨h.ok,Qh h.mem _,rfl,.inl ⟨rfl,h.down⟩⟩:Run (reg a) (img D) D.secs.length (D,0)) l.length (fun j hj=>?_))
 rw [ha]
 have h2:=h.two
 have hL:=hv.num j hj
 refine⟨by omega,by omega,⟨hv.body j hj,hb j hj⟩,?_⟩
 unfold reg
 constructor <;> omega
theorem zBH(h:Nt D L s P a nl){D':DS}(ho:Only (reg a) D' (img D)):∀ v:Nat->List Int,(∀ k,zxh D' k (v k))->Rb L v s P:=by
 intro v hv
 have e:∀ k,¬ reg a k->v k=img D k:=fun k hk=>ho.poss hk (hv k)
 have hn:=qg (zU h.ok.sec (by have:=h.len;rcases h.two with rfl | rfl <;> omega)).2 h.got
 have h2:=h.two
 refine⟨a,nl,h.two,h.even,?_,?_,by have:=h.s1;omega,fun k hk=>?_,fun i hi _=>?_⟩
 ·rw [e a (by unfold reg;omega)];exact h.got
 ·rw [e (1-a) (by unfold reg;omega)];exact h.bk
 ·rw [e (2+23 * a+k) (by unfold reg;have:=hn.2.1;omega)];exact h.redo k hk
 ·rw [e (48+i) (by unfold reg;omega)];exact h.pages i hi
structure AsideB (D:DS) (L:Nat) (s:Int) (P:Nat->List Int) (a:Nat) (nl:List Int) (l:List (Int×List Int)) (E:DS):Prop where
 ok:E.Ok
 mem:E.mem=[]
 down:E.down=false
 len:E.secs.length=D.secs.length
 same:∀ k,¬ reg a k->img E k=img D k
 body:∀ j,j<l.length->img E (2+23 * (1-a)+j)=(l.getD j (0,[])).2
theorem zBT(h:Nt D L s P a nl)(hv:zbg L l)(hb:∀ k,k<l.length->Byt (l.getD k (0,[])).2)(he:(zE D ((s+1) % 2) l).2=0):AsideB D L s P a nl l (zE D ((s+1) % 2) l).1:=by
 have hr:=zwy h hv hb
 have ha:(s+1) % 2=((1-a:Nat):Int):=by have:=h.even;rcases h.two with rfl | rfl <;> omega
 have hrun:(zE D ((s+1) % 2) l).2=0:=he
 unfold zE at he hr ⊢
 obtain⟨e1,e2,e3⟩:=qq he
 obtain⟨r1,r2,r3,_⟩:=hr
 rw [e3] at r1 r2 r3 ⊢
 have hok:(wsF (D,0) (fun i=>(2+23 * ((s+1) % 2)+i,(l.getD i (0,[])).2)) l.length).1.Ok:=by
  have hl:=h.len
  have hvl:=hv.len
  refine(Run.ws (⟨h.ok,Qh h.mem _,rfl,.inl ⟨rfl,h.down⟩⟩:Run (reg a) (img D) D.secs.length (D,0)) l.length (fun j hj=>?_)).ok
  rw [ha]
  have h2:=h.two
  refine⟨by omega,by omega,⟨hv.body j hj,hb j hj⟩,?_⟩
  unfold reg
  constructor <;> omega
 have hw:=zfd l.length e1 (fun i j _ _ e=>by dsimp only at e ⊢;rw [show i=j by omega])
 refine⟨r1,(zN hok e2 0).2.1,(zN hok e2 0).2.2,r3,fun k hk=>(r2 k hk).2,fun j hj=>?_⟩
 show(DS.doFlush _).secs.getD _ []=_
 rw [(zN hok e2 _).1]
 have:=hw.2.1 j hj
 dsimp only at this
 rw [ha] at this ⊢
 rw [show(2+23 * ((1-a:Nat):Int)+(j:Int)).toNat=2+23 * (1-a)+j by omega] at this
 exact this
variable {E:DS}
theorem AsideB.recNew(h:Nt D L s P a nl)(hv:zbg L l)(hs:AsideB D L s P a nl l E){v:Nat->List Int}(e:∀ k,k≠1-a->(∀ j,j<l.length->(k:Int)≠48+(l.getD j (0,[])).1)->v k=img E k)(hx:v (1-a)=qQ (s+1) (qm l)):Rb L v (s+1) (upd P l):=by
 have h2:=h.two
 have hs1:=h.s1
 have hs2:=h.s2
 have hm:=(zak hv (show 1<=s+1 by omega) (by omega)).2
 have ha1:1-(1-a)=a:=by omega
 have hvl:=hv.len
 refine⟨1-a,l.map (·.1),by omega,by have:=h.even;omega,?_,?_,by omega,fun k hk=>?_,fun i hi hn=>?_⟩
 ·rw [hx];exact hm
 ·rw [ha1,e a (by omega) (fun j hj=>by have:=hv.num j hj;omega),hs.same a (by unfold reg;omega)]
  exact zrN (zU h.ok.sec (by have:=h.len;omega)).2 h.got
 ·have hk':k<l.length:=by simpa using hk
  rw [e _ (by omega) (fun j hj=>by have:=hv.num j hj;omega),hs.body k hk',zcf l hk',zfh hv hk']
 ·rw [zaW hn,e _ (by omega) (fun j hj e2=>hn (List.mem_map.2 ⟨l.getD j (0,[]),by simp [List.getD,hj],by omega⟩)),hs.same (48+i) (by unfold reg;omega)]
  exact h.pages i hi
theorem zw8(h:Nt D L s P a nl)(hv:zbg L l)(hs:AsideB D L s P a nl l E){E':DS}(ho:Only (fun k=>k=1-a) E' (img E))(hsec:E'.secs=E.secs)(hlook:∀ b,E'.mem.lookup (1-a)=some b->b=qQ (s+1) (qm l)):zDw E' L s P l:=by
 intro v hp
 have h2:=h.two
 have hs1:=h.s1
 have hs2:=h.s2
 have hvl:=hv.len
 have hml:=QP l
 have e:∀ k,k≠1-a->v k=img E k:=fun k hk=>ho.poss hk (hp k)
 have hY:img E (1-a)=img D (1-a):=hs.same (1-a) (by unfold reg;omega)
 have old:Bk (v (1-a)) s->Rb L v s P:=fun hm=>by
  have hn:=qg (zU h.ok.sec (by have:=h.len;omega)).2 h.got
  refine⟨a,nl,h.two,h.even,?_,hm,by omega,fun k hk=>?_,fun i hi _=>?_⟩
  ·rw [e a (by omega),hs.same a (by unfold reg;omega)];exact h.got
  ·rw [e _ (by omega),hs.same _ (by unfold reg;have:=hn.2.1;omega)];exact h.redo k hk
  ·rw [e _ (by omega),hs.same _ (by unfold reg;omega)];exact h.pages i hi
 have new:v (1-a)=qQ (s+1) (qm l)->Rb L v (s+1) (upd P l):=fun hx=>hs.recNew h hv (fun k hk _=>e k hk) hx
 have hlast:v (1-a)=img D (1-a)->Rb L v s P\/Rb L v (s+1) (upd P l):=fun hx=>.inl (old (by rw [hx];exact h.bk))
 rcases hp (1-a) with hq | ⟨b,hb,hq⟩
 ·rw [hsec] at hq
  exact hlast (hq.trans hY)
 ·have hbx:=hlook b hb
  subst hbx
  rcases hq with hq | ⟨c,hc,hq⟩
  ·exact .inr (new hq)
  ·rw [hsec,show E.secs.getD (1-a) []=img D (1-a) from hY] at hq
   have hXl:(qQ (s+1) (qm l)).length=32:=qJ _ _ (by omega)
   have hDs:Sec (img D (1-a)):=zU h.ok.sec (by have:=h.len;omega)
   have hbm:Byt (qm l):=fun z hz=>by
    rcases List.mem_cons.1 hz with rfl | hz
    ·omega
    ·obtain⟨q,hq,rfl⟩:=List.mem_map.1 hz
     obtain⟨j,hj,hje⟩:=List.getElem_of_mem hq
     have hn:=hv.num j hj
     have hg:l.getD j (0,[])=q:=by simp [List.getD,hj,hje]
     rw [hg] at hn
     have:=h.lt
     omega
   rcases zxv (n:=s) hXl hDs.1 (zbI _ _ hbm) hDs.2 (by rw [zfv _ _ (by omega),Zp _ (by omega) (by omega)]) h.bk hc with hz | hz
   ·exact .inr (new (hq.trans hz))
   ·exact .inl (old (by rw [hq];exact hz))
theorem zAj(h:Nt D L s P a nl)(hv:zbg L l)(hs:AsideB D L s P a nl l E) :
  ((zA (E,0) ((s+1) % 2) (s+1) l).2=9/\(zA (E,0) ((s+1) % 2) (s+1) l).1.Ok/\(zA (E,0) ((s+1) % 2) (s+1) l).1.secs.length=D.secs.length/\zDw (zA (E,0) ((s+1) % 2) (s+1) l).1 L s P l) \/
  ((zA (E,0) ((s+1) % 2) (s+1) l).2=0/\(zA (E,0) ((s+1) % 2) (s+1) l).1.Ok/\(zA (E,0) ((s+1) % 2) (s+1) l).1.mem=[]/\(zA (E,0) ((s+1) % 2) (s+1) l).1.down=false /\
   (zA (E,0) ((s+1) % 2) (s+1) l).1.secs.length=D.secs.length/\(∀ k,k≠1-a->img (zA (E,0) ((s+1) % 2) (s+1) l).1 k=img E k)/\img (zA (E,0) ((s+1) % 2) (s+1) l).1 (1-a)=qQ (s+1) (qm l)):=by
 have ha:(s+1) % 2=((1-a:Nat):Int):=by have:=h.even;rcases h.two with rfl | rfl <;> omega
 have h2:=h.two
 have hs1:=h.s1
 have hs2:=h.s2
 have hlen:=h.len
 have hvl:=hv.len
 have hml:=QP l
 have hm:=(zak hv (show 1<=s+1 by omega) (by omega)).1
 have hbm:Byt (qm l):=fun z hz=>by
  rcases List.mem_cons.1 hz with rfl | hz
  ·omega
  ·obtain⟨q,hq,rfl⟩:=List.mem_map.1 hz
   obtain⟨j,hj,hje⟩:=List.getElem_of_mem hq
   have hn:=hv.num j hj
   have hg:l.getD j (0,[])=q:=by simp [List.getD,hj,hje]
   rw [hg] at hn
   have:=h.lt
   omega
 have hX:Sec (qQ (s+1) (qm l)):=⟨qJ _ _ (by omega),zbI _ _ hbm⟩
 have e0:zA (E,0) ((s+1) % 2) (s+1) l=Qr (Qq (E,0) ((1-a:Nat):Int) (qQ (s+1) (qm l))):=by
  unfold zA
  rw [if_pos rfl,hm,if_pos rfl,ha]
 rw [e0]
 have r0:Run (fun k=>k=1-a) (img E) D.secs.length (E,0):=⟨hs.ok,Qh hs.mem _,hs.len,.inl ⟨rfl,hs.down⟩⟩
 have r1:=r0.w (i:=((1-a:Nat):Int)) (b:=qQ (s+1) (qm l)) (by omega) (by omega) hX (by omega)
 have r2:=r1.f
 have hsec1:(Qq (E,0) ((1-a:Nat):Int) (qQ (s+1) (qm l))).1.secs=E.secs:=by
  unfold Qq;rw [if_pos rfl];exact QN _ _ _
 have hlook1:∀ b,(Qq (E,0) ((1-a:Nat):Int) (qQ (s+1) (qm l))).1.mem.lookup (1-a)=some b->b=qQ (s+1) (qm l):=by
  intro b hb
  unfold Qq at hb
  rw [if_pos rfl] at hb
  rcases zb6 hb with h3 | h3
  ·have h4:E.mem.lookup (1-a)=some b:=h3
   rw [hs.mem] at h4;cases h4
  ·exact h3
 generalize hx:Qq (E,0) ((1-a:Nat):Int) (qQ (s+1) (qm l))=x at *
 rcases r2.err with ⟨hz,hd⟩ | hz
 ·right
  obtain⟨f1,f2,f3⟩:=qq hz
  rw [<- hx] at f1
  obtain⟨g1,g2,g3⟩:=QE f1
  rw [hx] at g3
  have hok:=r1.ok
  have hfl:=fun k=>zN hok f2 k
  refine⟨hz,r2.ok,?_,hd,r2.len,fun k hk=>(r2.only k hk).2,?_⟩
  ·rw [f3];exact(hfl 0).2.1
  ·show(Qr x).1.secs.getD (1-a) []=_
   rw [f3,(hfl _).1,g3,zbv g2,if_pos rfl]
 ·left
  refine⟨hz,r2.ok,r2.len,?_⟩
  by_cases hx0:x.2=0
  ·have hf:x.1.flushE=9:=by
    unfold Qr at hz
    rw [if_pos hx0] at hz
    exact hz
   have e1:(Qr x).1=x.1.doFlush:=by unfold Qr;rw [if_pos hx0]
   rw [e1]
   refine zw8 h hv hs (fun k hk=>?_) ?_ ?_
   ·rw [(Qd hf).1,(Qd hf).2];exact r1.only k hk
   ·rw [(Qd hf).1];exact hsec1
   ·rw [(Qd hf).2];exact hlook1
  ·rw [zdX hx0]
   exact zw8 h hv hs r1.only hsec1 hlook1
theorem zgh(h:Nt D L s P a nl)(hs9:s<=9999)(hv:zbg L l)(hb:∀ k,k<l.length->Byt (l.getD k (0,[])).2) :
  ((zi D s l).2=0/\Nt (zi D s l).1 L (s+1) (upd P l) (1-a) (l.map (·.1))/\(zi D s l).1.secs.length=D.secs.length) \/
  ((zi D s l).2=9/\(zi D s l).1.Ok/\(zi D s l).1.secs.length=D.secs.length/\zDw (zi D s l).1 L s P l):=by
 have hra:=zwy h hv hb
 unfold zi
 rcases hra.err with ⟨he,_⟩ | he
 ·have hs:=zBT h hv hb he
  have ex:zE D ((s+1) % 2) l=((zE D ((s+1) % 2) l).1,0):=Prod.ext rfl he
  generalize (zE D ((s+1) % 2) l).1=E at hs ex
  rw [ex]
  rcases zAj h hv hs with ⟨b1,b2,b3,b4⟩ | ⟨b1,b2,b3,b4,b5,b6,b7⟩
  ·rw [zas (by rw [b1];decide)]
   exact .inr ⟨b1,b2,b3,b4⟩
  ·have ey:zA (E,0) ((s+1) % 2) (s+1) l=((zA (E,0) ((s+1) % 2) (s+1) l).1,0):=Prod.ext rfl b1
   generalize (zA (E,0) ((s+1) % 2) (s+1) l).1=F at b2 b3 b4 b5 b6 b7 ey
   rw [ey]
   have h2:=h.two
   have hs1:=h.s1
   have hlen:=h.len
   have hvl:=hv.len
   have r0:Run (fun k=>∃ j,j<l.length/\(k:Int)=48+(l.getD j (0,[])).1) (img F) D.secs.length (F,0):=⟨b2,Qh b3 _,b5,.inl ⟨rfl,b4⟩⟩
   have r1:=r0.ws (f:=fun i=>(48+(l.getD i (0,[])).1,(l.getD i (0,[])).2)) l.length (fun j hj=>by
    have hn:=hv.num j hj
    refine⟨?_,?_,⟨hv.body j hj,hb j hj⟩,j,hj,?_⟩ <;> (dsimp only;omega))
   have r2:=r1.f
   have hrec:∀ v:Nat->List Int,(∀ k:Nat,¬ (∃ j,j<l.length/\(k:Int)=48+(l.getD j (0,[])).1)->v k=img F k)->Rb L v (s+1) (upd P l):=fun v e=>by
    refine hs.recNew h hv (fun k hk hn=>?_) ?_
    ·rw [e k (fun⟨j,hj,hk2⟩=>hn j hj hk2),b6 k hk]
    ·rw [e (1-a) (fun⟨j,hj,hk2⟩=>by have:=hv.num j hj;omega),b7]
   unfold QM
   rcases r2.err with ⟨hz,hd⟩ | hz
   ·left
    refine⟨hz,?_,r2.len⟩
    obtain⟨f1,f2,f3⟩:=qq hz
    have hfl:=fun k=>zN r1.ok f2 k
    have hw:=zfd l.length f1 (fun i j hi hj e=>by
     dsimp only at e ⊢
     rcases Nat.lt_trichotomy i j with h3 | h3 | h3
     ·exact absurd (by omega) (hv.apart i j h3 hj)
     ·rw [h3]
     ·exact absurd (by omega) (hv.apart j i h3 hi))
    have hsame:∀ k:Nat,¬ (∃ j,j<l.length/\(k:Int)=48+(l.getD j (0,[])).1)->img (Qr (wsF (F,0) (fun i=>(48+(l.getD i (0,[])).1,(l.getD i (0,[])).2)) l.length)).1 k=img F k:=fun k hk=>(r2.only k hk).2
    have hlow:∀ k:Nat,k<48->img (Qr (wsF (F,0) (fun i=>(48+(l.getD i (0,[])).1,(l.getD i (0,[])).2)) l.length)).1 k=img F k:=fun k hk=>hsame k (fun⟨j,hj,hk2⟩=>by have:=hv.num j hj;omega)
    have hm:=(zak hv (show 1<=s+1 by omega) (by omega)).2
    have ha1:1-(1-a)=a:=by omega
    have hback:img (Qr (wsF (F,0) (fun i=>(48+(l.getD i (0,[])).1,(l.getD i (0,[])).2)) l.length)).1 a=img D a:=by
     rw [hlow a (by omega),b6 a (by omega),hs.same a (by unfold reg;omega)]
    have hfa:=qg (zU h.ok.sec (show a<D.secs.length by omega)).2 h.got
    refine⟨r2.ok,?_,hd,by rw [r2.len];exact hlen,h.lt,by omega,?_,by omega,by omega,?_,fun k hk=>?_,fun i hi=>?_,?_⟩
    ·rw [f3];exact(hfl 0).2.1
    ·have:=h.even
     rcases h2 with rfl | rfl <;> omega
    ·show mark L (img _ (1-a))=_
     rw [hlow (1-a) (by omega),b7];exact hm
    ·have hk':k<l.length:=by simpa using hk
     show img _ _=_
     rw [hlow _ (by omega),b6 _ (by omega),hs.body k hk',zcf l hk',zfh hv hk']
    ·show img _ (48+i)=_
     by_cases hin:∃ j,j<l.length/\((48+i:Nat):Int)=48+(l.getD j (0,[])).1
     ·obtain⟨j,hj,hk2⟩:=hin
      have hn:=hv.num j hj
      have e1:=hw.2.1 j hj
      dsimp only at e1
      rw [show(48+(l.getD j (0,[])).1).toNat=48+i by omega] at e1
      show(Qr _).1.secs.getD (48+i) []=_
      rw [f3,(hfl _).1,e1,<- zfh (P:=P) hv hj,show(l.getD j (0,[])).1.toNat=i by omega]
     ·rw [hsame _ hin,b6 _ (by omega),hs.same _ (by unfold reg;omega),zaW (fun hm2=>hin (by
       obtain⟨q,hq,hqe⟩:=List.mem_map.1 hm2
       obtain⟨j,hj,hje⟩:=List.getElem_of_mem hq
       have hg:l.getD j (0,[])=q:=by simp [List.getD,hj,hje]
       exact⟨j,hj,by rw [hg];omega⟩))]
      exact h.pages i hi
    ·rw [ha1]
     show Bk (img _ a) (s+1)
     rw [hback]
     exact zrN (zU h.ok.sec (by omega)).2 h.got
   ·right
    exact⟨hz,r2.ok,r2.len,fun v hp=>.inr (hrec v (fun k hk=>r2.only.poss hk (hp k)))⟩
 ·right
  rw [zdb (by rw [he];decide),zas (by rw [he];decide)]
  exact⟨he,hra.ok,hra.len,fun v hp=>.inl (zBH h hra.only v hp)⟩
end
theorem ziX(D:DS)(i:Int)(b:List Int):(D.write i b).secs.length=D.secs.length:=by rw [QN]
theorem zgG(D:DS):D.doFlush.secs.length=D.secs.length:=by
 unfold DS.doFlush
 split
 ·rfl
 ·split
  ·rfl
  ·show(Qp D.step.secs _ _).length=_
   rw [ZW]
   unfold DS.step
   split
   ·rfl
   ·split <;> rfl
theorem zgv(x:DS×Int)(i:Int)(b:List Int):(Qq x i b).1.secs.length=x.1.secs.length:=by
 unfold Qq
 split
 ·exact ziX _ _ _
 ·rfl
theorem zbJ(x:DS×Int):(Qr x).1.secs.length=x.1.secs.length:=by
 unfold Qr
 split
 ·exact zgG _
 ·rfl
theorem zco(x:DS×Int)(f:Nat->Int×List Int):∀ n,(wsF x f n).1.secs.length=x.1.secs.length
 | 0=>rfl
 | n+1=>(zgv _ _ _).trans (zco x f n)
theorem ZN(D:DS)(s:Int)(m:Nat)(l:List (Int×List Int)):(zc D s m l).1.secs.length=D.secs.length:=by
 have hA:∀ a:Int,(zE D a l).1.secs.length=D.secs.length:=fun a=>by
  unfold zE
  rw [zbJ,zco]
 have hB:∀ (x:DS×Int) (a s:Int),(zA x a s l).1.secs.length=x.1.secs.length:=fun x a s=>by
  unfold zA
  rw [zbJ]
  split
  ·split
   ·rw [zgv]
   ·rfl
  ·rfl
 have hC:∀ x:DS×Int,(QM x l).1.secs.length=x.1.secs.length:=fun x=>by
  unfold QM
  rw [zbJ,zco]
 unfold zc
 split
 ·rfl
 ·split
  ·rfl
  ·split
   ·rfl
   ·show(zi D s l).1.secs.length=_
    unfold zi
    rw [hC,hB,hA]
theorem zaS{D:DS}(hd:D.down=true)(s:Int)(m:Nat)(l:List (Int×List Int)):zc D s m l=(D,s,if zZ m l≠0 then zZ m l else 9):=by
 unfold zc
 by_cases h:zZ m l≠0
 ·rw [if_pos h,if_pos h]
 ·rw [if_neg h,if_neg h,if_pos hd]
def prt(L:List Int)(i:Nat):List Int:=(L.drop (32 * i)).take 32
theorem zaJ{L:List Int}{m i:Nat}(hL:L.length=32 * m)(hi:i<m):(prt L i).length=32:=by
 unfold prt
 rw [List.length_take,List.length_drop]
 omega
theorem zra{L:List Int}{m i:Nat}(hL:L.length=32 * m)(hi:m<=i):prt L i=[]:=by
 unfold prt
 rw [List.drop_eq_nil_of_le (by omega)]
 rfl
theorem zrb{L:List Int}(hb:Byt L)(i:Nat):Byt (prt L i):=fun x hx=>hb x (List.mem_of_mem_drop (List.mem_of_mem_take hx))
theorem zaB{L:List Int}{i j:Nat}(hj:j<32):(prt L i).getD j 0=L.getD (32 * i+j) 0:=by
 unfold prt
 simp [List.getD,hj]
def zcc(P:Nat->List Int):Nat->List Int
 | 0=>[]
 | m+1=>zcc P m++P m
theorem zhb(L:List Int):∀ m,32 * m<=L.length->zcc (prt L) m=L.take (32 * m)
 | 0,_=>rfl
 | m+1,h=>by
  show zcc (prt L) m++prt L m=_
  rw [zhb L m (by omega)]
  unfold prt
  rw [show 32 * (m+1)=32 * m+32 by omega,List.take_add]
theorem zdF{L:List Int}{m:Nat}(h:L.length=32 * m):zcc (prt L) m=L:=by
 rw [zhb L m (by omega),List.take_of_length_le (by omega)]
theorem zcC{P Q:Nat->List Int}:∀ m,(∀ i,i<m->P i=Q i)->zcc P m=zcc Q m
 | 0,_=>rfl
 | m+1,h=>by
  show zcc P m++P m=zcc Q m++Q m
  rw [zcC m (fun i hi=>h i (by omega)),h m (by omega)]
def qz(K L:List Int)(m:Nat):List Nat:=(List.range m).filter fun i=>decide (prt K i≠prt L i)
theorem zdE{K L:List Int}{m i:Nat}:i∈qz K L m ↔ i<m/\prt K i≠prt L i:=by
 unfold qz
 rw [List.mem_filter,List.mem_range,decide_eq_true_iff]
theorem zy8(K L:List Int)(m:Nat):(qz K L m).Pairwise (·<·):=List.Pairwise.filter _ List.pairwise_lt_range
def dfP(K L:List Int)(m:Nat):List (Int×List Int):=(qz K L m).map fun i:Nat=>((i:Int),prt L i)
theorem zbF(K L:List Int)(m:Nat):(dfP K L m).length=(qz K L m).length:=by unfold dfP;simp
theorem znJ{K L:List Int}{m k:Nat}(hk:k<(dfP K L m).length):∃ i,i∈qz K L m/\(qz K L m)[k]?=some i/\(dfP K L m).getD k (0,[])=((i:Int),prt L i):=by
 rw [zbF] at hk
 refine⟨(qz K L m)[k],List.getElem_mem hk,List.getElem?_eq_getElem hk,?_⟩
 unfold dfP
 simp [List.getD,hk]
theorem zix{K L:List Int}{m:Nat}(hb:Byt L):∀ k,k<(dfP K L m).length->Byt ((dfP K L m).getD k (0,[])).2:=fun k hk=>by
 obtain⟨i,_,_,e⟩:=znJ hk
 rw [e]
 exact zrb hb i
theorem zsZ{K L:List Int}{m:Nat}(hL:L.length=32 * m){k:Nat}(hk:k<(dfP K L m).length):ZM m (dfP K L m) k=0:=by
 obtain⟨i,hi,hi2,e⟩:=znJ hk
 obtain⟨h1,_⟩:=zdE.1 hi
 unfold ZM
 rw [e,if_neg (by dsimp only;omega),if_neg (by dsimp only;rw [zaJ hL h1];decide),if_neg]
 intro h
 obtain⟨j,hj,hje⟩:=List.any_eq_true.1 h
 have hjk:=List.mem_range.1 hj
 obtain⟨i',hi',hi2',e'⟩:=znJ (K:=K) (L:=L) (m:=m) (k:=j) (by omega)
 rw [e'] at hje
 have:(i':Int)=(i:Int):=by simpa using hje
 have h2:i'=i:=by omega
 subst h2
 obtain⟨q1,q2⟩:=List.getElem?_eq_some_iff.1 hi2
 obtain⟨q3,q4⟩:=List.getElem?_eq_some_iff.1 hi2'
 have:=List.pairwise_iff_getElem.1 (zy8 K L m) j k q3 q1 hjk
 omega
theorem zs0{K L:List Int}{m:Nat}(hL:L.length=32 * m):∀ n,n<=(dfP K L m).length->zeL m (dfP K L m) n=0
 | 0,_=>rfl
 | n+1,h=>by
  show(if zeL m (dfP K L m) n=0 then ZM m (dfP K L m) n else zeL m (dfP K L m) n)=0
  rw [if_pos (zs0 hL n (by omega))]
  exact zsZ hL (by omega)
theorem QQ{K L:List Int}{m:Nat}(hL:L.length=32 * m):zZ m (dfP K L m)=if 23<(qz K L m).length then 4 else 0:=by
 unfold zZ
 rw [zbF]
 by_cases h:23<(qz K L m).length
 ·rw [if_pos h,if_pos h]
 ·rw [if_neg h,if_neg h,<- zbF]
  exact zs0 hL _ (Nat.le_refl _)
theorem zhy{K L:List Int}{m:Nat}(hK:K.length=32 * m)(hL:L.length=32 * m):upd (prt K) (dfP K L m)=prt L:=by
 funext i
 by_cases hi:i∈qz K L m
 ·unfold upd
  cases hf:(dfP K L m).find? (fun q=>q.1 == (i:Int)) with
  | none =>
   have:=List.find?_eq_none.1 hf ((i:Int),prt L i) (List.mem_map.2 ⟨i,hi,rfl⟩)
   simp at this
  | some q =>
   have h1:=List.find?_some hf
   have h2:=List.mem_of_find?_eq_some hf
   obtain⟨j,hj,rfl⟩:=List.mem_map.1 h2
   have:(j:Int)=(i:Int):=by simpa using h1
   have e:j=i:=by omega
   rw [e]
 ·rw [zaW (fun h=>by
   obtain⟨q,hq,e⟩:=List.mem_map.1 h
   obtain⟨j,hj,rfl⟩:=List.mem_map.1 hq
   have e':(j:Int)=(i:Int):=e
   have e2:j=i:=by omega
   exact hi (e2 ▸ hj))]
  by_cases hm:i<m
  ·exact Classical.byContradiction fun hne=>hi (zdE.2 ⟨hm,hne⟩)
  ·rw [zra hK (by omega),zra hL (by omega)]
theorem zch{K L:List Int}{m:Nat}(hK:K.length=32 * m)(hL:L.length=32 * m):dfP K L m=[] ↔ K=L:=by
 constructor
 ·intro h
  have h0:qz K L m=[]:=List.map_eq_nil_iff.1 h
  rw [<- zdF hK,<- zdF hL]
  refine zcC m (fun i hi=>Classical.byContradiction fun hne=>?_)
  have:=zdE.2 ⟨hi,hne⟩
  rw [h0] at this
  cases this
 ·rintro rfl
  unfold dfP qz
  rw [List.map_eq_nil_iff,List.filter_eq_nil_iff]
  intro i _
  simp
theorem zhj{p:Nat->Bool}{F:Nat}:∀ n,(∀ i,F<=i->i<n->p i=false)->((List.range n).filter p).length<=min n F
 | 0,_=>by simp
 | n+1,h=>by
  have ih:=zhj n (fun i h1 h2=>h i h1 (by omega))
  rw [List.range_succ,List.filter_append,List.length_append]
  by_cases e:n<F
  ·have:([n].filter p).length<=1:=List.length_filter_le _ _
   omega
  ·have:([n].filter p).length=0:=by simp [h n (by omega) (by omega)]
   omega
theorem zvR{K L:List Int}{m:Nat}{F:Nat}(h:∀ i,F<=i->i<m->prt K i=prt L i):(qz K L m).length<=F:=by
 have:=zhj (p:=fun i=>decide (prt K i≠prt L i)) (F:=F) m (fun i h1 h2=>by simp [h i h1 h2])
 unfold qz
 omega
section
variable {D:DS} {m:Nat} {s:Int} {K L:List Int} {a:Nat} {nl:List Int}
theorem Neat.img{E:DS}{P:Nat->List Int}(h:Neat D m s P a nl)(ok:E.Ok)(mem:E.mem=[])(down:E.down=false)(len:E.secs.length=D.secs.length)(hi:∀ k,E.secs.getD k []=D.secs.getD k []):Neat E m s P a nl :=
 ⟨ok,mem,down,by rw [len];exact h.len,h.lt,h.two,h.even,h.s1,h.s2,by rw [hi];exact h.got,fun k hk=>by rw [hi];exact h.redo k hk,fun i hL=>by rw [hi];exact h.pages i hL,by rw [hi];exact h.other,by rw [hi];exact h.differs,by rw [hi];exact h.less⟩
def qU(D:DS)(m:Nat):DS×Int:=Qr (wsF (D,0) (fun i=>(48+(i:Int),zerosB 32)) m)
theorem zpL(h:Neat D m s (fun _=>zerosB 32) a nl)(hl:D.left<0):(qU D m).2=0/\Neat (qU D m).1 m s (fun _=>zerosB 32) a nl/\(qU D m).1.secs.length=D.secs.length/\(qU D m).1.left<0:=by
 have hlen:=h.len
 have r0:Run (fun k=>48<=k/\k<48+m) (img D) D.secs.length (D,0):=⟨h.ok,Qh h.mem _,rfl,.inl ⟨rfl,h.down⟩⟩
 have r1:=r0.ws (f:=fun i=>(48+(i:Int),zerosB 32)) m (fun j hj=>⟨by dsimp only;omega,by dsimp only;omega,za2,by dsimp only;omega,by dsimp only;omega⟩)
 have r2:=r1.f
 have ev:Ever (qU D m):=(Ever.ws (x:=(D,0)) ⟨hl,fun _=>h.down,by show(0:Int)≠9;decide⟩ _ _).f
 have e0:(qU D m).2=0:=by
  rcases r2.err with ⟨e,_⟩ | e
  ·exact e
  ·exact absurd e ev.2.2
 obtain⟨f1,f2,f3⟩:=qq (x:=wsF (D,0) (fun i=>(48+(i:Int),zerosB 32)) m) e0
 obtain⟨_,g2,g3⟩:=zfd m f1 (fun i j _ _ _=>rfl)
 have hfl:=fun k=>zN r1.ok f2 k
 have hmem:(qU D m).1.mem=[]:=by show(Qr _).1.mem=[];rw [f3];exact(hfl 0).2.1
 have hdown:(qU D m).1.down=false:=by show(Qr _).1.down=false;rw [f3];exact(hfl 0).2.2
 have hi:∀ k,(qU D m).1.secs.getD k []=D.secs.getD k []:=fun k=>by
  show(Qr _).1.secs.getD k []=_
  rw [f3,(hfl k).1]
  by_cases hk:48<=k/\k<48+m
  ·have:=g2 (k-48) (by omega)
   dsimp only at this
   rw [show(48+((k-48:Nat):Int)).toNat=k by omega] at this
   rw [this]
   have hp:=h.pages (k-48) (by omega)
   rw [show 48+(k-48)=k by omega] at hp
   exact hp.symm
  ·rw [g3 k (fun j hj e=>hk (by dsimp only at e;omega))]
   unfold DS.rd
   rw [h.mem]
   rfl
 exact⟨e0,h.img r2.ok hmem hdown r2.len hi,r2.len,ev.1⟩
end
theorem zhr{x:DS×Int}(h:x.2≠0)(i:Int)(b:List Int):Qq x i b=x:=by unfold Qq;rw [if_neg h]
theorem QS{x:DS×Int}(h:x.2≠0):Qr x=x:=by unfold Qr;rw [if_neg h]
theorem zfc{x:DS×Int}(h:x.2≠0)(f:Nat->Int×List Int):∀ m,wsF x f m=x
 | 0=>rfl
 | m+1=>by
  show Qq (wsF x f m) _ _=x
  rw [zfc h f m,zhr h]
theorem zdf{x:DS×Int}{f:Nat->Int×List Int}{k:Nat}(h:(wsF x f k).2≠0):∀ m,k<=m->wsF x f m=wsF x f k
 | 0,hm=>by rw [show k=0 by omega]
 | m+1,hm=>by
  by_cases e:k=m+1
  ·rw [e]
  ·show Qq (wsF x f m) _ _=_
   rw [zdf h m (by omega),zhr h]
theorem ziK{x:DS×Int}(h:x.2=0)(i:Int)(b:List Int):Qq x i b=(x.1.write i b,x.1.writeE i b):=by unfold Qq;rw [if_pos h]
theorem ziL{x:DS×Int}(h:x.2=0):Qr x=(x.1.doFlush,x.1.flushE):=by unfold Qr;rw [if_pos h]
theorem zrg{x:DS×Int}(h:x.2=0):x=(x.1,0):=by rw [<- h]
theorem ztG{D:DS}{f:Nat->Int×List Int}(hd:D.down=true){m:Nat}(hm:0<m)(h1:0<=(f 0).1)(h2:(f 0).1<D.secs.length)(h3:(f 0).2.length=32):wsF (D,0) f m=(D,9):=by
 have e:wsF (D,0) f 1=(D,9):=by
  show Qq (D,0) _ _=_
  rw [ziK rfl]
  show(D.write _ _,D.writeE _ _)=_
  have e1:D.write (f 0).1 (f 0).2=D:=by unfold DS.write;rw [if_pos (.inr (.inr (.inr hd)))]
  have e2:D.writeE (f 0).1 (f 0).2=9:=by
   unfold DS.writeE
   rw [if_neg (by omega),if_neg (by omega),if_pos hd]
  rw [e1,e2]
 rw [zdf (k:=1) (by rw [e];show(9:Int)≠0;decide) m hm,e]
theorem ziA{D:DS}{s:Int}{L:Nat}{l:List (Int×List Int)}(hv:zZ L l=0)(hl:l≠[])(hL:48<=D.secs.length)(hs:(s+1) % 2=0\/(s+1) % 2=1) :
  zc D s L l=((zi D s l).1,if (zi D s l).2=0 then s+1 else s,(zi D s l).2):=by
 unfold zc
 rw [if_neg (by rw [hv];exact fun h=>h rfl)]
 by_cases hd:D.down=true
 ·rw [if_pos hd]
  have hval:=zbk hv
  have hlen:=hval.len
  have hpos:0<l.length:=by cases l with | nil=>exact absurd rfl hl | cons _ _=>simp
  have hb:=hval.body 0 hpos
  have e1:zE D ((s+1) % 2) l=(D,9):=by
   unfold zE
   rw [ztG hd hpos (by dsimp only;omega) (by dsimp only;omega) hb]
   exact QS (by show(9:Int)≠0;decide)
  have e2:zA (D,9) ((s+1) % 2) (s+1) l=(D,9):=by
   unfold zA
   rw [if_neg (by show ¬ (9:Int)=0;decide)]
   exact QS (by show(9:Int)≠0;decide)
  have e3:zi D s l=(D,9):=by
   unfold zi
   rw [e1,e2]
   unfold QM
   rw [zfc (by show(9:Int)≠0;decide)]
   exact QS (by show(9:Int)≠0;decide)
  rw [e3]
  rfl
 ·rw [if_neg hd,if_neg hl]
theorem zlT(n:Int)(h0:0<=n)(h1:n<=4294967296):bits .and .i64 n 1=n % 2:=by
 obtain⟨N,rfl⟩:=Int.eq_ofNat_of_zero_le h0
 have h2:N &&& 1=N % 2:=Nat.and_one_is_mod N
 show IntKind.i64.wrap ((BitVec.ofInt 64 (N:Int) &&& BitVec.ofInt 64 ((1:Nat):Int)).toNat:Int)=_
 rw [BitVec.toNat_and,ofInt_u64 N (by omega),ofInt_u64 1 (by omega),IntKind.wrap_i64,h2]
 omega
structure Rdy (D:DS) (L:Nat) (s:Int) (P:Nat->List Int):Prop where
 ok:D.Ok
 mem:D.mem=[]
 down:D.down=false
 len:48+L<=D.secs.length
 lt:L<=200
 s2:s<=10000
 rb:Rb L (img D) s P
section
variable {D E:DS} {L:Nat} {s:Int} {P:Nat->List Int} {a:Nat} {nl:List Int}
theorem Rdy.ready(h:Rdy D L s P):Ready D L s P :=
 ⟨h.ok,h.mem,h.down,h.len,h.rb.again ⟨(zU h.ok.sec (by have:=h.len;omega)).2,(zU h.ok.sec (by have:=h.len;omega)).2⟩⟩
theorem Nt.rdy(h:Nt D L s P a nl):Rdy D L s P:=⟨h.ok,h.mem,h.down,h.len,h.lt,h.s2,a,nl,h.two,h.even,h.got,h.bk,by have:=h.s1;omega,h.redo,fun i hi _=>h.pages i hi⟩
theorem Nt.fail(h:Nt D L s P a nl){f:Int}(hf:-9223372036854775808<=f/\f<=9223372036854775807):Nt { D with left:=f } L s P a nl :=
 ⟨h.ok.fail hf,h.mem,h.down,h.len,h.lt,h.two,h.even,h.s1,h.s2,h.got,h.redo,h.pages,h.bk⟩
theorem zb1(hok:D.Ok)(hlen:48+L<=D.secs.length)(hL:L<=200)(hs:s<=10000)(keep:List Bool)(zR:Int)(c:Nat)(hr:Rb L (img (D.crash keep zR c)) s P):Rdy (D.crash keep zR c) L s P :=
 ⟨hok.crash keep zR c,rfl,rfl,by show 48+L<=(qE _ _ _ _ _ _).length;rw [Qx];exact hlen,hL,hs,hr⟩
theorem Rdy.crash(h:Rdy D L s P)(keep:List Bool)(zR:Int)(c:Nat):Rdy (D.crash keep zR c) L s P :=
 zb1 h.ok h.len h.lt h.s2 keep zR c (by rw [zam h.mem];exact h.rb)
theorem Nt.opened(h:Rb L (img D) s P)(hD:D.Ok)(hlen:48+L<=D.secs.length)(hL:L<=200)(hs:s<=10000)(ho:Opened D E L P):∃ a l,Nt E L s P a l:=by
 obtain⟨a,l,h1,h2,h3,h4,h5,h6,h7⟩:=h
 have hf:=qg (zU hD.sec (show a<D.secs.length by omega)).2 h3
 have low:∀ k,k<48->E.secs.getD k []=D.secs.getD k []:=ho.low
 refine⟨a,l,ho.ok,ho.mem,ho.down,by rw [ho.len];exact hlen,hL,h1,h2,by omega,hs,?_,fun k hk=>?_,ho.pages,?_⟩
 ·rw [low a (by omega)];exact h3
 ·rw [low _ (by have:=hf.2.1;omega)];exact h6 k hk
 ·rw [low (1-a) (by omega)];exact h4
theorem zeR(h:Rdy D L s P) :
  ((qs D L).2.2=0/\(qs D L).2.1=s/\Opened D (qs D L).1 L P/\(∃ a l,Nt (qs D L).1 L s P a l)/\(D.left<0->(qs D L).1.left<0)) \/
  ((qs D L).2.2=9/\¬ D.left<0/\(qs D L).1.Ok/\(qs D L).1.secs.length=D.secs.length/\∀ keep zR c,c<=32->Rdy ((qs D L).1.crash keep zR c) L s P):=by
 rcases zeb h.ready with ⟨r1,r2,r3,r4,r5⟩ | ⟨r1,r2,r3,r4,r5⟩
 ·exact .inl ⟨r1,r2,r3,Nt.opened h.rb h.ok h.len h.lt h.s2 r3,r5⟩
 ·right
  obtain⟨a,l,h2,hev,hg,hbk,hs,hredo,hpages⟩:=h.rb
  have hlen:=h.len
  have hby:Byt (img D (1-a)):=(zU h.ok.sec (show 1-a<D.secs.length by omega)).2
  have hf:=qg (zU h.ok.sec (show a<D.secs.length by omega)).2 hg
  have hb:=ztm h2 hg (hbk.less hby) hs
  have e0:qs D L=((qc D a l).1,if (qc D a l).2=0 then s else 0,(qc D a l).2):=by
   unfold qs
   rw [zaz h.mem,zaz h.mem,hb,if_neg (by rw [h.down];exact Bool.false_ne_true),if_neg (show ¬ s=0 by omega)]
  have hnum:=hf.2.2.1
  have hl:=hf.2.1
  have r0:Run (fun k=>∃ j,j<l.length/\(k:Int)=48+l.getD j 0) (img D) D.secs.length (D,0):=⟨h.ok,Qh h.mem _,rfl,.inl ⟨rfl,h.down⟩⟩
  have r1':=r0.ws (f:=fun i=>(48+l.getD i 0,D.rd (2+23 * a+i))) l.length (fun j hj=>by
   have hn:=hnum _ (ZT hj)
   refine⟨?_,?_,h.ok.rd (by omega),j,hj,?_⟩ <;> (dsimp only;omega))
  have rr:Run (fun k=>∃ j,j<l.length/\(k:Int)=48+l.getD j 0) (img D) D.secs.length (qc D a l):=r1'.f
  have hlen2:(qs D L).1.secs.length=D.secs.length:=by rw [e0];exact rr.len
  refine⟨r1,r2,r3,hlen2,fun keep zR c hc=>zb1 r3 (by rw [hlen2];exact hlen) h.lt h.s2 keep zR c ?_⟩
  have hp:=zcH r3 keep zR c hc
  rw [e0] at hp ⊢
  have e:∀ k:Nat,¬ (∃ j,j<l.length/\(k:Int)=48+l.getD j 0)->img ((qc D a l).1.crash keep zR c) k=img D k:=fun k hk=>rr.only.poss hk (hp k)
  have low:∀ k:Nat,k<48->img ((qc D a l).1.crash keep zR c) k=img D k:=fun k hk=>e k (fun⟨j,hj,hk2⟩=>by have:=hnum _ (ZT hj);omega)
  refine⟨a,l,h2,hev,?_,?_,hs,fun k hk=>?_,fun i hi hin=>?_⟩
  ·rw [low a (by omega)];exact hg
  ·rw [low (1-a) (by omega)];exact hbk
  ·rw [low _ (by omega)];exact hredo k hk
  ·rw [e (48+i) (fun⟨j,hj,hk2⟩=>hin (by
    have:=ZT hj
    rwa [show l.getD j 0=(i:Int) by omega] at this))]
   exact hpages i hi hin
end
def Gn(x:DS×Int):Prop:=x.2=9->x.1.down=true
theorem Gn.w{x:DS×Int}(h:Gn x)(i:Int)(b:List Int):Gn (Qq x i b):=by
 unfold Qq
 by_cases h0:x.2=0
 ·rw [if_pos h0]
  intro h9
  have h9':x.1.writeE i b=9:=h9
  show(x.1.write i b).down=true
  unfold DS.writeE at h9'
  by_cases c1:i<0\/(x.1.secs.length:Int)<=i
  ·rw [if_pos c1] at h9';cases h9'
  ·rw [if_neg c1] at h9'
   by_cases c2:b.length≠32
   ·rw [if_pos c2] at h9';cases h9'
   ·rw [if_neg c2] at h9'
    unfold DS.write
    by_cases c3:x.1.down=true
    ·rw [if_pos (.inr (.inr (.inr c3)))];exact c3
    ·rw [if_neg c3] at h9'
     rw [if_neg (fun hc=>by
      rcases hc with hc | hc | hc | hc
      ·exact c1 (.inl hc)
      ·exact c1 (.inr hc)
      ·exact c2 hc
      ·exact c3 hc)]
     by_cases c4:x.1.left=0
     ·unfold DS.step
      rw [if_pos (show(x.1.put i.toNat b).left=0 from c4)]
     ·rw [if_neg c4] at h9';cases h9'
 ·rw [if_neg h0];exact h
theorem Gn.f{x:DS×Int}(h:Gn x):Gn (Qr x):=by
 unfold Qr
 by_cases h0:x.2=0
 ·rw [if_pos h0]
  intro h9
  have h9':x.1.flushE=9:=h9
  show x.1.doFlush.down=true
  unfold DS.flushE at h9'
  unfold DS.doFlush
  by_cases c3:x.1.down=true
  ·rw [if_pos c3];exact c3
  ·rw [if_neg c3] at h9' ⊢
   by_cases c4:x.1.left=0
   ·rw [if_pos c4]
   ·rw [if_neg c4] at h9';cases h9'
 ·rw [if_neg h0];exact h
theorem Gn.ws{x:DS×Int}(h:Gn x)(f:Nat->Int×List Int):∀ n,Gn (wsF x f n)
 | 0=>h
 | n+1=>(Gn.ws h f n).w _ _
theorem zsr{D:DS}{s:Int}{l:List (Int×List Int)}:Gn (zi D s l):=by
 unfold zi QM
 refine(Gn.ws ?_ _ _).f
 unfold zA
 refine Gn.f ?_
 have hA:Gn (zE D ((s+1) % 2) l):=by
  unfold zE
  exact(Gn.ws (show Gn (D,0) from fun h=>by cases h) _ _).f
 by_cases h0:(zE D ((s+1) % 2) l).2=0
 ·rw [if_pos h0]
  by_cases h1:(qO (s+1) (qm l)).2=0
  ·rw [if_pos h1];exact hA.w _ _
  ·rw [if_neg h1]
   intro h9
   exact absurd h9 (zg8 _ _)
 ·rw [if_neg h0];exact hA
section
variable {D:DS} {m:Nat} {s:Int} {K L:List Int} {a:Nat} {nl:List Int}
theorem zaj(h:Nt D m s (prt K) a nl)(hs9:s<=9999)(hK:K.length=32 * m)(hL:L.length=32 * m)(hb:Byt L) :
  (23<(qz K L m).length/\zc D s m (dfP K L m)=(D,s,4))\/(K=L/\zc D s m (dfP K L m)=(D,s,0)) \/
  (K≠L/\(qz K L m).length<=23/\(zc D s m (dfP K L m)).2=(s+1,0)/\(∃ a' nl',Nt (zc D s m (dfP K L m)).1 m (s+1) (prt L) a' nl')/\zc D s m (dfP K L m)=((zi D s (dfP K L m)).1,s+1,0)/\(zi D s (dfP K L m)).2=0) \/
  (K≠L/\(qz K L m).length<=23/\(zc D s m (dfP K L m)).2=(s,9)/\(zc D s m (dfP K L m)).1.Ok/\(zc D s m (dfP K L m)).1.secs.length=D.secs.length/\(zc D s m (dfP K L m)).1.down=true/\(zi D s (dfP K L m)).2=9 /\
   ∀ keep zR c,c<=32->Rdy ((zc D s m (dfP K L m)).1.crash keep zR c) m s (prt K)\/Rdy ((zc D s m (dfP K L m)).1.crash keep zR c) m (s+1) (prt L)):=by
 have hce:=QQ (K:=K) hL
 have hlen:=h.len
 by_cases h23:23<(qz K L m).length
 ·left
  refine⟨h23,?_⟩
  unfold zc
  rw [hce,if_pos h23,if_pos (by decide)]
 ·rw [if_neg h23] at hce
  by_cases hKL:K=L
  ·right;left
   refine⟨hKL,?_⟩
   have hnil:=(zch hK hL).2 hKL
   unfold zc
   rw [hce,if_neg (by decide),if_neg (by rw [h.down];exact Bool.false_ne_true),if_pos hnil]
  ·right;right
   have hne:dfP K L m≠[]:=fun e=>hKL ((zch hK hL).1 e)
   have hv:=zbk hce
   have e:zc D s m (dfP K L m)=((zi D s (dfP K L m)).1,if (zi D s (dfP K L m)).2=0 then s+1 else s,(zi D s (dfP K L m)).2):=by
    unfold zc
    rw [hce,if_neg (by decide),if_neg (by rw [h.down];exact Bool.false_ne_true),if_neg hne]
   rcases zgh h hs9 hv (zix hb) with ⟨r1,r2,r3⟩ | ⟨r1,r2,r3,r4⟩
   ·left
    rw [zhy hK hL] at r2
    rw [e,r1,if_pos rfl]
    exact⟨hKL,by omega,rfl,⟨_,_,r2⟩,rfl,rfl⟩
   ·right
    rw [e,r1,if_neg (by decide)]
    refine⟨hKL,by omega,rfl,r2,r3,zsr r1,rfl,fun keep zR c hc=>?_⟩
    have hlen':48+m<=(zi D s (dfP K L m)).1.secs.length:=by rw [r3];exact hlen
    rcases r4 _ (zcH r2 keep zR c hc) with h5 | h5
    ·exact .inl (zb1 r2 hlen' h.lt h.s2 keep zR c h5)
    ·rw [zhy hK hL] at h5
     exact .inr (zb1 r2 hlen' h.lt (by omega) keep zR c h5)
theorem zrs{n:Nat}(h1:48<n)(h2:n<=300)(hm:48+m<=n)(hm2:m<=200):Nt (zD (DS.new n)).1 m 2 (fun _=>zerosB 32) 0 []:=by
 obtain⟨f1,f2,f3⟩:=zbb n h1 h2 m hm hm2
 refine⟨f2.ok,f2.mem,f2.down,f2.len,f2.lt,f2.two,f2.even,f2.s1,by omega,f2.got,f2.redo,f2.pages,?_⟩
 have hlen:(DS.new n).secs.length=n:=by simp [DS.new]
 have r0:Run (fun k=>k=0\/k=1) (Go.Proofs.YtchmlnmhbfaclaaGreatDoor.img (DS.new n)) n (DS.new n,0):=⟨DS.ok_new n h2,Qh rfl _,hlen,.inl ⟨rfl,rfl⟩⟩
 have r1:=r0.w (i:=0) (b:=qQ 2 []) (by omega) (by omega) zfu (.inl rfl)
 have r2:=r1.w (i:=1) (b:=zerosB 32) (by omega) (by omega) za2 (.inr rfl)
 have hz:=f1
 unfold zD at hz
 obtain⟨g1,g2,g3⟩:=qq hz
 obtain⟨k1,k2,k3⟩:=QE g1
 have e:(zD (DS.new n)).1.secs.getD (1-0) []=zerosB 32:=by
  unfold zD
  rw [g3,(zN r2.ok g2 _).1,k3,zbv k2,if_pos (by decide)]
 rw [e]
 unfold Bk
 decide
end
def wl(D:DS)(q:Int):DS:={ D with left:=q }
section
variable {D:DS} {q:Int}
end
end Go.Proofs.YtchmlnmhbfaclaaGreatDoor
