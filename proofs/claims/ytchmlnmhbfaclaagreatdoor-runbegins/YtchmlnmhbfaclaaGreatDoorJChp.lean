/-
  Parts of the proofs, joined by program.
-/
import Derived.Test.YtchmlnmhbfaclaaGreatDoorJImp
namespace Go.Proofs.YtchmlnmhbfaclaaGreatDoor
open Go.RowKit
set_option linter.unusedVariables false
def okE(b:List Int)(h:Int):Bool:=decide (zg b h≠0) && decide (Za b (ze b h)=0)
def ziT(e f:(Int×Int×Int×Int)):Bool:=decide (e.2.1<f.2.1+f.2.2.1) && decide (f.2.1<e.2.1+e.2.2.1)
def zif(b:List Int)(h:Int):Nat->Bool
 | 0=>false
 | k+1=>zif b h k || (okE b ((k:Int)+1) && ziT (ze b h) (ze b ((k:Int)+1)))
theorem zcA{b:List Int}{h:Int}:∀ {k:Nat},zif b h k=true ↔ ∃ j:Nat,j<k/\okE b ((j:Int)+1)=true/\ziT (ze b h) (ze b ((j:Int)+1))=true
 | 0=>by simp [zif]
 | k+1=>by
  unfold zif
  rw [Bool.or_eq_true,Bool.and_eq_true,zcA]
  constructor
  ·rintro (⟨j,h1,h2⟩ | h2)
   ·exact⟨j,by omega,h2⟩
   ·exact⟨k,by omega,h2⟩
  ·rintro ⟨j,h1,h2⟩
   by_cases e:j=k
   ·subst e;exact .inr h2
   ·exact .inl ⟨j,by omega,h2⟩
def whE(b:List Int)(h:Int):Int:=if zg b h=0 then 0 else if Za b (ze b h)≠0 then 3 else if zif b h (h-1).toNat=true then 2 else 1
def Qo(b:List Int)(h:Int):List (Int×Int) :=
 if whE b h=0 then (if (ze b h).2.1=0/\(ze b h).2.2.1=0 then [] else [(3,h)]) else if whE b h=3 then [(1,h)] else if whE b h=2 then [(2,h)] else []
def hFK(b:List Int):Nat->List (Int×Int)
 | 0=>[]
 | k+1=>hFK b k++Qo b ((k:Int)+1)
def ziJ(b:List Int)(i:Nat):Bool :=
 decide ((zG ((rowAt b i).take 8)).2≠0) || (decide ((rowAt b i).getD 8 0≠0) || (decide ((rowAt b i).getD 9 0≠0) || (!zaT ((rowAt b i).getD 10 0) || decide (whE b ((rowAt b i).getD 10 0)≠1))))
def nameAt(b:List Int)(i:Nat):ByteArray:=(zG ((rowAt b i).take 8)).1
def qY(b:List Int)(i:Nat)(ns:List ByteArray):Bool:=zj (rowAt b i) && (!ziJ b i && !ns.contains (nameAt b i))
def qZ(b:List Int):Nat->List ByteArray
 | 0=>[]
 | k+1=>qZ b k++if qY b k (qZ b k)=true then [nameAt b k] else []
def qN(b:List Int)(i:Nat):List (Int×Int) :=
 if zj (rowAt b i)=false then [] else if ziJ b i=true then [(4,i)] else if (qZ b i).contains (nameAt b i)=true then [(5,i)] else []
def rFK(b:List Int):Nat->List (Int×Int)
 | 0=>[]
 | k+1=>rFK b k++qN b k
def qd(b:List Int):List (Int×Int):=hFK b 40++rFK b 8
theorem zaM{b:List Int}{f:Int×Int}:∀ {k:Nat},f∈hFK b k ↔ ∃ j:Nat,j<k/\f∈Qo b ((j:Int)+1)
 | 0=>by simp [hFK]
 | k+1=>by
  unfold hFK
  rw [List.mem_append,zaM]
  constructor
  ·rintro (⟨j,h1,h2⟩ | h2)
   ·exact⟨j,by omega,h2⟩
   ·exact⟨k,by omega,h2⟩
  ·rintro ⟨j,h1,h2⟩
   by_cases e:j=k
   ·subst e;exact .inr h2
   ·exact .inl ⟨j,by omega,h2⟩
theorem zaL{b:List Int}{f:Int×Int}:∀ {k:Nat},f∈rFK b k ↔ ∃ j:Nat,j<k/\f∈qN b j
 | 0=>by simp [rFK]
 | k+1=>by
  unfold rFK
  rw [List.mem_append,zaL]
  constructor
  ·rintro (⟨j,h1,h2⟩ | h2)
   ·exact⟨j,by omega,h2⟩
   ·exact⟨k,by omega,h2⟩
  ·rintro ⟨j,h1,h2⟩
   by_cases e:j=k
   ·subst e;exact .inr h2
   ·exact .inl ⟨j,by omega,h2⟩
theorem zpc(b:List Int)(h:Int):(Qo b h).length<=1:=by
 unfold Qo
 repeat' split
 all_goals simp
theorem zoE(b:List Int)(i:Nat):(qN b i).length<=1:=by
 unfold qN
 repeat' split
 all_goals simp
theorem zf1(b:List Int)(k:Nat):(hFK b k).length<=k:=by
 induction k with
 | zero=>exact Nat.le_refl _
 | succ k ih=>unfold hFK;rw [List.length_append];have:=zpc b ((k:Int)+1);omega
theorem zfB(b:List Int)(k:Nat):(rFK b k).length<=k:=by
 induction k with
 | zero=>exact Nat.le_refl _
 | succ k ih=>unfold rFK;rw [List.length_append];have:=zoE b k;omega
theorem zcn(n j:Nat):(zerosB n).getD j 0=0:=by
 have:=zaU n 0 j
 rwa [List.drop_zero] at this
section
variable {b:List Int}
theorem zc9{h:Int}{f:Int×Int}(h1:1<=h)(h2:h<=40)(hf:f∈Qo b h):f∈qd b:=by
 unfold qd
 refine List.mem_append.2 (.inl (zaM.2 ⟨(h-1).toNat,by omega,?_⟩))
 rw [show(((h-1).toNat:Nat):Int)+1=h by omega]
 exact hf
theorem zc8{i:Nat}{f:Int×Int}(hi:i<8)(hf:f∈qN b i):f∈qd b:=by
 unfold qd
 exact List.mem_append.2 (.inr (zaL.2 ⟨i,hi,hf⟩))
theorem zeo{c:List Int}{h:Int}(hlen:c.length=b.length)(hb:288<=b.length)(h1:1<=h)(h2:h<=40)(hs:∀ j,j<5->c.getD (plc h+j) 0=b.getD (plc h+j) 0):zg c h=zg b h/\ze c h=ze b h:=by
 have hp:=qx h1 h2
 have e0:=hs 0 (by omega)
 rw [Nat.add_zero] at e0
 have ht:zg c h=zg b h:=e0
 refine⟨ht,?_⟩
 unfold ze
 rw [ht,qL _ _ (by omega),qL _ _ (by omega),qL b _ (by omega),qL b _ (by omega)]
 have e1:=hs 1 (by omega)
 have e2:=hs 2 (by omega)
 have e3:=hs 3 (by omega)
 have e4:=hs 4 (by omega)
 rw [e1,show plc h+1+1=plc h+2 by omega,e2,e3,show plc h+3+1=plc h+4 by omega,e4]
theorem QZ{c:List Int}{e:(Int×Int×Int×Int)}(hlen:c.length=b.length):Za c e=Za b e:=by unfold Za;rw [hlen]
theorem zhw(b:List Int)(h:Int):whE b h=0\/whE b h=1\/whE b h=2\/whE b h=3:=by
 unfold whE
 repeat' split
 all_goals simp
theorem zcR{h:Int}:whE b h=0 ↔ zg b h=0:=by
 unfold whE
 by_cases h0:zg b h=0
 ·rw [if_pos h0];simp [h0]
 ·rw [if_neg h0]
  constructor
  ·intro h
   repeat' split at h
   all_goals cases h
  ·intro h;exact absurd h h0
theorem qD{h:Int}:Qo b h=[] ↔ (whE b h=1\/(zg b h=0/\(ze b h).2.1=0/\(ze b h).2.2.1=0)):=by
 unfold Qo
 rcases zhw b h with h0 | h0 | h0 | h0
 ·rw [if_pos h0]
  have ht:=zcR.1 h0
  by_cases h1:(ze b h).2.1=0/\(ze b h).2.2.1=0
  ·rw [if_pos h1];exact⟨fun _=>.inr ⟨ht,h1⟩,fun _=>rfl⟩
  ·rw [if_neg h1]
   constructor
   ·intro h;cases h
   ·rintro (h | h)
    ·omega
    ·exact absurd h.2 h1
 ·rw [if_neg (by omega),if_neg (by omega),if_neg (by omega)]
  exact⟨fun _=>.inl h0,fun _=>rfl⟩
 ·rw [if_neg (by omega),if_neg (by omega),if_pos h0]
  have ht:zg b h≠0:=fun e=>by have:=zcR.2 e;omega
  constructor
  ·intro h;cases h
  ·rintro (h | h)
   ·omega
   ·exact absurd h.1 ht
 ·rw [if_neg (by omega),if_pos h0]
  have ht:zg b h≠0:=fun e=>by have:=zcR.2 e;omega
  constructor
  ·intro h;cases h
  ·rintro (h | h)
   ·omega
   ·exact absurd h.1 ht
theorem zav{h:Int}:whE b h=1 ↔ zg b h≠0/\Za b (ze b h)=0/\zif b h (h-1).toNat=false:=by
 unfold whE
 by_cases h0:zg b h=0
 ·rw [if_pos h0];simp [h0]
 ·rw [if_neg h0]
  by_cases h1:Za b (ze b h)≠0
  ·rw [if_pos h1]
   constructor
   ·intro h;cases h
   ·rintro ⟨_,h,_⟩;exact absurd h h1
  ·rw [if_neg h1]
   have h1':Za b (ze b h)=0:=by simpa using h1
   by_cases h2:zif b h (h-1).toNat=true
   ·rw [if_pos h2]
    constructor
    ·intro h;cases h
    ·rintro ⟨_,_,h⟩;rw [h2] at h;cases h
   ·rw [if_neg h2]
    exact⟨fun _=>⟨h0,h1',by simpa using h2⟩,fun _=>rfl⟩
theorem ze4{c:List Int}{h:Int}(hb:288<=c.length)(h1:1<=h)(h2:h<=40)(hz:∀ j,j<5->c.getD (plc h+j) 0=0):zg c h=0/\(ze c h).2.1=0/\(ze c h).2.2.1=0:=by
 have hp:=qx h1 h2
 have e0:=hz 0 (by omega)
 rw [Nat.add_zero] at e0
 have e1:=hz 1 (by omega)
 have e2:=hz 2 (by omega)
 have e3:=hz 3 (by omega)
 have e4:=hz 4 (by omega)
 refine⟨e0,?_,?_⟩
 ·show Qj c (plc h+1) 2=0
  rw [qL _ _ (by omega),e1,show plc h+1+1=plc h+2 by omega,e2];rfl
 ·show Qj c (plc h+3) 2=0
  rw [qL _ _ (by omega),e3,show plc h+3+1=plc h+4 by omega,e4];rfl
theorem Zu{i:Nat}:ziJ b i=false ↔ (zG ((rowAt b i).take 8)).2=0/\(rowAt b i).getD 8 0=0/\(rowAt b i).getD 9 0=0/\zaT ((rowAt b i).getD 10 0)=true/\whE b ((rowAt b i).getD 10 0)=1:=by
 unfold ziJ
 rw [Bool.or_eq_false_iff,Bool.or_eq_false_iff,Bool.or_eq_false_iff,Bool.or_eq_false_iff,decide_eq_false_iff_not,decide_eq_false_iff_not,decide_eq_false_iff_not,decide_eq_false_iff_not,Decidable.not_not,Decidable.not_not,Decidable.not_not,Decidable.not_not,Bool.not_eq_false']
theorem qy{i:Nat}:qN b i=[] ↔ zj (rowAt b i)=false\/qY b i (qZ b i)=true:=by
 unfold qN qY
 cases hr:zj (rowAt b i) with
 | false=>simp
 | true =>
  rw [if_neg (by simp)]
  cases hq:ziJ b i with
  | true=>simp
  | false =>
   rw [if_neg (by simp)]
   cases hc:(qZ b i).contains (nameAt b i) with
   | true=>simp
   | false=>simp
theorem zjt{i:Nat}(hb:288<=b.length)(hi:i<8)(hz:∀ j,j<11->b.getD (200+11 * i+j) 0=0):zj (rowAt b i)=false:=by
 unfold zj
 rw [List.any_eq_false]
 intro x hx
 obtain⟨j,hj,rfl⟩:=List.getElem_of_mem hx
 have hj':=hj
 rw [zu (by omega)] at hj'
 have e:(rowAt b i).getD j 0=0:=by
  rw [zF hj']
  exact hz j hj'
 rw [List.getD,List.getElem?_eq_getElem hj] at e
 simp at e
 simp [e]
end
def zbx(b:List Int)(x n:Int):List Int:=(b.drop x.toNat).take n.toNat
def zhY(b:List Int)(e:(Int×Int×Int×Int)):Int×List Int:=(e.2.2.2,zbx b e.2.1 e.2.2.1)
def zP(b:List Int)(h:Int):Int×List Int:=if zg b h=0 then (-1,[]) else zhY b (ze b h)
theorem zcm{a b:ByteArray}:(a == b)=true ↔ a=b:=by
 cases a with | mk x=>cases b with | mk y =>
 constructor
 ·intro h
  have h':(x == y)=true:=h
  rw [eq_of_beq h']
 ·intro h
  injection h with h
  subst h
  show(x == x)=true
  exact beq_self_eq_true x
theorem zgr:LawfulBEq ByteArray:={ eq_of_beq:=fun h=>zcm.1 h,rfl:=zcm.2 rfl }
def zL(l:List (ByteArray×Int))(s:ByteArray):Int:=((l.find? (fun r=>r.1 == s)).map (·.2)).getD 0
structure Apart (l:List (ByteArray×Int)):Prop where
 nodup:(l.map (·.1)).Nodup
 pos:∀ r∈l,1<=r.2/\r.2<=40
theorem zgt{b:List Int}(hf:qd b=[]):Apart (zk b 8):=by
 have hn:∀ i,i<8->qN b i=[]:=fun i hi=>by
  refine Classical.byContradiction fun h=>?_
  obtain⟨f,hm⟩:=List.exists_mem_of_ne_nil _ h
  have:=zc8 hi hm
  rw [hf] at this
  cases this
 have hk:∀ k,k<=8->qZ b k=(zk b k).map (·.1)/\(qZ b k).Nodup/\∀ r∈zk b k,1<=r.2/\r.2<=40:=by
  intro k
  induction k with
  | zero=>intro _;exact⟨rfl,List.nodup_nil,fun r hr=>by cases hr⟩
  | succ k ih =>
   intro hk
   obtain⟨h1,h2,h3⟩:=ih (by omega)
   rcases qy.1 (hn k (by omega)) with h | h
   ·have e1:qZ b (k+1)=qZ b k:=by
     show qZ b k++_=_
     have:qY b k (qZ b k)=false:=by unfold qY;rw [h,Bool.false_and]
     rw [this,if_neg (by simp),List.append_nil]
    have e2:zk b (k+1)=zk b k:=by
     show zk b k++_=_
     rw [h,if_neg (by simp),List.append_nil]
    rw [e1,e2]
    exact⟨h1,h2,h3⟩
   ·have e1:qZ b (k+1)=qZ b k++[nameAt b k]:=by
     show qZ b k++_=_
     rw [if_pos h]
    have hfi:=h
    unfold qY at hfi
    rw [Bool.and_eq_true,Bool.and_eq_true] at hfi
    obtain⟨f1,f2,f3⟩:=hfi
    have e2:zk b (k+1)=zk b k++[rootOf (rowAt b k)]:=by
     show zk b k++_=_
     rw [f1,if_pos rfl]
    have f2':ziJ b k=false:=by simpa using f2
    have f3':nameAt b k ∉ qZ b k:=by
     intro hm
     haveI:=zgr
     rw [List.contains_iff_mem.2 hm] at f3
     cases f3
    obtain⟨_,_,_,g4,_⟩:=Zu.1 f2'
    have g4':=zm.1 g4
    refine⟨?_,?_,?_⟩
    ·rw [e1,e2,List.map_append,h1];rfl
    ·rw [e1,List.nodup_append]
     exact⟨h2,by simp,fun x hx y hy e=>by rw [List.mem_singleton.1 hy] at e;subst e;exact f3' hx⟩
    ·rw [e2]
     intro r hr
     rcases List.mem_append.1 hr with hr | hr
     ·exact h3 r hr
     ·rw [List.mem_singleton.1 hr];exact g4'
 obtain⟨h1,h2,h3⟩:=hk 8 (Nat.le_refl _)
 exact⟨by rw [<- h1];exact h2,h3⟩
theorem zid{m:List (ByteArray×Int)}(hm:Apart m){s:ByteArray}{h:Int}(hh:1<=h):zL m s=h ↔ (s,h)∈m:=by
 unfold zL
 constructor
 ·intro e
  cases hf:m.find? (fun r=>r.1 == s) with
  | none=>rw [hf] at e;simp at e;omega
  | some r =>
   rw [hf] at e
   have h1:=List.mem_of_find?_eq_some hf
   have h2:=List.find?_some hf
   have e':r.2=h:=e
   have h2':r.1=s:=zcm.1 h2
   have:r=(s,h):=Prod.ext h2' e'
   rw [<- this];exact h1
 ·intro hmem
  cases hf:m.find? (fun r=>r.1 == s) with
  | none =>
   exact absurd (zcm.2 rfl) (List.find?_eq_none.1 hf (s,h) hmem)
  | some r =>
   have h1:=List.mem_of_find?_eq_some hf
   have h2:r.1=s:=zcm.1 (List.find?_some (p:=fun(r:(ByteArray×Int))=>r.1 == s) hf)
   have:r=(s,h):=by
    have hinj:∀ (l:List (ByteArray×Int)),(l.map (·.1)).Nodup->∀ x∈l,∀ y∈l,x.1=y.1->x=y:=by
     intro l
     induction l with
     | nil=>intro _ x hx;cases hx
     | cons z l ih =>
      intro hn x hx y hy e
      rw [List.map_cons,List.nodup_cons] at hn
      rcases List.mem_cons.1 hx with hx | hx <;> rcases List.mem_cons.1 hy with hy | hy
      ·rw [hx,hy]
      ·exact absurd (List.mem_map.2 ⟨y,hy,by rw [<- e,hx]⟩) hn.1
      ·exact absurd (List.mem_map.2 ⟨x,hx,by rw [e,hy]⟩) hn.1
      ·exact ih hn.2 x hx y hy e
    exact hinj m hm.nodup r h1 (s,h) hmem h2
   rw [this]
   rfl
theorem zX{b:List Int}:qd b=[] ↔ (∀ h,1<=h->h<=40->Qo b h=[])/\∀ i,i<8->qN b i=[]:=by
 constructor
 ·intro hf
  refine⟨fun h h1 h2=>?_,fun i hi=>?_⟩
  ·refine List.eq_nil_iff_forall_not_mem.2 (fun f hm=>?_)
   have:=zc9 h1 h2 hm
   rw [hf] at this
   cases this
  ·refine List.eq_nil_iff_forall_not_mem.2 (fun f hm=>?_)
   have:=zc8 hi hm
   rw [hf] at this
   cases this
 ·rintro ⟨h1,h2⟩
  refine List.eq_nil_iff_forall_not_mem.2 (fun f hf=>?_)
  unfold qd at hf
  rcases List.mem_append.1 hf with hf | hf
  ·obtain⟨j,hj,hf⟩:=zaM.1 hf
   rw [h1 _ (by omega) (by omega)] at hf
   cases hf
  ·obtain⟨j,hj,hf⟩:=zaL.1 hf
   rw [h2 j hj] at hf
   cases hf
section
variable {b c:List Int}
theorem zpS(hlen:c.length=b.length)(hs:∀ h,1<=h->h<=40->zg c h=zg b h/\ze c h=ze b h):∀ h,1<=h->h<=40->whE c h=whE b h:=by
 intro h h1 h2
 have hok:∀ j:Nat,j<40->okE c ((j:Int)+1)=okE b ((j:Int)+1):=fun j hj=>by
  obtain⟨e1,e2⟩:=hs ((j:Int)+1) (by omega) (by omega)
  unfold okE
  rw [e1,e2,QZ hlen]
 have hlap:∀ k:Nat,k<=40->zif c h k=zif b h k:=by
  intro k
  induction k with
  | zero=>intro _;rfl
  | succ k ih =>
   intro hk
   unfold zif
   rw [ih (by omega),hok k (by omega),(hs h h1 h2).2,(hs ((k:Int)+1) (by omega) (by omega)).2]
 unfold whE
 rw [(hs h h1 h2).1,(hs h h1 h2).2,QZ hlen,hlap _ (by omega)]
theorem zf0(hlen:c.length=b.length)(hb:288<=b.length)(hs:∀ j,j<288->c.getD j 0=b.getD j 0):∀ h,1<=h->h<=40->zg c h=zg b h/\ze c h=ze b h:=fun h h1 h2 =>
 zeo hlen hb h1 h2 (fun j hj=>hs _ (by have:=qx h1 h2;omega))
theorem zj9(hlen:c.length=b.length)(hb:288<=b.length)(hs:∀ j,j<288->c.getD j 0=b.getD j 0):∀ i,i<8->rowAt c i=rowAt b i:=fun i hi=>by
 apply zJ
 ·rw [zu (by omega),zu (by omega)]
 ·intro j hj
  rw [zu (by omega)] at hj
  rw [zF hj,zF hj]
  exact hs _ (by omega)
theorem zcs(hrow:∀ i,i<8->rowAt c i=rowAt b i)(hw:∀ i,i<8->zaT ((rowAt b i).getD 10 0)=true->zj (rowAt b i)=true->whE b ((rowAt b i).getD 10 0)=1->whE c ((rowAt b i).getD 10 0)=1)(hf:∀ i,i<8->qN b i=[]) :
  ∀ k,k<=8->qZ c k=qZ b k/\∀ i,i<k->qN c i=[]:=by
 intro k
 induction k with
 | zero=>intro _;exact⟨by simp only [qZ],fun i hi=>absurd hi (Nat.not_lt_zero i)⟩
 | succ k ih =>
  intro hk
  obtain⟨ih1,ih2⟩:=ih (by omega)
  have hr:=hrow k (by omega)
  have hname:nameAt c k=nameAt b k:=by unfold nameAt;rw [hr]
  have key:qY c k (qZ b k)=qY b k (qZ b k)/\qN c k=[]:=by
   rcases qy.1 (hf k (by omega)) with h0 | h0
   ·have h1:zj (rowAt c k)=false:=by rw [hr];exact h0
    have e1:qY c k (qZ b k)=false:=by unfold qY;rw [h1];rfl
    have e2:qY b k (qZ b k)=false:=by unfold qY;rw [h0];rfl
    exact⟨by rw [e1,e2],qy.2 (.inl h1)⟩
   ·have h0':=h0
    unfold qY at h0'
    rw [Bool.and_eq_true,Bool.and_eq_true,Bool.not_eq_true',Bool.not_eq_true'] at h0'
    have hbad:ziJ c k=false:=by
     obtain⟨q1,q2,q3,q4,q5⟩:=Zu.1 h0'.2.1
     refine Zu.2 ?_
     rw [hr]
     exact⟨q1,q2,q3,q4,hw k (by omega) q4 h0'.1 q5⟩
    have e1:qY c k (qZ b k)=true:=by
     unfold qY
     rw [hr,hbad,hname,h0'.1,h0'.2.2];rfl
    exact⟨by rw [e1,h0],qy.2 (.inr (by rw [ih1];exact e1))⟩
  refine⟨?_,fun i hi=>?_⟩
  ·simp only [qZ]
   rw [ih1,key.1,hname]
  ·by_cases e:i=k
   ·subst e;exact key.2
   ·exact ih2 i (by omega)
theorem zsl(hlen:c.length=b.length)(hb:288<=b.length)(hs:∀ j,j<288->c.getD j 0=b.getD j 0)(hf:qd b=[]):qd c=[]:=by
 obtain⟨f1,f2⟩:=zX.1 hf
 have he:=zf0 hlen hb hs
 have hwh:=zpS hlen he
 refine zX.2 ⟨fun h h1 h2=>?_,fun i hi=>?_⟩
 ·rw [qD,hwh h h1 h2,(he h h1 h2).1,(he h h1 h2).2]
  exact qD.1 (f1 h h1 h2)
 ·refine(zcs (zj9 hlen hb hs) (fun j hj hq _ h1=>?_) f2 8 (by omega)).2 i hi
  have hh:=zm.1 hq
  rw [hwh _ hh.1 hh.2]
  exact h1
theorem zlU(hlen:c.length=b.length)(hb:288<=b.length)(hs:∀ j,j<288->c.getD j 0=b.getD j 0):zk c 8=zk b 8 :=
 zbr 8 (fun j hj=>zj9 hlen hb hs j hj)
end
section
variable {b:List Int}
structure Fine (b:List Int):Prop where
 len:288<=b.length/\b.length<=6400
 ok:qd b=[]
theorem Fine.len0(hf:Fine b):Zi b.length=true:=zM.2 (by have:=hf.len;omega)
theorem Fine.hand(hf:Fine b){h:Int}(h1:1<=h)(h2:h<=40)(ht:zg b h≠0):whE b h=1/\Za b (ze b h)=0:=by
 rcases qD.1 ((zX.1 hf.ok).1 h h1 h2) with hw | hw
 ·exact⟨hw,(zav.1 hw).2.1⟩
 ·exact absurd hw.1 ht
theorem Fine.ent(hf:Fine b){h:Int}(h1:1<=h)(h2:h<=40)(ht:zg b h≠0):288<=(ze b h).2.1/\1<=(ze b h).2.2.1/\(ze b h).2.2.1<=1000/\(ze b h).2.1+(ze b h).2.2.1<=b.length/\0<=(ze b h).2.2.2/\(ze b h).2.2.2<=15:=by
 have:=qe.1 (hf.hand h1 h2 ht).2
 obtain⟨_,_,q1,q2,q3,q4,q5,q6⟩:=this
 exact⟨q5,q3,q4,q6,q1,q2⟩
theorem zAN{h:Int}(hw:whE b h=1):okE b h=true:=by
 obtain⟨h1,h2,_⟩:=zav.1 hw
 unfold okE
 rw [decide_eq_true h1,decide_eq_true h2]
 rfl
theorem zfV(e f:(Int×Int×Int×Int)):ziT e f=ziT f e:=by unfold ziT;rw [Bool.and_comm]
theorem zig{e f:(Int×Int×Int×Int)}:ziT e f=false ↔ f.2.1+f.2.2.1<=e.2.1\/e.2.1+e.2.2.1<=f.2.1:=by
 unfold ziT
 rw [Bool.and_eq_false_iff,decide_eq_false_iff_not,decide_eq_false_iff_not]
 omega
theorem Fine.apart(hf:Fine b){h k:Int}(h1:1<=h)(h2:h<=40)(k1:1<=k)(k2:k<=40)(hk:h≠k)(ht:zg b h≠0)(kt:zg b k≠0):ziT (ze b h) (ze b k)=false:=by
 have key:∀ {h k:Int},1<=h->h<=40->1<=k->k<h->zg b h≠0->zg b k≠0->ziT (ze b h) (ze b k)=false:=by
  intro h k h1 h2 k1 hlt ht kt
  have hw:=(hf.hand h1 h2 ht).1
  have kw:=(hf.hand k1 (by omega) kt).1
  cases hl:ziT (ze b h) (ze b k) with
  | false=>rfl
  | true =>
   have hno:=(zav.1 hw).2.2
   have:zif b h (h-1).toNat=true:=zcA.2 ⟨(k-1).toNat,by omega,by
    rw [show(((k-1).toNat:Nat):Int)+1=k by omega]
    exact⟨zAN kw,hl⟩⟩
   rw [hno] at this
   cases this
 rcases Int.lt_or_gt_of_ne hk with h' | h'
 ·rw [zfV]
  exact key k1 k2 h1 h' kt ht
 ·exact key h1 h2 k1 h' ht kt
theorem zis{c:List Int}(hl:Zi c.length=true)(hh:∀ h,1<=h->h<=40->zg c h≠0->Za c (ze c h)=0)(ha:∀ h k,1<=h->h<=40->1<=k->k<h->zg c h≠0->zg c k≠0->ziT (ze c h) (ze c k)=false)
  (hz:∀ h,1<=h->h<=40->zg c h=0->(ze c h).2.1=0/\(ze c h).2.2.1=0) (hr:(∀ h,1<=h->h<=40->zg c h≠0->whE c h=1)->∀ i,i<8->qN c i=[]):Fine c:=by
 have hw:∀ h,1<=h->h<=40->zg c h≠0->whE c h=1:=fun h h1 h2 ht=>by
  refine zav.2 ⟨ht,hh h h1 h2 ht,?_⟩
  cases hq:zif c h (h-1).toNat with
  | false=>rfl
  | true =>
   obtain⟨j,hj,ho,hlp⟩:=zcA.1 hq
   unfold okE at ho
   rw [Bool.and_eq_true,decide_eq_true_iff] at ho
   rw [ha h ((j:Int)+1) h1 h2 (by omega) (by omega) ht ho.1] at hlp
   cases hlp
 have hlen:=zM.1 hl
 refine⟨by omega,zX.2 ⟨fun h h1 h2=>qD.2 ?_,hr hw⟩⟩
 by_cases ht:zg c h=0
 ·exact .inr ⟨ht,hz h h1 h2 ht⟩
 ·exact .inl (hw h h1 h2 ht)
theorem zmZ(hf:Fine b){e:(Int×Int×Int×Int)}(he:Za b e=0)(h0:zg b e.1=0)(hno:∀ k,1<=k->k<=40->zg b k≠0->ziT e (ze b k)=false) :
  Fine (putL b e)/\(∀ k,1<=k->k<=40->k≠e.1->zg (putL b e) k=zg b k/\ze (putL b e) k=ze b k)/\zg (putL b e) e.1≠0/\ze (putL b e) e.1=e/\(putL b e).length=b.length/\(∀ j,200<=j->(putL b e).getD j 0=b.getD j 0):=by
 have hb:=hf.len
 have hlen:=zcv he
 obtain⟨_,hh,_⟩:=qe.1 he
 have hh':=zm.1 hh
 have hp:=qx hh'.1 hh'.2
 have hr5:(zax e).length=5:=rfl
 have hL:putL b e=splice b (plc e.1) (zax e):=by unfold putL;rw [if_pos he]
 obtain⟨hg1,hg2⟩:=zhQ he
 have hself:zg (putL b e) e.1≠0:=(zq.1 hg1).2.2
 have hother:∀ k,1<=k->k<=40->k≠e.1->zg (putL b e) k=zg b k/\ze (putL b e) k=ze b k:=fun k k1 k2 hk=>by
  rw [hL]
  exact za1 hr5 hb.1 hh'.1 hh'.2 k1 k2 hk
 have htail:∀ j,200<=j->(putL b e).getD j 0=b.getD j 0:=fun j hj=>by
  rw [hL,zw (by rw [hr5];omega) (by rw [hr5];omega)]
 have hrow:∀ i,i<8->rowAt (putL b e) i=rowAt b i:=fun i hi=>by
  apply zJ
  ·rw [zu (by omega),zu (by omega)]
  ·intro j hj
   rw [zu (by omega)] at hj
   rw [zF hj,zF hj]
   exact htail _ (by omega)
 refine⟨zis (by rw [hlen];exact hf.len0) (fun h h1 h2 ht=>?_) (fun h k h1 h2 k1 hlt ht kt=>?_) (fun h h1 h2 ht=>?_) (fun hw=>?_),hother,hself,hg2,hlen,htail⟩
 ·by_cases hq:h=e.1
  ·subst hq
   rw [hg2,QZ hlen]
   exact he
  ·obtain⟨e1,e2⟩:=hother h h1 h2 hq
   rw [e1] at ht
   rw [e2,QZ hlen]
   exact(hf.hand h1 h2 ht).2
 ·by_cases hq:h=e.1
  ·subst hq
   obtain⟨e1,e2⟩:=hother k k1 (by omega) (by omega)
   rw [e1] at kt
   rw [hg2,e2]
   exact hno k k1 (by omega) kt
  ·obtain⟨e1,e2⟩:=hother h h1 h2 hq
   rw [e1] at ht
   by_cases hq2:k=e.1
   ·subst hq2
    rw [e2,hg2,zfV]
    exact hno h h1 h2 ht
   ·obtain⟨e3,e4⟩:=hother k k1 (by omega) hq2
    rw [e3] at kt
    rw [e2,e4]
    exact hf.apart h1 h2 k1 (by omega) (by omega) ht kt
 ·by_cases hq:h=e.1
  ·subst hq;exact absurd ht hself
  ·obtain⟨e1,e2⟩:=hother h h1 h2 hq
   rw [e1] at ht
   rw [e2]
   rcases qD.1 ((zX.1 hf.ok).1 h h1 h2) with hw | hw
   ·exact absurd ht (zav.1 hw).1
   ·exact hw.2
 ·refine(zcs hrow (fun i hi hq _ hw1=>?_) (zX.1 hf.ok).2 8 (by omega)).2
  have hx:=zm.1 hq
  have ht:=(zav.1 hw1).1
  refine hw _ hx.1 hx.2 ?_
  rw [(hother _ hx.1 hx.2 (fun e'=>ht (by rw [e'];exact h0))).1]
  exact ht
theorem zcg(hf:Fine b){h:Int}(he:zO b h=0)(hno:∀ i,i<8->zj (rowAt b i)=true->(rowAt b i).getD 10 0≠h) :
  Fine (qh b h)/\(∀ k,1<=k->k<=40->k≠h->zg (qh b h) k=zg b k/\ze (qh b h) k=ze b k)/\zg (qh b h) h=0/\(qh b h).length=b.length/\(∀ j,200<=j->(qh b h).getD j 0=b.getD j 0):=by
 have hb:=hf.len
 obtain⟨_,hh,_⟩:=zq.1 he
 have hh':=zm.1 hh
 have hp:=qx hh'.1 hh'.2
 have hr5:=length_zerosB 5
 have hL:qh b h=splice b (plc h) (zerosB 5):=by unfold qh;rw [if_pos he]
 have hlen:(qh b h).length=b.length:=by rw [hL,length_splice (by rw [hr5];omega)]
 have hzero:∀ j,j<5->(qh b h).getD (plc h+j) 0=0:=fun j hj=>by
  rw [hL,qi (by rw [hr5];omega) (by rw [hr5];exact hj)]
  exact zcn 5 j
 have hself:=ze4 (c:=qh b h) (by omega) hh'.1 hh'.2 hzero
 have hother:∀ k,1<=k->k<=40->k≠h->zg (qh b h) k=zg b k/\ze (qh b h) k=ze b k:=fun k k1 k2 hk=>by
  rw [hL]
  exact za1 hr5 hb.1 hh'.1 hh'.2 k1 k2 hk
 have htail:∀ j,200<=j->(qh b h).getD j 0=b.getD j 0:=fun j hj=>by
  rw [hL,zw (by rw [hr5];omega) (by rw [hr5];omega)]
 have hrow:∀ i,i<8->rowAt (qh b h) i=rowAt b i:=fun i hi=>by
  apply zJ
  ·rw [zu (by omega),zu (by omega)]
  ·intro j hj
   rw [zu (by omega)] at hj
   rw [zF hj,zF hj]
   exact htail _ (by omega)
 have hne:∀ k,zg (qh b h) k≠0->k≠h:=fun k hk e=>by subst e;exact hk hself.1
 refine⟨zis (by rw [hlen];exact hf.len0) (fun k k1 k2 ht=>?_) (fun k j k1 k2 j1 hlt ht jt=>?_) (fun k k1 k2 ht=>?_) (fun hw=>?_),hother,hself.1,hlen,htail⟩
 ·obtain⟨e1,e2⟩:=hother k k1 k2 (hne k ht)
  rw [e1] at ht
  rw [e2,QZ hlen]
  exact(hf.hand k1 k2 ht).2
 ·obtain⟨e1,e2⟩:=hother k k1 k2 (hne k ht)
  obtain⟨e3,e4⟩:=hother j j1 (by omega) (hne j jt)
  rw [e1] at ht
  rw [e3] at jt
  rw [e2,e4]
  exact hf.apart k1 k2 j1 (by omega) (by omega) ht jt
 ·by_cases hq:k=h
  ·subst hq;exact hself.2
  ·obtain⟨e1,e2⟩:=hother k k1 k2 hq
   rw [e1] at ht
   rw [e2]
   rcases qD.1 ((zX.1 hf.ok).1 k k1 k2) with hw | hw
   ·exact absurd ht (zav.1 hw).1
   ·exact hw.2
 ·refine(zcs hrow (fun i hi hq hr hw1=>?_) (zX.1 hf.ok).2 8 (by omega)).2
  have hx:=zm.1 hq
  refine hw _ hx.1 hx.2 ?_
  rw [(hother _ hx.1 hx.2 (hno i hi hr)).1]
  exact(zav.1 hw1).1
theorem zjG{c:List Int}{x n:Int}(hlen:c.length=b.length)(h:∀ j:Nat,x.toNat<=j->j<x.toNat+n.toNat->c.getD j 0=b.getD j 0):zbx c x n=zbx b x n:=by
 unfold zbx
 apply zJ
 ·rw [List.length_take,List.length_take,List.length_drop,List.length_drop,hlen]
 ·intro j hj
  rw [List.length_take,List.length_drop] at hj
  have hj2:j<n.toNat:=by omega
  have:=h (x.toNat+j) (by omega) (by omega)
  simp only [List.getD,List.getElem?_take,if_pos hj2,List.getElem?_drop] at this ⊢
  exact this
theorem zcx{c:List Int}{h:Int}(hlen:c.length=b.length)(h1:zg c h=zg b h)(h2:ze c h=ze b h)(hp:zg b h≠0->∀ j:Nat,(ze b h).2.1.toNat<=j->j<(ze b h).2.1.toNat+(ze b h).2.2.1.toNat->c.getD j 0=b.getD j 0):zP c h=zP b h:=by
 unfold zP
 rw [h1]
 by_cases ht:zg b h=0
 ·rw [if_pos ht,if_pos ht]
 ·rw [if_neg ht,if_neg ht]
  unfold zhY
  rw [h2,zjG hlen (hp ht)]
theorem zuC(hf:Fine b){e:(Int×Int×Int×Int)}(he:Za b e=0)(h0:zg b e.1=0)(hno:∀ k,1<=k->k<=40->zg b k≠0->ziT e (ze b k)=false) :
  (∀ k,1<=k->k<=40->k≠e.1->zP (putL b e) k=zP b k)/\zP (putL b e) e.1=(e.2.2.2,zbx b e.2.1 e.2.2.1):=by
 obtain⟨_,ho,ht,hE,hlen,htail⟩:=zmZ hf he h0 hno
 refine⟨fun k k1 k2 hk=>?_,?_⟩
 ·obtain⟨e1,e2⟩:=ho k k1 k2 hk
  refine zcx hlen e1 e2 (fun hkt j hj _=>htail j ?_)
  have:=(hf.ent k1 k2 hkt).1
  omega
 ·unfold zP
  rw [if_neg ht,hE]
  unfold zhY
  rw [zjG hlen (fun j hj _=>htail j (by
   obtain⟨_,_,_,_,_,_,q,_⟩:=qe.1 he
   omega))]
theorem zie(hf:Fine b){x:Nat}{r:List Int}(hx:288<=x)(hx2:x+r.length<=b.length) :
  Fine (splice b x r)/\(splice b x r).length=b.length/\(∀ k,1<=k->k<=40->zg (splice b x r) k=zg b k/\ze (splice b x r) k=ze b k) /\
  ∀ k,1<=k->k<=40->(zg b k≠0->(ze b k).2.1+(ze b k).2.2.1<=x\/(x:Int)+r.length<=(ze b k).2.1)->zP (splice b x r) k=zP b k:=by
 have hb:=hf.len
 have hlen:=length_splice hx2
 have hs:∀ j,j<288->(splice b x r).getD j 0=b.getD j 0:=fun j hj=>zw hx2 (.inl (by omega))
 have he:=zf0 hlen hb.1 hs
 refine⟨⟨by rw [hlen];exact hb,zsl hlen hb.1 hs hf.ok⟩,hlen,he,fun k k1 k2 hap=>?_⟩
 obtain⟨e1,e2⟩:=he k k1 k2
 refine zcx hlen e1 e2 (fun hkt j hj1 hj2=>zw hx2 ?_)
 have hen:=hf.ent k1 k2 hkt
 have:=hap hkt
 omega
end
end Go.Proofs.YtchmlnmhbfaclaaGreatDoor
namespace Go.Proofs.YtchmlnmhbfaclaaGreatDoor
set_option linter.unusedVariables false
def there(n:Int)(e:(Int×Int)):Bool:=decide (0<=e.1) && (decide (1<=e.2) && decide (e.2<=n-e.1))
def over(a b:(Int×Int)):Bool:=decide (a.1<b.1+b.2) && decide (b.1<a.1+a.2)
theorem zdl{n:Int}{e:(Int×Int)}:there n e=true ↔ 0<=e.1/\1<=e.2/\e.1+e.2<=n:=by
 unfold there
 simp only [Bool.and_eq_true,decide_eq_true_eq]
 omega
theorem zaK{a b:(Int×Int)}:over a b=false ↔ b.1+b.2<=a.1\/a.1+a.2<=b.1:=by
 unfold over
 simp only [Bool.and_eq_false_iff,decide_eq_false_iff_not]
 omega
theorem zdy(a b:(Int×Int)):over a b=over b a:=by unfold over;exact Bool.and_comm _ _
def zkC(n:Int):List (Int×Int)->List (Int×Int)->Int
 | _,[]=>0
 | ah,e :: r=>if there n e=false then 1 else if ah.any (over e)=true then 7 else zkC n (ah++[e]) r
def chk(n:Int)(l:List (Int×Int)):Int:=if n<0\/6400<n then 1 else if 200<l.length then 4 else zkC n [] l
structure Good (n:Int) (l:List (Int×Int)):Prop where
 all:∀ e∈l,0<=e.1/\1<=e.2/\e.1+e.2<=n
 apart:l.Pairwise (fun a b=>over a b=false)
theorem zkB{n:Int}:∀ {ah l:List (Int×Int)},zkC n ah l=0 ↔ (∀ e∈l,there n e=true)/\l.Pairwise (fun a b=>over a b=false)/\∀ e∈l,∀ a∈ah,over e a=false
 | ah,[]=>by simp [zkC]
 | ah,e :: r=>by
  unfold zkC
  by_cases h1:there n e=false
  ·rw [if_pos h1]
   constructor
   ·intro h;cases h
   ·intro h;have:=h.1 e (by simp);rw [h1] at this;cases this
  ·rw [if_neg h1]
   have h1':there n e=true:=by cases h:there n e <;> simp_all
   by_cases h2:ah.any (over e)=true
   ·rw [if_pos h2]
    constructor
    ·intro h;cases h
    ·intro h
     obtain⟨a,ha,hoa⟩:=List.any_eq_true.1 h2
     have:=h.2.2 e (by simp) a ha
     rw [hoa] at this;cases this
   ·rw [if_neg h2,zkB]
    have h2':∀ a∈ah,over e a=false:=fun a ha=>by
     cases h:over e a with
     | false=>rfl
     | true=>exact absurd (List.any_eq_true.2 ⟨a,ha,h⟩) h2
    constructor
    ·rintro ⟨g1,g2,g3⟩
     refine⟨fun x hx=>?_,List.pairwise_cons.2 ⟨fun x hx=>?_,g2⟩,fun x hx a ha=>?_⟩
     ·rcases List.mem_cons.1 hx with rfl | hx
      ·exact h1'
      ·exact g1 x hx
     ·rw [zdy];exact g3 x hx e (by simp)
     ·rcases List.mem_cons.1 hx with rfl | hx
      ·exact h2' a ha
      ·exact g3 x hx a (by simp [ha])
    ·rintro ⟨g1,g2,g3⟩
     obtain⟨p1,p2⟩:=List.pairwise_cons.1 g2
     refine⟨fun x hx=>g1 x (by simp [hx]),p2,fun x hx a ha=>?_⟩
     rcases List.mem_append.1 ha with ha | ha
     ·exact g3 x (by simp [hx]) a ha
     ·obtain rfl:=List.mem_singleton.1 ha
      rw [zdy];exact p1 x hx
theorem zaa{n:Int}{l:List (Int×Int)}:chk n l=0 ↔ 0<=n/\n<=6400/\l.length<=200/\Good n l:=by
 unfold chk
 by_cases h1:n<0\/6400<n
 ·rw [if_pos h1]
  exact⟨fun h=>(by cases h),fun h=>by omega⟩
 ·rw [if_neg h1]
  by_cases h2:200<l.length
  ·rw [if_pos h2]
   exact⟨fun h=>(by cases h),fun h=>by omega⟩
  ·rw [if_neg h2,zkB]
   constructor
   ·rintro ⟨g1,g2,_⟩
    exact⟨by omega,by omega,by omega,⟨fun e he=>zdl.1 (g1 e he),g2⟩⟩
   ·rintro ⟨_,_,_,g⟩
    exact⟨fun e he=>zdl.2 (g.all e he),g.apart,fun e he a ha=>by cases ha⟩
theorem Good.perm{n:Int}{l s:List (Int×Int)}(h:Good n l)(hp:s.Perm l):Good n s :=
 ⟨fun e he=>h.all e (hp.mem_iff.1 he),(hp.pairwise_iff (fun {x y} hxy=>by rw [zdy];exact hxy)).2 h.apart⟩
def zQ:Int->List (Int×Int)->List (Int×Int)
 | _,[]=>[]
 | f,e :: r=>(if f<e.1 then [(f,e.1-f)] else [])++zQ (e.1+e.2) r
def qK:Int->List (Int×Int)->Int
 | f,[]=>f
 | _,e :: r=>qK (e.1+e.2) r
def Chain:Int->List (Int×Int)->Prop
 | _,[]=>True
 | f,e :: r=>f<=e.1/\0<=e.2/\Chain (e.1+e.2) r
def zv(l:List (Int×Int)):Int:=(l.map (·.2)).sum
theorem QJ(e:(Int×Int))(l:List (Int×Int)):zv (e :: l)=e.2+zv l:=by simp [zv]
theorem ZX(a b:List (Int×Int)):zv (a++b)=zv a+zv b:=by simp [zv]
theorem zfS{a b:List (Int×Int)}(h:a.Perm b):zv a=zv b:=by
 unfold zv
 induction h with
 | nil=>rfl
 | cons x _ ih=>simp only [List.map_cons,List.sum_cons,ih]
 | swap x y l=>simp only [List.map_cons,List.sum_cons];omega
 | trans _ _ ih1 ih2=>rw [ih1,ih2]
theorem Qt:∀ (f:Int) (a b:List (Int×Int)),zQ f (a++b)=zQ f a++zQ (qK f a) b
 | f,[],b=>rfl
 | f,e :: r,b=>by
  simp only [List.cons_append,zQ,qK]
  rw [Qt,List.append_assoc]
theorem zaI:∀ (f:Int) (a b:List (Int×Int)),qK f (a++b)=qK (qK f a) b
 | f,[],b=>rfl
 | f,e :: r,b=>by simp only [List.cons_append,qK];exact zaI _ _ _
theorem zck:∀ {f:Int} {a b:List (Int×Int)},Chain f (a++b) ↔ Chain f a/\Chain (qK f a) b
 | f,[],b=>by simp [Chain,qK]
 | f,e :: r,b=>by
  simp only [List.cons_append,Chain,qK]
  rw [zck]
  exact⟨fun⟨a,b,c,d⟩=>⟨⟨a,b,c⟩,d⟩,fun⟨⟨a,b,c⟩,d⟩=>⟨a,b,c,d⟩⟩
theorem Chain.endLe:∀ {f:Int} {s:List (Int×Int)},Chain f s->f<=qK f s
 | f,[],_=>Int.le_refl _
 | f,e :: r,h=>by
  have:=Chain.endLe h.2.2
  have h1:=h.1
  have h2:=h.2.1
  show f<=qK (e.1+e.2) r
  omega
theorem Chain.mem:∀ {f:Int} {s:List (Int×Int)},Chain f s->∀ e∈s,f<=e.1/\0<=e.2/\e.1+e.2<=qK f s
 | f,[],_,e,he=>by cases he
 | f,x :: r,h,e,he=>by
  have h1:=h.1
  have h2:=h.2.1
  have h3:=Chain.endLe h.2.2
  show f<=e.1/\0<=e.2/\e.1+e.2<=qK (x.1+x.2) r
  rcases List.mem_cons.1 he with rfl | he
  ·omega
  ·have:=Chain.mem h.2.2 e he
   omega
theorem Chain.sum:∀ {f:Int} {s:List (Int×Int)},Chain f s->zv (zQ f s)+zv s=qK f s-f
 | f,[],_=>by simp [zQ,qK,zv]
 | f,e :: r,h=>by
  have ih:=Chain.sum h.2.2
  have h1:=h.1
  simp only [zQ,qK,ZX,QJ]
  by_cases hf:f<e.1
  ·rw [if_pos hf,QJ]
   have:zv []=0:=rfl
   dsimp only
   omega
  ·rw [if_neg hf]
   have:zv []=0:=rfl
   omega
theorem Chain.run:∀ {f:Int} {s:List (Int×Int)},Chain f s->∀ x∈zQ f s,f<=x.1/\1<=x.2/\x.1+x.2<=qK f s/\∀ e∈s,over x e=false
 | f,[],_,x,hx=>by cases hx
 | f,e :: r,h,x,hx=>by
  obtain⟨h1,h2,h3⟩:=h
  have he:=Chain.endLe h3
  simp only [zQ,List.mem_append] at hx
  show f<=x.1/\1<=x.2/\x.1+x.2<=qK (e.1+e.2) r/\_
  rcases hx with hx | hx
  ·by_cases hf:f<e.1
   ·rw [if_pos hf] at hx
    obtain rfl:=List.mem_singleton.1 hx
    refine⟨Int.le_refl _,by dsimp only;omega,by dsimp only;omega,fun y hy=>zaK.2 ?_⟩
    rcases List.mem_cons.1 hy with rfl | hy
    ·right;dsimp only;omega
    ·have:=Chain.mem h3 y hy
     right;dsimp only;omega
   ·rw [if_neg hf] at hx;cases hx
  ·obtain⟨g1,g2,g3,g4⟩:=Chain.run h3 x hx
   refine⟨by omega,g2,g3,fun y hy=>?_⟩
   rcases List.mem_cons.1 hy with rfl | hy
   ·exact zaK.2 (.inl g1)
   ·exact g4 y hy
def Srt(l s:List (Int×Int)):Prop:=s.Perm l/\s.Pairwise (fun a b=>a.1<b.1)
theorem zd6:∀ {s t:List (Int×Int)},s.Perm t->s.Pairwise (fun a b=>a.1<b.1)->t.Pairwise (fun a b=>a.1<b.1)->s=t
 | [],t,hp,_,_=>(List.nil_perm.1 hp).symm
 | x :: s,[],hp,_,_=>absurd hp.length_eq (by simp)
 | x :: s,y :: t,hp,hs,ht=>by
  obtain⟨hs1,hs2⟩:=List.pairwise_cons.1 hs
  obtain⟨ht1,ht2⟩:=List.pairwise_cons.1 ht
  have e:x=y:=by
   have hx:x∈y :: t:=hp.mem_iff.1 (by simp)
   have hy:y∈x :: s:=hp.mem_iff.2 (by simp)
   rcases List.mem_cons.1 hx with h | h
   ·exact h
   ·rcases List.mem_cons.1 hy with h' | h'
    ·exact h'.symm
    ·have:=ht1 x h
     have:=hs1 y h'
     omega
  subst e
  rw [zd6 (List.Perm.cons_inv hp) hs2 ht2]
theorem zcj:∀ {n f:Int} {s:List (Int×Int)},(∀ e∈s,f<=e.1/\1<=e.2)->s.Pairwise (fun a b=>over a b=false)->s.Pairwise (fun a b=>a.1<b.1)->Chain f s
 | n,f,[],_,_,_=>trivial
 | n,f,e :: r,h,ho,hs=>by
  obtain⟨ho1,ho2⟩:=List.pairwise_cons.1 ho
  obtain⟨hs1,hs2⟩:=List.pairwise_cons.1 hs
  have he:=h e (by simp)
  refine⟨he.1,by omega,zcj (n:=n) (fun x hx=>?_) ho2 hs2⟩
  have h1:=zaK.1 (ho1 x hx)
  have h2:=hs1 x hx
  have h3:=h x (by simp [hx])
  omega
theorem Srt.chain{n:Int}{l s:List (Int×Int)}(hs:Srt l s)(hg:Good n l)(hn:0<=n):Chain 0 (s++[(n,0)])/\qK 0 (s++[(n,0)])=n/\qK 0 s<=n:=by
 have hgs:=hg.perm hs.1
 have hc:Chain 0 s:=zcj (n:=n) (fun e he=>⟨(hgs.all e he).1,(hgs.all e he).2.1⟩) hgs.apart hs.2
 have hle:qK 0 s<=n:=by
  have:∀ (s:List (Int×Int)) (f:Int),f<=n->(∀ e∈s,e.1+e.2<=n)->qK f s<=n:=by
   intro s
   induction s with
   | nil=>intro f h _;exact h
   | cons e r ih=>intro f _ h;exact ih _ (h e (by simp)) (fun x hx=>h x (by simp [hx]))
  exact this s 0 hn (fun e he=>(hgs.all e he).2.2)
 refine⟨zck.2 ⟨hc,hle,Int.le_refl _,trivial⟩,?_,hle⟩
 rw [zaI]
 show n+0=n
 omega
def qo(n:Int)(s:List (Int×Int)):List (Int×Int):=zQ 0 (s++[(n,0)])
theorem Srt.sum{n:Int}{l s:List (Int×Int)}(hs:Srt l s)(hg:Good n l)(hn:0<=n):zv l+zv (qo n s)=n:=by
 obtain⟨hc,he,_⟩:=hs.chain hg hn
 have:=hc.sum
 rw [he,ZX,zfS hs.1] at this
 have h0:zv [(n,0)]=0:=rfl
 unfold qo
 omega
theorem Srt.freeIn{n:Int}{l s:List (Int×Int)}(hs:Srt l s)(hg:Good n l)(hn:0<=n):∀ x∈qo n s,0<=x.1/\1<=x.2/\x.1+x.2<=n/\∀ e∈l,over x e=false:=by
 obtain⟨hc,he,_⟩:=hs.chain hg hn
 intro x hx
 obtain⟨h1,h2,h3,h4⟩:=hc.run x hx
 rw [he] at h3
 exact⟨h1,h2,h3,fun e hh=>h4 e (by simp [hs.1.mem_iff.2 hh])⟩
def Zt(size:Int)(best r:(Int×Int)):(Int×Int):=if size<=r.2/\(best.2=0\/r.2<best.2) then r else best
def zaR(size:Int)(h:List (Int×Int)):(Int×Int):=h.foldl (Zt size) (0,0)
theorem zir{size:Int}(hs:1<=size):∀ (h:List (Int×Int)) (b:(Int×Int)),(∀ r∈h,1<=r.2)->0<=b.2 ->
  ((h.foldl (Zt size) b).2=0/\b.2=0/\∀ r∈h,r.2<size) \/
  (1<=(h.foldl (Zt size) b).2/\((h.foldl (Zt size) b)=b\/((h.foldl (Zt size) b)∈h/\size<=(h.foldl (Zt size) b).2))/\(1<=b.2->(h.foldl (Zt size) b).2<=b.2)/\∀ r∈h,size<=r.2->(h.foldl (Zt size) b).2<=r.2)
 | [],b,_,hb=>by
  by_cases h0:b.2=0
  ·exact .inl ⟨h0,h0,fun r hr=>by cases hr⟩
  ·exact .inr ⟨by show 1<=b.2;omega,.inl rfl,fun _=>Int.le_refl _,fun r hr=>by cases hr⟩
 | x :: h,b,hr,hb=>by
  have hx:=hr x (by simp)
  have hr':∀ r∈h,1<=r.2:=fun r hh=>hr r (by simp [hh])
  rw [List.foldl_cons]
  by_cases hc:size<=x.2/\(b.2=0\/x.2<b.2)
  ·have e:Zt size b x=x:=if_pos hc
   rw [e]
   rcases zir hs h x hr' (by omega) with ⟨_,h2,_⟩ | ⟨h1,h2,h3,h4⟩
   ·omega
   ·have h5:=h3 hx
    refine .inr ⟨h1,.inr ?_,fun hb1=>by omega,fun r hh hsr=>?_⟩
    ·rcases h2 with h2 | ⟨h2,h2'⟩
     ·exact⟨by rw [h2];simp,by rw [h2];exact hc.1⟩
     ·exact⟨by simp [h2],h2'⟩
    ·rcases List.mem_cons.1 hh with rfl | hh
     ·exact h5
     ·exact h4 r hh hsr
  ·have e:Zt size b x=b:=if_neg hc
   rw [e]
   rcases zir hs h b hr' hb with ⟨h1,h2,h3⟩ | ⟨h1,h2,h3,h4⟩
   ·refine .inl ⟨h1,h2,fun r hh=>?_⟩
    rcases List.mem_cons.1 hh with rfl | hh
    ·omega
    ·exact h3 r hh
   ·refine .inr ⟨h1,?_,h3,fun r hh hsr=>?_⟩
    ·rcases h2 with h2 | ⟨h2,h2'⟩
     ·exact .inl h2
     ·exact .inr ⟨by simp [h2],h2'⟩
    ·rcases List.mem_cons.1 hh with rfl | hh
     ·have:=h3 (by omega)
      omega
     ·exact h4 r hh hsr
theorem ziq{size:Int}(hs:1<=size){h:List (Int×Int)}(hr:∀ r∈h,1<=r.2) :
  ((zaR size h).2=0/\∀ r∈h,r.2<size)\/(1<=(zaR size h).2/\zaR size h∈h/\size<=(zaR size h).2/\∀ r∈h,size<=r.2->(zaR size h).2<=r.2):=by
 rcases zir hs h (0,0) hr (Int.le_refl _) with ⟨h1,_,h3⟩ | ⟨h1,h2,_,h4⟩
 ·exact .inl ⟨h1,h3⟩
 ·rcases h2 with h2 | h2
  ·have:(zaR size h).2=0:=by unfold zaR;rw [h2]
   unfold zaR at this;omega
  ·exact .inr ⟨h1,h2.1,h2.2,h4⟩
def qp(m:Int)(h:List (Int×Int)):Int:=h.foldl (fun m r=>max m r.2) m
theorem zlE:∀ {h:List (Int×Int)} {m M:Int},qp m h<=M ↔ m<=M/\∀ r∈h,r.2<=M
 | [],m,M=>by simp [qp]
 | x :: h,m,M=>by
  have:qp m (x :: h)=qp (max m x.2) h:=rfl
  rw [this,zlE]
  constructor
  ·rintro ⟨h1,h2⟩
   refine⟨by omega,fun r hr=>?_⟩
   rcases List.mem_cons.1 hr with rfl | hr
   ·omega
   ·exact h2 r hr
  ·rintro ⟨h1,h2⟩
   have:=h2 x (by simp)
   exact⟨by omega,fun r hr=>h2 r (by simp [hr])⟩
theorem zb9:∀ {h:List (Int×Int)},(∀ r∈h,1<=r.2)->0<=zv h/\∀ r∈h,r.2<=zv h
 | [],_=>⟨by simp [zv],fun r hr=>by cases hr⟩
 | x :: h,hr=>by
  obtain⟨h1,h2⟩:=zb9 (h:=h) (fun r hh=>hr r (by simp [hh]))
  have hx:=hr x (by simp)
  rw [QJ]
  refine⟨by omega,fun r hh=>?_⟩
  rcases List.mem_cons.1 hh with rfl | hh
  ·omega
  ·have:=h2 r hh;omega
end Go.Proofs.YtchmlnmhbfaclaaGreatDoor
namespace Go.Proofs.YtchmlnmhbfaclaaGreatDoor
open Go.RowKit
set_option linter.unusedVariables false
section
variable {b:List Int}
theorem Ze{x:(Int×Int×Int×Int)}:∀ {k:Nat},x∈zo b k ↔ ∃ j:Nat,j<k/\zg b ((j:Int)+1)≠0/\x=ze b ((j:Int)+1)
 | 0=>by simp [zo]
 | k+1=>by
  unfold zo
  rw [List.mem_append,Ze]
  by_cases ht:zg b ((k:Int)+1)=0
  ·rw [if_pos ht]
   constructor
   ·rintro (⟨j,h1,h2⟩ | h2)
    ·exact⟨j,by omega,h2⟩
    ·cases h2
   ·rintro ⟨j,h1,h2,h3⟩
    by_cases e:j=k
    ·subst e;exact absurd ht h2
    ·exact .inl ⟨j,by omega,h2,h3⟩
  ·rw [if_neg ht]
   constructor
   ·rintro (⟨j,h1,h2⟩ | h2)
    ·exact⟨j,by omega,h2⟩
    ·exact⟨k,by omega,ht,List.mem_singleton.1 h2⟩
   ·rintro ⟨j,h1,h2,h3⟩
    by_cases e:j=k
    ·subst e;exact .inr (List.mem_singleton.2 h3)
    ·exact .inl ⟨j,by omega,h2,h3⟩
def shE(e:(Int×Int×Int×Int)):Int×Int:=(e.2.1-288,e.2.2.1)
def zn(b:List Int):List (Int×Int):=(zo b 40).map shE
theorem zyb(e f:(Int×Int×Int×Int)):over (shE e) (shE f)=ziT e f:=by
 unfold over ziT shE
 dsimp only
 rw [Bool.eq_iff_iff]
 simp only [Bool.and_eq_true,decide_eq_true_eq]
 omega
theorem Zd{x:Int×Int}:x∈zn b ↔ ∃ h:Int,1<=h/\h<=40/\zg b h≠0/\x=shE (ze b h):=by
 unfold zn
 rw [List.mem_map]
 constructor
 ·rintro ⟨e,he,rfl⟩
  obtain⟨j,h1,h2,rfl⟩:=Ze.1 he
  exact⟨(j:Int)+1,by omega,by omega,h2,rfl⟩
 ·rintro ⟨h,h1,h2,ht,rfl⟩
  refine⟨ze b h,Ze.2 ⟨(h-1).toNat,by omega,?_⟩,rfl⟩
  rw [show(((h-1).toNat:Nat):Int)+1=h by omega]
  exact⟨ht,rfl⟩
theorem zaY(b:List Int):(zn b).length<=40:=by unfold zn;rw [List.length_map];exact qj b 40
theorem QC(hf:Fine b):Good ((b.length:Int)-288) (zn b):=by
 refine⟨fun e he=>?_,?_⟩
 ·obtain⟨h,h1,h2,ht,rfl⟩:=Zd.1 he
  have:=hf.ent h1 h2 ht
  show 0<=(ze b h).2.1-288/\1<=(ze b h).2.2.1/\(ze b h).2.1-288+(ze b h).2.2.1<=_
  omega
 ·unfold zn
  rw [List.pairwise_map]
  have key:∀ k:Nat,k<=40->(zo b k).Pairwise (fun x y=>over (shE x) (shE y)=false):=by
   intro k
   induction k with
   | zero=>intro _;exact List.Pairwise.nil
   | succ k ih =>
    intro hk
    unfold zo
    rw [List.pairwise_append]
    refine⟨ih (by omega),?_,?_⟩
    ·split
     ·exact List.Pairwise.nil
     ·exact List.pairwise_singleton _ _
    ·intro x hx y hy
     obtain⟨j,h1,h2,rfl⟩:=Ze.1 hx
     by_cases ht:zg b ((k:Int)+1)=0
     ·rw [if_pos ht] at hy;cases hy
     ·rw [if_neg ht] at hy
      rw [List.mem_singleton.1 hy,zyb]
      exact hf.apart (by omega) (by omega) (by omega) (by omega) (by omega) h2 ht
  exact key 40 (Nat.le_refl _)
theorem zvL{n:Int}{l s:List (Int×Int)}(hs:Srt l s)(hg:Good n l)(hn:0<=n){z:Int}(hz:1<=z)(hf:(zaR z (qo n s)).2≠0) :
  0<=(zaR z (qo n s)).1/\(zaR z (qo n s)).1+z<=n/\∀ e∈l,e.1+e.2<=(zaR z (qo n s)).1\/(zaR z (qo n s)).1+z<=e.1:=by
 have hin:=hs.freeIn hg hn
 rcases ziq hz (fun r hr=>(hin r hr).2.1) with ⟨h,_⟩ | ⟨_,h1,h2,_⟩
 ·exact absurd h hf
 ·obtain⟨q1,q2,q3,q4⟩:=hin _ h1
  refine⟨q1,by omega,fun e he=>?_⟩
  have:=zaK.1 (q4 e he)
  omega
def QH(b:List Int):Nat:=zil (fun j=>decide (zg b ((j:Int)+1)=0)) 40
theorem qP(b:List Int):First (fun j=>decide (zg b ((j:Int)+1)=0)) 40 (QH b):=zB _ _
def alL(b:List Int)(h:Int)(x n:Nat)(t:Int):List Int:=putL (splice b x (zerosB n)) (h,(x:Int),(n:Int),t)
theorem zhs(hf:Fine b){h t:Int}{x n:Nat}(h1:1<=h)(h2:h<=40)(ht0:zg b h=0)(hn:1<=n)(hn2:n<=1000)(hx:288<=x)(hx2:x+n<=b.length)(t1:0<=t)(t2:t<=15)
  (hno:∀ k,1<=k->k<=40->zg b k≠0->(ze b k).2.1+(ze b k).2.2.1<=x\/(x:Int)+n<=(ze b k).2.1) :
  Fine (alL b h x n t)/\(alL b h x n t).length=b.length/\zP (alL b h x n t) h=(t,zerosB n)/\ze (alL b h x n t) h=(h,(x:Int),(n:Int),t)/\zg (alL b h x n t) h≠0 /\
   (∀ k,1<=k->k<=40->k≠h->zP (alL b h x n t) k=zP b k/\zg (alL b h x n t) k=zg b k/\ze (alL b h x n t) k=ze b k):=by
 have hz:=length_zerosB n
 obtain⟨hf1,hl1,he1,ho1⟩:=zie hf (r:=zerosB n) hx (by rw [hz];exact hx2)
 have hp:Za (splice b x (zerosB n)) (h,(x:Int),(n:Int),t)=0:=qe.2 ⟨hf1.len0,zm.2 ⟨h1,h2⟩,t1,t2,by show 1<=(n:Int);omega,by show(n:Int)<=1000;omega,by show 288<=(x:Int);omega,by rw [hl1];show(x:Int)+n<=_;omega⟩
 have h0:zg (splice b x (zerosB n)) h=0:=by rw [(he1 h h1 h2).1];exact ht0
 have hno1:∀ k,1<=k->k<=40->zg (splice b x (zerosB n)) k≠0->ziT (h,(x:Int),(n:Int),t) (ze (splice b x (zerosB n)) k)=false:=fun k k1 k2 kt=>by
  obtain⟨e1,e2⟩:=he1 k k1 k2
  rw [e1] at kt
  rw [e2]
  exact zig.2 (hno k k1 k2 kt)
 obtain⟨p1,p2,p3,p4,p5,p6⟩:=zmZ hf1 hp h0 hno1
 obtain⟨o1,o2⟩:=zuC hf1 hp h0 hno1
 refine⟨p1,p5.trans hl1,?_,p4,p3,fun k k1 k2 hk=>⟨?_,?_,?_⟩⟩
 ·refine o2.trans ?_
  congr 1
  unfold zbx
  dsimp only
  rw [Int.toNat_natCast,Int.toNat_natCast]
  apply zJ
  ·rw [List.length_take,List.length_drop,hl1,hz];omega
  ·intro j hj
   rw [List.length_take,List.length_drop] at hj
   have hj2:j<n:=by omega
   have:=qi (z:=b) (l:=zerosB n) (off:=x) (j:=j) (by rw [hz];exact hx2) (by rw [hz];exact hj2)
   simp only [List.getD,List.getElem?_take,if_pos hj2,List.getElem?_drop] at this ⊢
   exact this
 ·exact(o1 k k1 k2 hk).trans (ho1 k k1 k2 (fun kt=>by rw [hz];exact hno k k1 k2 kt))
 ·exact(p2 k k1 k2 hk).1.trans (he1 k k1 k2).1
 ·exact(p2 k k1 k2 hk).2.trans (he1 k k1 k2).2
theorem ztu(hf:Fine b){s:List (Int×Int)}(hs:Srt (zn b) s){n:Nat}(hn:1<=n)(hfit:(zaR n (qo ((b.length:Int)-288) s)).2≠0) :
  ∃ x:Nat,(x:Int)=288+(zaR n (qo ((b.length:Int)-288) s)).1/\288<=x/\x+n<=b.length/\∀ k,1<=k->k<=40->zg b k≠0->(ze b k).2.1+(ze b k).2.2.1<=x\/(x:Int)+n<=(ze b k).2.1:=by
 have hl:=hf.len
 obtain⟨r1,r2,r3⟩:=zvL hs (QC hf) (by omega) (z:=(n:Int)) (by omega) hfit
 generalize (zaR n (qo ((b.length:Int)-288) s)).1=y at *
 refine⟨(288+y).toNat,by omega,by omega,by omega,fun k k1 k2 kt=>?_⟩
 have:=r3 (shE (ze b k)) (Zd.2 ⟨k,k1,k2,kt,rfl⟩)
 unfold shE at this
 dsimp only at this
 omega
theorem zcp(hf:Fine b){h:Int}(h1:1<=h)(h2:h<=40)(ht:zg b h≠0){p:Nat}{r:List Int}(hr:(p:Int)+r.length<=(ze b h).2.2.1) :
  Fine (splice b ((ze b h).2.1.toNat+p) r)/\(splice b ((ze b h).2.1.toNat+p) r).length=b.length/\(∀ k,1<=k->k<=40->k≠h->zP (splice b ((ze b h).2.1.toNat+p) r) k=zP b k) /\
   (∀ k,1<=k->k<=40->zg (splice b ((ze b h).2.1.toNat+p) r) k=zg b k/\ze (splice b ((ze b h).2.1.toNat+p) r) k=ze b k)/\zbx (splice b ((ze b h).2.1.toNat+p) r) ((ze b h).2.1+p) r.length=r:=by
 have he:=hf.ent h1 h2 ht
 have hx2:(ze b h).2.1.toNat+p+r.length<=b.length:=by omega
 obtain⟨q1,q2,q3,q4⟩:=zie hf (x:=(ze b h).2.1.toNat+p) (r:=r) (by omega) hx2
 refine⟨q1,q2,fun k k1 k2 hk=>q4 k k1 k2 (fun kt=>?_),q3,?_⟩
 ·have:=zig.1 (hf.apart h1 h2 k1 k2 (fun e=>hk e.symm) ht kt)
  omega
 ·unfold zbx
  rw [show((ze b h).2.1+(p:Int)).toNat=(ze b h).2.1.toNat+p by omega,Int.toNat_natCast]
  apply zJ
  ·rw [List.length_take,List.length_drop,q2];omega
  ·intro j hj
   rw [List.length_take,List.length_drop] at hj
   have hj2:j<r.length:=by omega
   have:=qi (z:=b) (l:=r) (off:=(ze b h).2.1.toNat+p) (j:=j) hx2 hj2
   simp only [List.getD,List.getElem?_take,if_pos hj2,List.getElem?_drop] at this ⊢
   exact this
end
def zfP(l:List (Int×Int×Int×Int)):Int:=l.foldl (fun h e=>if e.1=h then h+1 else h) 1
theorem zjV(l:List (Int×Int×Int×Int))(e:(Int×Int×Int×Int)):zfP (l++[e])=if e.1=zfP l then zfP l+1 else zfP l:=by
 unfold zfP
 rw [List.foldl_append]
 rfl
theorem zjW(b:List Int):∀ k:Nat,zfP (zo b k)=(zil (fun j=>decide (zg b ((j:Int)+1)=0)) k:Int)+1
 | 0=>by
  have h:=(zB (fun j=>decide (zg b ((j:Int)+1)=0)) 0).1
  have:zil (fun j=>decide (zg b ((j:Int)+1)=0)) 0=0:=by omega
  rw [this]
  rfl
 | k+1=>by
  have ih:=zjW b k
  have h1:=zB (fun j=>decide (zg b ((j:Int)+1)=0)) k
  have h2:=zB (fun j=>decide (zg b ((j:Int)+1)=0)) (k+1)
  generalize zil (fun j=>decide (zg b ((j:Int)+1)=0)) k=p at *
  have hp:=h1.1
  unfold zo
  by_cases ht:zg b ((k:Int)+1)=0
  ·rw [if_pos ht,List.append_nil,ih]
   have h3:First (fun j=>decide (zg b ((j:Int)+1)=0)) (k+1) p:=⟨by omega,h1.2.1,fun hlt=>by
    by_cases e:p=k
    ·rw [e];exact decide_eq_true ht
    ·exact h1.2.2 (by omega)⟩
   rw [First.unique h2 h3]
  ·rw [if_neg ht,zjV,ih]
   by_cases e:p=k
   ·subst e
    rw [if_pos (by show(p:Int)+1=p+1;rfl)]
    have h3:First (fun j=>decide (zg b ((j:Int)+1)=0)) (p+1) (p+1):=⟨Nat.le_refl _,fun j hj=>by
     by_cases ej:j=p
     ·rw [ej];exact decide_eq_false ht
     ·exact h1.2.1 j (by omega),fun h=>absurd h (Nat.lt_irrefl _)⟩
    rw [First.unique h2 h3]
    omega
   ·rw [if_neg (by show ¬ (k:Int)+1=p+1;omega)]
    have h3:First (fun j=>decide (zg b ((j:Int)+1)=0)) (k+1) p:=⟨by omega,h1.2.1,fun _=>h1.2.2 (by omega)⟩
    rw [First.unique h2 h3]
theorem zh9(b:List Int):zfP (zo b 40)=(QH b:Int)+1:=zjW b 40
theorem zh8(b:List Int):QH b<=40:=(qP b).1
theorem zrT{l:List (Int×Int×Int×Int)}{k:Nat}{e:(Int×Int×Int×Int)}(h:l[k]?=some e):zfP (l.take (k+1))=if e.1=zfP (l.take k) then zfP (l.take k)+1 else zfP (l.take k):=by
 rw [List.take_add_one,h]
 exact zjV _ _
theorem zyC:∀ (l:List (Int×Int×Int×Int)),1<=zfP l/\zfP l<=l.length+1:=by
 intro l
 have key:∀ (l:List (Int×Int×Int×Int)) (h:Int),h<=l.foldl (fun h e=>if e.1=h then h+1 else h) h/\l.foldl (fun h e=>if e.1=h then h+1 else h) h<=h+l.length:=by
  intro l
  induction l with
  | nil=>intro h;simp
  | cons e r ih =>
   intro h
   simp only [List.foldl_cons,List.length_cons]
   have:=ih (if e.1=h then h+1 else h)
   split at this
   ·rename_i he;rw [if_pos he];omega
   ·rename_i he;rw [if_neg he];omega
 have:=key l 1
 unfold zfP
 omega
theorem zx7{b r:List Int}{e:(Int×Int×Int×Int)}{x:Nat}(he:Za b e=0)(hx:288<=x)(hx2:x+r.length<=b.length):Za (splice b x r) e=0/\splice (putL b e) x r=putL (splice b x r) e:=by
 have hl:=length_splice hx2
 obtain⟨q1,q2,q3⟩:=qe.1 he
 have hh:=zm.1 q2
 have hp:=qx hh.1 hh.2
 have hr5:(zax e).length=5:=rfl
 have he2:Za (splice b x r) e=0:=qe.2 (by rw [hl];exact⟨q1,q2,q3⟩)
 refine⟨he2,?_⟩
 have hb1:plc e.1+(zax e).length<=b.length:=by rw [hr5];omega
 have hb2:plc e.1+(zax e).length<=(splice b x r).length:=by rw [hl];exact hb1
 have hl1:=length_splice hb1
 have hb3:x+r.length<=(splice b (plc e.1) (zax e)).length:=by rw [hl1];exact hx2
 unfold putL
 rw [if_pos he,if_pos he2]
 apply zJ
 ·rw [length_splice hb3,hl1,length_splice hb2,hl]
 ·intro j hj
  by_cases c1:j<plc e.1
  ·rw [zw hb3 (.inl (by omega)),zw hb1 (.inl c1),zw hb2 (.inl c1),zw hx2 (.inl (by omega))]
  ·by_cases c2:j<plc e.1+5
   ·obtain⟨i,rfl⟩:∃ i,j=plc e.1+i:=⟨j-plc e.1,by omega⟩
    rw [zw hb3 (.inl (by omega)),qi hb1 (by rw [hr5];omega),qi hb2 (by rw [hr5];omega)]
   ·have c3:plc e.1+(zax e).length<=j:=by rw [hr5];omega
    rw [zw hb2 (.inr c3)]
    by_cases c4:j<x
    ·rw [zw hb3 (.inl c4),zw hx2 (.inl c4),zw hb1 (.inr c3)]
    ·by_cases c5:j<x+r.length
     ·obtain⟨i,rfl⟩:∃ i,j=x+i:=⟨j-x,by omega⟩
      rw [qi hb3 (by omega),qi hx2 (by omega)]
     ·rw [zw hb3 (.inr (by omega)),zw hx2 (.inr (by omega)),zw hb1 (.inr c3)]
theorem Qs{n:Nat}(h1:288<=n)(h2:n<=6400):Fine (zerosB n)/\(∀ h:Int,zg (zerosB n) h=0)/\∀ i,i<8->zj (rowAt (zerosB n) i)=false:=by
 have hl:=length_zerosB n
 have ht:∀ h:Int,zg (zerosB n) h=0:=fun h=>by unfold zg;exact zcn n _
 have hr:∀ i,i<8->zj (rowAt (zerosB n) i)=false:=fun i hi=>zjt (by omega) hi (fun j _=>zcn n _)
 refine⟨zis (zM.2 (by rw [hl];omega)) (fun h _ _ q=>absurd (ht h) q) (fun h _ _ _ _ _ q _=>absurd (ht h) q) (fun h a1 a2 _=>(ze4 (by omega) a1 a2 (fun j _=>zcn n _)).2) (fun _ i hi=>qy.2 (.inl (hr i hi))),ht,hr⟩
theorem znV{b:List Int}(hf:Fine b){h t:Int}{x n:Nat}(he:Za (splice b x (zerosB n)) (h,(x:Int),(n:Int),t)=0)(h1:1<=h)(h2:h<=40)(hx:288<=x)(hx2:x+n<=b.length):∀ j,200<=j->j<288->(alL b h x n t).getD j 0=b.getD j 0:=fun j hj hj2=>by
 have hz:=length_zerosB n
 have hb:=hf.len
 have hp:=qx h1 h2
 have hr5:(zax (h,(x:Int),(n:Int),t)).length=5:=rfl
 unfold alL putL
 rw [if_pos he]
 dsimp only
 rw [zw (by rw [hr5,length_splice (by rw [hz];exact hx2)];omega) (by rw [hr5];exact .inr (by omega)),zw (by rw [hz];exact hx2) (.inl (by omega))]
end Go.Proofs.YtchmlnmhbfaclaaGreatDoor
