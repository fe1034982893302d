/-
  Parts of the proofs, joined by program.
-/
import Derived.Test.YtchmlnmhbfaclaaGreatDoorJChp
import Derived.Test.YtchmlnmhbfaclaaGreatDoorJImp
import Derived.Test.YtchmlnmhbfaclaaGreatDoorJHal
namespace Go.Proofs.YtchmlnmhbfaclaaGreatDoor
open Go.RowKit
set_option linter.unusedVariables false
def zlQ(b:List Int)(s:ByteArray)(i:Nat):Bool:=decide ((zG ((rowAt b i).take 8)).2=0) && decide ((zG ((rowAt b i).take 8)).1=s)
def plR(b:List Int)(s:ByteArray):Nat:=zil (zlQ b s) 8
def frR(b:List Int):Nat:=zil (fun i=>!zj (rowAt b i)) 8
def seI(b:List Int)(s:ByteArray):Nat:=if plR b s<8 then plR b s else frR b
def seE(b:List Int)(s:ByteArray)(h:Int):Int:=if Qb s=false then 2 else if zO b h≠0 then zO b h else if seI b s=8 then 4 else 0
def seB(b:List Int)(s:ByteArray)(h:Int):List Int:=prL b (seI b s) (s,h)
def seN(b:List Int)(s:ByteArray):Bool:=decide (plR b s=8)
def unE(b:List Int)(s:ByteArray):Int:=if Qb s=false then 2 else if plR b s=8 then 5 else 0
def unB(b:List Int)(s:ByteArray):List Int:=splice b (200+11 * plR b s) (zerosB 11)
theorem Zb(b:List Int)(s:ByteArray):First (zlQ b s) 8 (plR b s):=zB _ _
theorem zba(b:List Int):First (fun i=>!zj (rowAt b i)) 8 (frR b):=zB _ _
theorem zfD(b:List Int)(s:ByteArray):plR b s<=8:=(Zb b s).1
theorem zsx(b:List Int):frR b<=8:=(zba b).1
theorem zAg(b:List Int)(s:ByteArray):seI b s<=8:=by
 unfold seI
 split
 ·exact zfD b s
 ·exact zsx b
theorem zes{b:List Int}(hf:Fine b){s:ByteArray}{h:Int}(h0:seE b s h=0):prE b (seI b s) (s,h)=0/\seI b s<8/\Qb s=true/\zO b h=0:=by
 unfold seE at h0
 cases hn:Qb s with
 | false=>rw [hn,if_pos rfl] at h0;exact absurd h0 (by decide)
 | true =>
  rw [hn,if_neg (by simp)] at h0
  by_cases hc:zO b h=0
  ·rw [if_neg (fun h=>h hc)] at h0
   by_cases hi:seI b s=8
   ·rw [if_pos hi] at h0;exact absurd h0 (by decide)
   ·have hle:=zAg b s
    obtain⟨q1,q2,q3⟩:=zq.1 hc
    have hh:=zm.1 q2
    refine⟨zcw.2 ⟨hf.len0,by omega,by omega,?_⟩,by omega,rfl,hc⟩
    unfold ZL
    have hnr:¬ zaF (s,h)=true:=fun hx=>by have:=(zac.1 hx).2;dsimp only at this;omega
    rw [if_neg hnr,if_neg (by rw [q2];simp),if_pos hn]
  ·rw [if_pos hc] at h0;exact absurd h0 hc
def frE(L:List Int)(h:Int):Int:=if zO L h≠0 then zO L h else if (zk L 8).any (fun r=>r.2 == h)=true then 7 else 0
def frB(L:List Int)(h:Int):List Int:=if frE L h=0 then qh L h else L
theorem zcF{L:List Int}{h:Int}:frE L h=0 ↔ zO L h=0/\(zk L 8).any (fun r=>r.2 == h)=false:=by
 unfold frE
 by_cases h0:zO L h=0
 ·rw [if_neg (fun h=>h h0)]
  cases h1:(zk L 8).any (fun r=>r.2 == h) with
  | true=>rw [if_pos rfl];exact⟨fun h=>absurd h (by decide),fun h=>by cases h.2⟩
  | false=>rw [if_neg (by simp)];exact⟨fun _=>⟨h0,rfl⟩,fun _=>rfl⟩
 ·rw [if_pos h0]
  exact⟨fun h=>absurd h h0,fun h=>absurd h.1 h0⟩
theorem Zq{b:List Int}:∀ {k i:Nat},i<k->zj (rowAt b i)=true->rootOf (rowAt b i)∈zk b k
 | 0,i,h,_=>absurd h (Nat.not_lt_zero i)
 | k+1,i,h,hr=>by
  unfold zk
  by_cases e:i=k
  ·subst e
   rw [if_pos hr]
   simp
  ·exact List.mem_append.2 (.inl (Zq (by omega) hr))
theorem zsS{L:List Int}(hf:Fine L){h:Int}(h0:frE L h=0):Fine (qh L h):=by
 obtain⟨h1,h2⟩:=zcF.1 h0
 refine(zcg hf h1 (fun i hi hr e=>?_)).1
 have hm:=Zq hi hr
 have:=List.any_eq_false.1 h2 _ hm
 apply this
 rw [beq_iff_eq]
 exact e
theorem ziE{L:List Int}(hb:Byt L)(h:Int):Byt (qh L h):=by
 unfold qh
 split
 ·exact qv hb (byt_zerosB 5)
 ·exact fun z hz=>(by cases hz)
section
variable {b c:List Int}
theorem zm5{x:ByteArray}:∀ {k:Nat},x∈qZ b k->∃ i,i<k/\zj (rowAt b i)=true/\nameAt b i=x
 | 0,h=>by cases h
 | k+1,h=>by
  have h':x∈qZ b k++if qY b k (qZ b k)=true then [nameAt b k] else []:=h
  rcases List.mem_append.1 h' with h1 | h1
  ·obtain⟨i,hi,hr⟩:=zm5 h1
   exact⟨i,by omega,hr⟩
  ·by_cases hf:qY b k (qZ b k)=true
   ·rw [if_pos hf] at h1
    have hf':=hf
    unfold qY at hf'
    rw [Bool.and_eq_true] at hf'
    exact⟨k,by omega,hf'.1,(List.mem_singleton.1 h1).symm⟩
   ·rw [if_neg hf] at h1;cases h1
theorem zuQ(hf:∀ i,i<8->qN b i=[]){i k:Nat}(hi:i<k)(hk:k<=8)(hr:zj (rowAt b i)=true):nameAt b i∈qZ b k:=by
 induction k with
 | zero=>omega
 | succ k ih =>
  show nameAt b i∈qZ b k++if qY b k (qZ b k)=true then [nameAt b k] else []
  by_cases e:i=k
  ·subst e
   rcases qy.1 (hf i (by omega)) with h0 | h0
   ·rw [h0] at hr;cases hr
   ·rw [if_pos h0];simp
  ·exact List.mem_append.2 (.inl (ih (by omega) (by omega)))
theorem QO:(∀ i,i<8->qN b i=[]) ↔ (∀ i,i<8->zj (rowAt b i)=true->ziJ b i=false)/\∀ i j,i<j->j<8->zj (rowAt b i)=true->zj (rowAt b j)=true->nameAt b i≠nameAt b j:=by
 haveI:=zgr
 constructor
 ·intro hf
  have hfine:∀ i,i<8->zj (rowAt b i)=true->ziJ b i=false/\(qZ b i).contains (nameAt b i)=false:=fun i hi hr=>by
   rcases qy.1 (hf i hi) with h0 | h0
   ·rw [h0] at hr;cases hr
   ·unfold qY at h0
    rw [Bool.and_eq_true,Bool.and_eq_true,Bool.not_eq_true',Bool.not_eq_true'] at h0
    exact h0.2
  refine⟨fun i hi hr=>(hfine i hi hr).1,fun i j hij hj hi hr e=>?_⟩
  have h1:=(hfine j hj hr).2
  rw [<- e,List.contains_iff_mem.2 (zuQ hf hij (by omega) hi)] at h1
  cases h1
 ·rintro ⟨h1,h2⟩ i hi
  refine qy.2 ?_
  cases hr:zj (rowAt b i) with
  | false=>exact .inl rfl
  | true =>
   refine .inr ?_
   unfold qY
   rw [hr,h1 i hi hr]
   cases hc:(qZ b i).contains (nameAt b i) with
   | false=>rfl
   | true =>
    obtain⟨j,hj,hjr,e⟩:=zm5 (List.contains_iff_mem.1 hc)
    exact absurd e (h2 j i hj hi hjr hr)
theorem Qc{r:(ByteArray×Int)}:∀ {k:Nat},r∈zk b k ↔ ∃ i,i<k/\zj (rowAt b i)=true/\rootOf (rowAt b i)=r
 | 0=>by simp [zk]
 | k+1=>by
  constructor
  ·intro h
   have h':r∈zk b k++if zj (rowAt b k)=true then [rootOf (rowAt b k)] else []:=h
   rcases List.mem_append.1 h' with h1 | h1
   ·obtain⟨i,hi,hr⟩:=Qc.1 h1
    exact⟨i,by omega,hr⟩
   ·by_cases hr:zj (rowAt b k)=true
    ·rw [if_pos hr] at h1
     exact⟨k,by omega,hr,(List.mem_singleton.1 h1).symm⟩
    ·rw [if_neg hr] at h1;cases h1
  ·rintro ⟨i,hi,hr,rfl⟩
   exact Zq hi hr
theorem zjp{l:List Int}(h:zj l=false)(hl:l.length=11):l=zerosB 11:=by
 apply List.ext_getElem
 ·rw [hl,length_zerosB]
 ·intro i h1 h2
  have:=List.any_eq_false.1 h l[i] (List.getElem_mem h1)
  have e:l[i]=0:=by simpa using this
  rw [e]
  exact(List.getElem_replicate ..).symm
theorem zhO:(zG ((zerosB 11).take 8)).2=2:=by decide
theorem QD(hf:Fine b){s:ByteArray}{i:Nat}(hi:i<8):zlQ b s i=true ↔ zj (rowAt b i)=true/\nameAt b i=s:=by
 have hl:=hf.len
 unfold zlQ
 rw [Bool.and_eq_true,decide_eq_true_iff,decide_eq_true_iff]
 constructor
 ·rintro ⟨h1,h2⟩
  cases hr:zj (rowAt b i) with
  | true=>exact⟨rfl,h2⟩
  | false =>
   rw [zjp hr (zu (by omega)),zhO] at h1
   cases h1
 ·rintro ⟨h1,h2⟩
  have:=(QO.1 (zX.1 hf.ok).2).1 i hi h1
  exact⟨(Zu.1 this).1,h2⟩
theorem zcz(hf:Fine b){s:ByteArray}{i:Nat}(hi:i<8)(hr:zj (rowAt b i)=true)(hn:nameAt b i=s):zL (zk b 8) s=(rowAt b i).getD 10 0:=by
 have hap:=zgt hf.ok
 have hm:(s,(rowAt b i).getD 10 0)∈zk b 8:=Qc.2 ⟨i,hi,hr,by unfold rootOf;rw [<- hn];rfl⟩
 exact(zid hap (hap.pos _ hm).1).2 hm
theorem zca{s:ByteArray}(hn:∀ i,i<8->zj (rowAt b i)=true->nameAt b i≠s):zL (zk b 8) s=0:=by
 unfold zL
 have:(zk b 8).find? (fun r=>r.1 == s)=none:=List.find?_eq_none.2 (fun r hr=>by
  obtain⟨i,hi,hq,rfl⟩:=Qc.1 hr
  intro h
  exact hn i hi hq (zcm.1 h))
 rw [this]
 rfl
theorem zr1(hf:Fine b)(s:ByteArray):zL (zk b 8) s=if plR b s<8 then (rowAt b (plR b s)).getD 10 0 else 0:=by
 have hp:=Zb b s
 by_cases h:plR b s<8
 ·rw [if_pos h]
  obtain⟨h1,h2⟩:=(QD hf h).1 (hp.2.2 h)
  exact zcz hf h h1 h2
 ·rw [if_neg h]
  refine zca (fun i hi hr e=>?_)
  have:=hp.2.1 i (by omega)
  rw [(QD hf hi).2 ⟨hr,e⟩] at this
  cases this
theorem zeZ(hf:Fine b){i:Nat}(hi:i<8)(hr:zj (rowAt b i)=true):1<=(rowAt b i).getD 10 0/\(rowAt b i).getD 10 0<=40/\zg b ((rowAt b i).getD 10 0)≠0:=by
 obtain⟨_,_,_,h4,h5⟩:=Zu.1 ((QO.1 (zX.1 hf.ok).2).1 i hi hr)
 have:=zm.1 h4
 exact⟨this.1,this.2,(zav.1 h5).1⟩
structure Row1 (b c:List Int) (i:Nat) (r:List Int):Prop where
 lt:i<8
 len:c.length=b.length
 here:rowAt c i=r
 else_:∀ j,j<8->j≠i->rowAt c j=rowAt b j
 ents:∀ h,1<=h->h<=40->zg c h=zg b h/\ze c h=ze b h
 tail:∀ j,288<=j->c.getD j 0=b.getD j 0
theorem zfx(hl:288<=b.length){i:Nat}(hi:i<8){r:List Int}(hr:r.length=11):Row1 b (splice b (200+11 * i) r) i r:=by
 have hfit:200+11 * i+r.length<=b.length:=by omega
 have hlen:=length_splice hfit
 refine⟨hi,hlen,zmN hr (by omega),fun j hj hne=>zjs hfit (by omega) (by omega),fun h h1 h2=>?_,fun j hj=>zw hfit (by omega)⟩
 have hp:=qx h1 h2
 exact zeo hlen hl h1 h2 (fun j hj=>zw hfit (by omega))
theorem Row1.hands{i:Nat}{r:List Int}(t:Row1 b c i r)(hf:Fine b):(∀ h,1<=h->h<=40->Qo c h=[])/\∀ h,1<=h->h<=40->whE c h=whE b h:=by
 have hw:=zpS t.len t.ents
 refine⟨fun h h1 h2=>?_,hw⟩
 obtain⟨e1,e2⟩:=t.ents h h1 h2
 have:=qD.1 ((zX.1 hf.ok).1 h h1 h2)
 exact qD.2 (by rw [hw h h1 h2,e1,e2];exact this)
theorem Row1.fine_none{i:Nat}(t:Row1 b c i (zerosB 11))(hf:Fine b):Fine c:=by
 obtain⟨h1,hw⟩:=t.hands hf
 obtain⟨r1,r2⟩:=QO.1 (zX.1 hf.ok).2
 have hroot:∀ j,j<8->zj (rowAt c j)=true->j≠i/\zj (rowAt b j)=true:=fun j hj hr=>by
  by_cases e:j=i
  ·subst e;rw [t.here,ZH] at hr;cases hr
  ·rw [t.else_ j hj e] at hr;exact⟨e,hr⟩
 refine⟨by rw [t.len];exact hf.len,zX.2 ⟨h1,QO.2 ⟨fun j hj hr=>?_,fun j k hjk hk hj hr=>?_⟩⟩⟩
 ·obtain⟨hne,hb⟩:=hroot j hj hr
  obtain⟨q1,q2,q3,q4,q5⟩:=Zu.1 (r1 j hj hb)
  have hx:=zm.1 q4
  refine Zu.2 ?_
  rw [t.else_ j hj hne]
  exact⟨q1,q2,q3,q4,by rw [hw _ hx.1 hx.2];exact q5⟩
 ·obtain⟨n1,b1⟩:=hroot j (by omega) hj
  obtain⟨n2,b2⟩:=hroot k hk hr
  have:=r2 j k hjk hk b1 b2
  unfold nameAt at this ⊢
  rw [t.else_ j (by omega) n1,t.else_ k hk n2]
  exact this
theorem Row1.fine_root{i:Nat}{s:ByteArray}{h:Int}(t:Row1 b c i (zbR (s,h)))(hf:Fine b)(hn:Qb s=true)(hc:zO b h=0)(hno:∀ j,j<8->j≠i->zj (rowAt b j)=true->nameAt b j≠s) :
  Fine c/\zj (rowAt c i)=true/\nameAt c i=s/\(rowAt c i).getD 10 0=h:=by
 obtain⟨h1,hw⟩:=t.hands hf
 obtain⟨r1,r2⟩:=QO.1 (zX.1 hf.ok).2
 obtain⟨q1,q2,q3⟩:=zq.1 hc
 have hh:=zm.1 q2
 have hnr:¬ zaF (s,h)=true:=fun hx=>by have:=(zac.1 hx).2;dsimp only at this;omega
 have hre:ZL (s,h)=0:=by unfold ZL;rw [if_neg hnr,if_neg (by rw [q2];simp),if_pos hn]
 obtain⟨g1,g2⟩:=zcW hre hnr
 have hi:=t.here
 have e1:nameAt c i=s:=by unfold nameAt;rw [hi];exact congrArg Prod.fst g2
 have e2:(rowAt c i).getD 10 0=h:=by rw [hi];exact congrArg Prod.snd g2
 have hok:=zS.1 hn
 have hrow:zbR (s,h)=zI s++[0,0,h % 256]:=by unfold zbR;rw [if_neg hnr]
 have hl8:=zH s hok.2.1
 have hread:(zG ((zbR (s,h)).take 8)).2=0:=by
  rw [hrow,List.take_append_of_le_length (by omega),List.take_of_length_le (by omega)]
  have f1:zp (zI s)=s.size:=(zB _ _).unique (zbz s hok)
  have f2:QT (zI s) s.size=8-s.size:=(zB _ _).unique (zby s hok.2.1)
  unfold zG
  rw [if_neg (fun h=>h hl8),f1,f2,hl8,if_neg (by have:=hok.1;omega)]
 have hbad:ziJ c i=false:=by
  refine Zu.2 ?_
  rw [e2,hi]
  refine⟨hread,?_,?_,q2,?_⟩
  ·rw [hrow,List.getD,List.getElem?_append_right (by omega),hl8];rfl
  ·rw [hrow,List.getD,List.getElem?_append_right (by omega),hl8];rfl
  ·rw [hw h hh.1 hh.2]
   exact(hf.hand hh.1 hh.2 q3).1
 refine⟨⟨by rw [t.len];exact hf.len,zX.2 ⟨h1,QO.2 ⟨fun j hj hr=>?_,fun j k hjk hk hj hr=>?_⟩⟩⟩,by rw [hi];exact g1,e1,e2⟩
 ·by_cases e:j=i
  ·subst e;exact hbad
  ·have hb:zj (rowAt b j)=true:=by rw [<- t.else_ j hj e];exact hr
   obtain⟨p1,p2,p3,p4,p5⟩:=Zu.1 (r1 j hj hb)
   have hx:=zm.1 p4
   refine Zu.2 ?_
   rw [t.else_ j hj e]
   exact⟨p1,p2,p3,p4,by rw [hw _ hx.1 hx.2];exact p5⟩
 ·have key:∀ j,j<8->j≠i->zj (rowAt c j)=true->zj (rowAt b j)=true/\nameAt c j=nameAt b j:=fun j hj e hr=>by
   have he:=t.else_ j hj e
   exact⟨by rw [<- he];exact hr,by unfold nameAt;rw [he]⟩
  by_cases ej:j=i
  ·subst ej
   obtain⟨k1,k2⟩:=key k hk (by omega) hr
   rw [e1,k2]
   exact fun e=>hno k hk (by omega) k1 e.symm
  ·obtain⟨j1,j2⟩:=key j (by omega) ej hj
   by_cases ek:k=i
   ·subst ek
    rw [e1,j2]
    exact hno j (by omega) ej j1
   ·obtain⟨k1,k2⟩:=key k hk ek hr
    rw [j2,k2]
    exact r2 j k hjk hk j1 k1
theorem Row1.objs{i:Nat}{r:List Int}(t:Row1 b c i r)(hf:Fine b)(h:Int)(h1:1<=h)(h2:h<=40):zP c h=zP b h/\zO c h=zO b h/\zaQ c h=zaQ b h:=by
 obtain⟨e1,e2⟩:=t.ents h h1 h2
 refine⟨zcx t.len e1 e2 (fun ht j hj _=>t.tail j ?_),?_,?_⟩
 ·have:=(hf.ent h1 h2 ht).1
  omega
 ·unfold zO;rw [t.len,e1]
 ·unfold zaQ zO;rw [t.len,e1,e2]
end
section
variable {b c:List Int} {s:ByteArray} {h:Int}
theorem zhR(hf:Fine b){i:Nat}(hi:i<8)(hr:zj (rowAt b i)=true)(hn:nameAt b i=s):plR b s=i:=by
 have hp:=Zb b s
 have h1:=(QD hf hi).2 ⟨hr,hn⟩
 have hle:plR b s<=i:=Nat.le_of_not_lt fun hlt=>by
  have:=hp.2.1 i hlt
  rw [h1] at this
  cases this
 refine Classical.byContradiction fun hne=>?_
 obtain⟨g1,g2⟩:=(QD hf (show plR b s<8 by omega)).1 (hp.2.2 (by omega))
 exact(QO.1 (zX.1 hf.ok).2).2 _ i (by omega) hi g1 hr (by rw [g2,hn])
theorem zhS(hf:Fine b)(hn:∀ i,i<8->zj (rowAt b i)=true->nameAt b i≠s):plR b s=8:=by
 have hp:=Zb b s
 have hle:=zfD b s
 refine Classical.byContradiction fun hne=>?_
 obtain⟨g1,g2⟩:=(QD hf (show plR b s<8 by omega)).1 (hp.2.2 (by omega))
 exact hn _ (by omega) g1 g2
theorem zdr(hf:Fine b)(h0:seE b s h=0):Row1 b (seB b s h) (seI b s) (zbR (s,h)):=by
 obtain⟨h1,h2,h3,h4⟩:=zes hf h0
 obtain⟨_,_,_,q4⟩:=zcw.1 h1
 have e:seB b s h=splice b (200+11 * seI b s) (zbR (s,h)):=by unfold seB prL;rw [if_pos h1,Int.toNat_natCast]
 rw [e]
 exact zfx hf.len.1 h2 (zdu q4)
theorem zCK(hf:Fine b)(h0:seE b s h=0):∀ j,j<8->j≠seI b s->zj (rowAt b j)=true->nameAt b j≠s:=fun j hj hne hr e=>by
 have hp:=zhR hf hj hr e
 apply hne
 unfold seI
 rw [hp,if_pos hj]
theorem zbo(hf:Fine b)(h0:seE b s h=0):Fine (seB b s h)/\zj (rowAt (seB b s h) (seI b s))=true/\nameAt (seB b s h) (seI b s)=s/\(rowAt (seB b s h) (seI b s)).getD 10 0=h:=by
 obtain⟨_,_,h3,h4⟩:=zes hf h0
 exact(zdr hf h0).fine_root hf h3 h4 (zCK hf h0)
theorem zqD(hf:Fine b)(h0:seE b s h=0):zL (zk (seB b s h) 8) s=h:=by
 obtain⟨f,r,n,g⟩:=zbo hf h0
 rw [zcz f (zes hf h0).2.1 r n,g]
theorem zww(hb:Byt b)(s:ByteArray)(h:Int):Byt (seB b s h):=by
 unfold seB prL
 split
 ·exact qv hb (znN _)
 ·exact fun z hz=>(by cases hz)
theorem zd3(h0:unE b s=0):Qb s=true/\plR b s<8:=by
 unfold unE at h0
 have:=zfD b s
 cases hn:Qb s with
 | false=>rw [hn,if_pos rfl] at h0;exact absurd h0 (by decide)
 | true =>
  rw [hn,if_neg (by simp)] at h0
  by_cases h8:plR b s=8
  ·rw [if_pos h8] at h0;exact absurd h0 (by decide)
  ·exact⟨rfl,by omega⟩
theorem zi4(hf:Fine b)(h0:unE b s=0):Row1 b (unB b s) (plR b s) (zerosB 11):=zfx hf.len.1 (zd3 h0).2 (length_zerosB 11)
theorem zhz(hf:Fine b)(h0:unE b s=0):Fine (unB b s):=(zi4 hf h0).fine_none hf
theorem zz3(hb:Byt b)(s:ByteArray):Byt (unB b s):=qv hb (byt_zerosB 11)
end
theorem zjC{s:ByteArray}(h:ZO s):zG (zI s)=(s,0):=by
 have hl:=zH s h.2.1
 have f1:zp (zI s)=s.size:=(zB _ _).unique (zbz s h)
 have f2:QT (zI s) s.size=8-s.size:=(zB _ _).unique (zby s h.2.1)
 unfold zG
 rw [if_neg (fun h=>h hl),f1,f2,hl,if_neg (by have:=h.1;omega),zec]
theorem zoA{l:List Int}(hb:Byt l)(h0:(zG l).2=0):l.length=8/\ZO (zG l).1/\zI (zG l).1=l:=by
 unfold zG at h0 ⊢
 by_cases hl:l.length=8
 ·rw [if_neg (fun h=>h hl)] at h0 ⊢
  by_cases hc:zp l=0\/QT l (zp l)<l.length-zp l
  ·rw [if_pos hc] at h0;exact absurd h0 (by decide)
  ·rw [if_neg hc]
   have hf:First (fun j=>(!ltr (l.getD j 0))) l.length (zp l):=zB _ _
   have hz:First (fun j=>((l.drop (zp l)).getD j 0 != 0)) (l.drop (zp l)).length (QT l (zp l)):=zB _ _
   generalize zp l=n at *
   generalize QT l n=z at *
   have hn8:n<=8:=by have:=hf.1;omega
   have hbt:Byt (l.take n):=fun x hx=>hb x (List.mem_of_mem_take hx)
   have hsl:strL (strOf (l.take n))=l.take n:=strL_strOf _ hbt
   have hsz:(strOf (l.take n)).size=n:=by rw [<- length_strL,hsl,List.length_take];omega
   refine⟨hl,⟨by rw [hsz];omega,by rw [hsz];exact hn8,?_⟩,?_⟩
   ·rw [hsz]
    refine⟨Nat.le_refl _,fun j hj=>?_,fun h=>absurd h (Nat.lt_irrefl _)⟩
    have:=hf.2.1 j hj
    dsimp only at this ⊢
    rw [hsl]
    rw [show(l.take n).getD j 0=l.getD j 0 by simp [List.getD,hj]]
    exact this
   ·have hdl:(l.drop n).length=8-n:=by rw [List.length_drop];omega
    have hz8:z=8-n:=by have:=hz.1;omega
    apply zJ
    ·rw [zH _ (by rw [hsz];exact hn8),hl]
    ·intro j hj
     by_cases hjn:j<n
     ·rw [zh1 _ j (by rw [hsz];exact hjn),hsl]
      simp [List.getD,hjn]
     ·rw [zh2 _ j (by rw [hsz];omega)]
      rw [zH _ (by rw [hsz];exact hn8)] at hj
      have:=hz.2.1 (j-n) (by omega)
      simp [List.getD] at this
      rw [show n+(j-n)=j by omega] at this
      simpa [List.getD] using this.symm
 ·rw [if_pos hl] at h0;exact absurd h0 (by decide)
def isL(b l:List Int)(i:Nat):Bool:=decide ((rowAt b i).take 8=l)
def plL(b l:List Int):Nat:=zil (isL b l) 8
theorem zfE(b l:List Int):First (isL b l) 8 (plL b l):=zB _ _
theorem zvh{b:List Int}{s:ByteArray}(hb:Byt b)(hn:Qb s=true)(i:Nat):isL b (zI s) i=zlQ b s i:=by
 have hbt:Byt ((rowAt b i).take 8):=fun x hx=>hb x (by
  have h1:=List.mem_of_mem_take hx
  unfold rowAt at h1
  exact List.mem_of_mem_drop (List.mem_of_mem_take h1))
 rw [Bool.eq_iff_iff]
 unfold isL zlQ
 rw [decide_eq_true_iff,Bool.and_eq_true,decide_eq_true_iff,decide_eq_true_iff]
 constructor
 ·intro h
  rw [h,zjC (zS.1 hn)]
  exact⟨rfl,rfl⟩
 ·rintro ⟨h1,h2⟩
  have:=(zoA hbt h1).2.2
  rw [h2] at this
  exact this.symm
theorem zdw{b:List Int}{s:ByteArray}(hb:Byt b)(hn:Qb s=true):plL b (zI s)=plR b s:=by
 unfold plL plR
 rw [show isL b (zI s)=zlQ b s from funext (zvh hb hn)]
theorem znm{b:List Int}(hf:Fine b){i:Nat}(hi:i<8):isL b (zerosB 8) i=!zj (rowAt b i):=by
 have hl:=hf.len
 unfold isL
 cases hr:zj (rowAt b i) with
 | false =>
  rw [zjp hr (zu (by omega))]
  decide
 | true =>
  have:=(Zu.1 ((QO.1 (zX.1 hf.ok).2).1 i hi hr)).1
  rw [decide_eq_false_iff_not.2 (fun e=>by rw [e] at this;exact absurd this (by decide))]
  rfl
theorem zuE{b:List Int}(hf:Fine b):plL b (zerosB 8)=frR b:=by
 have h:=zba b
 refine(zfE b _).unique ⟨h.1,fun j hj=>?_,fun hj=>?_⟩
 ·rw [znm hf (by have:=h.1;omega)]
  exact h.2.1 j hj
 ·rw [znm hf hj]
  exact h.2.2 hj
theorem zr0{R:List (ByteArray×Int)}{k:Nat}{r:(ByteArray×Int)}{s:ByteArray}(h:R[k]?=some r):zL (R.drop k) s=if r.1=s then r.2 else zL (R.drop (k+1)) s:=by
 obtain⟨hk,rfl⟩:=List.getElem?_eq_some_iff.1 h
 rw [List.drop_eq_getElem_cons hk]
 unfold zL
 by_cases e:R[k].1=s
 ·rw [if_pos e,List.find?_cons_of_pos (p:=fun(r:(ByteArray×Int))=>r.1 == s) (zcm.2 e)]
  rfl
 ·rw [if_neg e,List.find?_cons_of_neg (p:=fun(r:(ByteArray×Int))=>r.1 == s) (fun h=>e (zcm.1 h))]
def gtE(b:List Int)(s:ByteArray)(t:Int):Int :=
 if Qb s=false then 2 else if t < -1\/15<t then 1 else if zL (zk b 8) s=0 then 5 else if t≠-1/\t≠(zaQ b (zL (zk b 8) s)).2.2.2 then 8 else 0
def gtH(b:List Int)(s:ByteArray)(t:Int):Int:=if gtE b s t=0 then zL (zk b 8) s else 0
def seO(b:List Int)(s:ByteArray)(h:Int):Bool:=decide (seE b s h=0) && seN b s
def seF(b:List Int)(s:ByteArray)(h:Int):List Int:=if seE b s h=0 then seB b s h else b
def unF(b:List Int)(s:ByteArray):List Int:=if unE b s=0 then unB b s else b
theorem zha{b:List Int}(hf:Fine b)(s:ByteArray):zL (zk b 8) s=0\/(1<=zL (zk b 8) s/\zL (zk b 8) s<=40/\zO b (zL (zk b 8) s)=0):=by
 have hp:=Zb b s
 rw [zr1 hf]
 by_cases h:plR b s<8
 ·rw [if_pos h]
  obtain⟨h1,h2,h3⟩:=zeZ hf h ((QD hf h).1 (hp.2.2 h)).1
  exact .inr ⟨h1,h2,zq.2 ⟨hf.len0,zm.2 ⟨h1,h2⟩,h3⟩⟩
 ·exact .inl (if_neg h)
theorem zz2{b:List Int}(hf:Fine b){i:Nat}(hi:i<8):prE b i (({ data:=#[]}:ByteArray),0)=0/\prL b i (({ data:=#[]}:ByteArray),0)=splice b (200+11 * i) (zerosB 11):=by
 have hr:ZL (({ data:=#[]}:ByteArray),0)=0:=by decide
 have hp:prE b i (({ data:=#[]}:ByteArray),0)=0:=zcw.2 ⟨hf.len0,by omega,by omega,hr⟩
 refine⟨hp,?_⟩
 unfold prL
 rw [if_pos hp,Int.toNat_natCast]
 rfl
theorem zwv{b:List Int}(hf:Fine b){s:ByteArray}{h:Int}(h0:seE b s h=0):prL b (seI b s) (s,h)=seB b s h/\Fine (prL b (seI b s) (s,h)):=⟨rfl,(zbo hf h0).1⟩
section
variable {L:List Int} {n t:Int}
theorem zgw(hf:Fine L)(h0:alE L n t=0){j:Nat}(hj:j<8):rowAt (alB L n t) j=rowAt L j:=by
 obtain⟨x,N,hk⟩:=zep hf h0
 have hl:=hf.len
 have hlow:=hk.low
 obtain⟨_,k2,_⟩:=hk.keep hf h0
 have hz:=length_zerosB N
 have hsl:(splice L x (zerosB N)).length=L.length:=length_splice (by rw [hz];exact hk.x2)
 have hp:Za (splice L x (zerosB N)) ((QH L:Int)+1,(x:Int),(N:Int),t)=0 :=
  qe.2 ⟨by rw [hsl];exact hf.len0,zm.2 ⟨by show 1<=(QH L:Int)+1;omega,by show(QH L:Int)+1<=40;omega⟩,hk.t1,hk.t2,by have:=hk.n1;show 1<=(N:Int);omega,by have:=hk.n2;show(N:Int)<=1000;omega,by have:=hk.x1;show 288<=(x:Int);omega,by rw [hsl];have:=hk.x2;show(x:Int)+N<=_;omega⟩
 apply zJ
 ·rw [zu (by omega),zu (by omega)]
 ·intro q hq
  rw [zu (by omega)] at hq
  rw [zF hq,zF hq,(hk.img h0).1]
  exact znV hf hp (by omega) (by omega) hk.x1 hk.x2 _ (by omega) (by omega)
theorem zAf{b:List Int}(hf:Fine b){s:ByteArray}{x:Int}(h0:seE b s x=0){T:Int}(ht1:-1<=T)(ht2:T<=15) :
  gtE (seB b s x) s T=(if T≠-1/\T≠(zaQ b x).2.2.2 then 8 else 0)/\gtH (seB b s x) s T=(if T≠-1/\T≠(zaQ b x).2.2.2 then 0 else x):=by
 obtain⟨_,_,hn,hc⟩:=zes hf h0
 have hx:=zm.1 (zq.1 hc).2.1
 have hl:=zqD hf h0
 have hge:=((zdr hf h0).objs hf x hx.1 hx.2).2.2
 have e1:gtE (seB b s x) s T=(if T≠-1/\T≠(zaQ b x).2.2.2 then 8 else 0):=by
  unfold gtE
  rw [if_neg (by rw [hn];simp),if_neg (by omega),hl,if_neg (by omega),hge]
 refine⟨e1,?_⟩
 unfold gtH
 rw [e1,hl]
 by_cases h:T≠-1/\T≠(zaQ b x).2.2.2
 ·rw [if_pos h,if_pos h,if_neg (by decide)]
 ·rw [if_neg h,if_neg h,if_pos rfl]
theorem zyV{b c:List Int}{s:ByteArray}(h:zL (zk c 8) s=zL (zk b 8) s):gtE c s (-1)=gtE b s (-1)/\gtH c s (-1)=gtH b s (-1):=by
 have e:∀ d:List Int,gtE d s (-1)=if Qb s=false then 2 else if zL (zk d 8) s=0 then 5 else 0:=fun d=>by
  unfold gtE
  by_cases hn:Qb s=false
  ·rw [if_pos hn,if_pos hn]
  ·rw [if_neg hn,if_neg hn,if_neg (by omega)]
   by_cases h0:zL (zk d 8) s=0
   ·rw [if_pos h0,if_pos h0]
   ·rw [if_neg h0,if_neg h0,if_neg (fun h=>h.1 rfl)]
 have e1:gtE c s (-1)=gtE b s (-1):=by rw [e,e,h]
 refine⟨e1,?_⟩
 unfold gtH
 rw [e1,h]
end
end Go.Proofs.YtchmlnmhbfaclaaGreatDoor
