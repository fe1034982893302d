/-
  Parts of the proofs.
-/
import Derived.Test.YtcimhnnendlblaaGreatJChp
set_option maxRecDepth 100000
set_option maxHeartbeats 16000000
set_option linter.all false
namespace Go.Proofs.YtcimhnnendlblaaGreat
section
open Go.RowKit
def Eg(L:List Int)(h:Int):Int:=if aP L h≠0 then aP L h else if (ak L 8).any (fun r=>r.2 == h)=true then 7 else 0
def J1(L:List Int)(h:Int):List Int:=if Eg L h=0 then cN L h else L
theorem uU{L:List Int}{h:Int}:Eg L h=0 ↔ aP L h=0/\(ak L 8).any (fun r=>r.2 == h)=false:=by
 unfold Eg;by_cases h0:aP L h=0
 ·rw [if_neg (fun h=>h h0)];cases h1:(ak L 8).any (fun r=>r.2 == h) with
  | true=>rw [if_pos rfl];exact⟨fun h=>absurd h (by decide),fun h=>by cases h.2⟩
  | false=>rw [if_neg (by simp)];exact⟨fun _=>⟨h0,rfl⟩,fun _=>rfl⟩
 ·rw [if_pos h0];exact⟨fun h=>absurd h h0,fun h=>absurd h.1 h0⟩
theorem iZ{b:List Int}:∀ {k i:Nat},i<k->isRoot (rowAt b i)=true->rootOf (rowAt b i)∈ak b k
 | 0,i,h,_=>absurd h (Nat.not_lt_zero i)
 | k+1,i,h,hr=>by
  unfold ak;by_cases e:i=k
  ·subst e;rw [if_pos hr];simp
  ·exact List.mem_append.2 (.inl (iZ (by omega) hr))
theorem P8{L:List Int}(hf:aB L){h:Int}(h0:Eg L h=0):aB (cN L h):=by obtain⟨h1,h2⟩:=uU.1 h0;refine(wX hf h1 (fun i hi hr e=>?_)).1;have hm:=iZ hi hr;have:=List.any_eq_false.1 h2 _ hm;apply this;rw [beq_iff_eq];exact e
theorem Bj{L:List Int}(hb:bj L)(h:Int):bj (cN L h):=by
 unfold cN;split
 ·exact bN hb (bW 5)
 ·exact fun z hz=>(by cases hz)
section
variable {b:List Int}
theorem Vx(hf:aB b){e:(Int×Int×Int×Int)}(he:di b e=0)(gI:∀ k,1<=k->k<=40->k≠e.1->aq b k≠0->nZ e (ai b k)=false) :
  aB (bP b e)/\(∀ k,1<=k->k<=40->k≠e.1->aq (bP b e) k=aq b k/\ai (bP b e) k=ai b k)/\aq (bP b e) e.1≠0/\ai (bP b e) e.1=e/\(bP b e).length=b.length/\(∀ j,200<=j->(bP b e).getD j 0=b.getD j 0):=by
 have hb:=hf.len;have hlen:=lZ he;obtain⟨_,hh,_⟩:=bS.1 he;have D4:=aF.1 hh;have hp:=cH D4.1 D4.2;have sh:(dB e).length=5:=rfl;have hL:bP b e=splice b (cJ e.1) (dB e):=by unfold bP;rw [if_pos he]
 obtain⟨JO,qg⟩:=zU he;have jQ:aq (bP b e) e.1≠0:=(aJ.1 JO).2.2;have fe:∀ k,1<=k->k<=40->k≠e.1->aq (bP b e) k=aq b k/\ai (bP b e) k=ai b k:=fun k k1 k2 hk=>by rw [hL];exact lV sh hb.1 D4.1 D4.2 k1 k2 hk
 have qN:∀ j,200<=j->(bP b e).getD j 0=b.getD j 0:=fun j hj=>by rw [hL,aY (by rw [sh];omega) (by rw [sh];omega)]
 have bn:∀ i,i<8->rowAt (bP b e) i=rowAt b i:=fun i hi=>by
  apply bQ
  ·rw [aS (by omega),aS (by omega)]
  ·intro j hj;rw [aS (by omega)] at hj;rw [bH hj,bH hj];exact qN _ (by omega)
 refine⟨ze (by rw [hlen];exact hf.cW) (fun h h1 h2 ht=>?_) (fun h k h1 h2 k1 aM ht kt=>?_) (fun h h1 h2 ht=>?_) (fun hw=>?_),fe,jQ,qg,hlen,qN⟩
 ·by_cases hq:h=e.1
  ·subst hq;rw [qg,ig hlen];exact he
  ·obtain⟨e1,e2⟩:=fe h h1 h2 hq;rw [e1] at ht;rw [e2,ig hlen];exact(hf.hand h1 h2 ht).2
 ·by_cases hq:h=e.1
  ·subst hq;obtain⟨e1,e2⟩:=fe k k1 (by omega) (by omega);rw [e1] at kt;rw [qg,e2];exact gI k k1 (by omega) (by omega) kt
  ·obtain⟨e1,e2⟩:=fe h h1 h2 hq;rw [e1] at ht;by_cases GM:k=e.1
   ·subst GM;rw [e2,qg,wC];exact gI h h1 h2 hq ht
   ·obtain⟨e3,e4⟩:=fe k k1 (by omega) GM;rw [e3] at kt;rw [e2,e4];exact hf.apart h1 h2 k1 (by omega) (by omega) ht kt
 ·by_cases hq:h=e.1
  ·subst hq;exact absurd ht jQ
  ·obtain⟨e1,e2⟩:=fe h h1 h2 hq;rw [e1] at ht;rw [e2];rcases dH.1 ((bV.1 hf.ok).1 h h1 h2) with hw | hw
   ·exact absurd ht (iJ.1 hw).1
   ·exact hw.2
 ·refine(oW bn (fun i hi hq _ fR=>?_) (bV.1 hf.ok).2 8 (by omega)).2;have hx:=aF.1 hq;have ht:=(iJ.1 fR).1;refine hw _ hx.1 hx.2 ?_;by_cases GM:(rowAt b i).getD 10 0=e.1
  ·rw [GM];exact jQ
  ·rw [(fe _ hx.1 hx.2 GM).1];exact ht
def tf(b:List Int)(h:Int)(at':Nat):List Int:=splice (bP b (h,(at':Int),(ai b h).2.2.1,(ai b h).2.2.2)) at' (aD b h).2
structure Mvd (b c:List Int) (h:Int) (at':Nat):Prop where
 aV:aB c
 len:c.length=b.length
 jB:ai c h=(h,(at':Int),(ai b h).2.2.1,(ai b h).2.2.2)
 tag:aq c h≠0
 other:∀ k,1<=k->k<=40->k≠h->aq c k=aq b k/\ai c k=ai b k
 tc:∀ k,1<=k->k<=40->aD c k=aD b k
 roots:ak c 8=ak b 8
theorem pE{h:Int}:(ai b h).1=h:=rfl
theorem zhu(hf:aB b){h:Int}(h1:1<=h)(h2:h<=40)(ht:aq b h≠0){at':Nat}(ha:288<=at')(hle:(at':Int)<=(ai b h).2.1)
  (gI:∀ k,1<=k->k<=40->k≠h->aq b k≠0->(ai b k).2.1+(ai b k).2.2.1<=at'\/(at':Int)+(ai b h).2.2.1<=(ai b k).2.1):Mvd b (tf b h at') h at':=by
 have fc:=hf.jB h1 h2 ht;have he:di b (h,(at':Int),(ai b h).2.2.1,(ai b h).2.2.2)=0:=bS.2 ⟨hf.cW,aF.2 ⟨h1,h2⟩,fc.2.2.2.2.1,fc.2.2.2.2.2,fc.2.1,fc.2.2.1,by dsimp only;omega,by dsimp only;omega⟩;obtain⟨pf,po,pt,pe,pl,ptl⟩:=Vx hf he (fun k k1 k2 hk BQ=>by rw [pq];exact gI k k1 k2 hk BQ);dsimp only at po pt pe;have tG:(aD b h).2=cP b (ai b h).2.1 (ai b h).2.2.1:=by unfold aD gu;rw [if_neg ht]
 have Cg:(aD b h).2.length=(ai b h).2.2.1.toNat:=by rw [tG];unfold cP;rw [zLt,zLd];omega
 have dc:at'+(aD b h).2.length<=(bP b (h,(at':Int),(ai b h).2.2.1,(ai b h).2.2.2)).length:=by rw [pl,Cg];omega
 obtain⟨lf,ll,le,lo⟩:=nX pf ha dc;have zhO:∀ i,i<8->rowAt (tf b h at') i=rowAt b i:=fun i hi=>by
  have hl:=hf.len;have lR:(tf b h at').length=b.length:=ll.trans pl;apply bQ
  ·rw [aS (by omega),aS (by omega)]
  ·intro j hj;rw [aS (by omega)] at hj;rw [bH hj,bH hj];unfold tf;rw [aY dc (.inl (by omega))];exact ptl _ (by omega)
 refine⟨lf,ll.trans pl,(le h h1 h2).2.trans pe,by unfold tf;rw [(le h h1 h2).1];exact pt,fun k k1 k2 hk=>?_,fun k k1 k2=>?_,kD 8 zhO⟩
 ·exact⟨(le k k1 k2).1.trans (po k k1 k2 hk).1,(le k k1 k2).2.trans (po k k1 k2 hk).2⟩
 ·by_cases hk:k=h
  ·subst hk;have e1:aq (tf b k at') k≠0:=by unfold tf;rw [(le k h1 h2).1];exact pt
   have e2:ai (tf b k at') k=(k,(at':Int),(ai b k).2.2.1,(ai b k).2.2.2):=(le k h1 h2).2.trans pe;have e3:aD (tf b k at') k=((ai b k).2.2.2,cP (tf b k at') (at':Int) (ai b k).2.2.1):=by unfold aD gu;rw [if_neg e1,e2]
   have e4:aD b k=((ai b k).2.2.2,(aD b k).2):=by unfold aD gu;rw [if_neg ht]
   rw [e3,e4]
   congr 1
   unfold cP tf;apply bQ
   ·rw [zLt,zLd,length_splice dc,pl,Cg];omega
   ·intro j hj;rw [zLt,zLd,length_splice dc,pl] at hj;rw [zTn];have mG:j<(aD b k).2.length:=by omega
    have e5:=bY dc mG;simp only [List.getD,List.getElem?_take,if_pos (show j<(ai b k).2.2.1.toNat by omega),List.getElem?_drop] at e5 ⊢;exact e5
  ·have e1:=lo k k1 k2 (fun BQ=>by rw [(po k k1 k2 hk).1] at BQ;rw [(po k k1 k2 hk).2,Cg];have:=gI k k1 k2 hk BQ;have kU:=fc.2.1;omega);rw [show aD (tf b h at') k=aD (bP b (h,(at':Int),(ai b h).2.2.1,(ai b h).2.2.2)) k from e1];refine l7 pl (po k k1 k2 hk).1 (po k k1 k2 hk).2 (fun BQ j hj _=>ptl j ?_);have:=(hf.jB k1 k2 BQ).1;omega
theorem Mv(hb:bj b)(h:Int)(at':Nat):bj (tf b h at'):=by
 unfold tf;refine bN ?_ ?_
 ·unfold bP;split
  ·exact bN hb (oE _)
  ·exact fun z hz=>(by cases hz)
 ·unfold aD gu cP;split
  ·exact fun z hz=>(by cases hz)
  ·exact fun z hz=>hb z (List.mem_of_mem_drop (List.mem_of_mem_take hz))
end
def p9(x y:(Int×Int×Int×Int)):Bool:=decide (x.2.1<=y.2.1)
def dh(L:List Int):List (Int×Int×Int×Int):=(entsK L 40).mergeSort p9
def gi(x y:(Int×Int×Int×Int)):Prop:=x.2.1+x.2.2.1<=y.2.1
theorem Bk:∀ a b c:(Int×Int×Int×Int),p9 a b=true->p9 b c=true->p9 a c=true:=fun a b c h1 h2=>by unfold p9 at *;rw [decide_eq_true_iff] at *;omega
theorem Bl:∀ a b:(Int×Int×Int×Int),(p9 a b || p9 b a)=true:=fun a b=>by unfold p9;rw [Bool.or_eq_true,decide_eq_true_iff,decide_eq_true_iff];omega
section
variable {L:List Int}
theorem mx:∀ k:Nat,((entsK L k).map (·.1)).Pairwise (·<·)/\∀ x∈entsK L k,1<=x.1/\x.1<=k
 | 0=>⟨List.Pairwise.nil,fun x hx=>by cases hx⟩
 | k+1=>by
  obtain⟨h1,h2⟩:=mx k
  show((entsK L k++_).map (·.1)).Pairwise (·<·)/\∀ x∈entsK L k++_,_
  by_cases ht:aq L ((k:Int)+1)=0
  ·rw [if_pos ht,List.append_nil];exact⟨h1,fun x hx=>by have:=h2 x hx;omega⟩
  ·rw [if_neg ht];refine⟨?_,fun x hx=>?_⟩
   ·rw [List.map_append];refine List.pairwise_append.2 ⟨h1,by simp,fun a ha b hb=>?_⟩;obtain⟨x,hx,rfl⟩:=List.mem_map.1 ha;have:=h2 x hx;have tp:b=(k:Int)+1:=by simpa [pE] using hb
    omega
   ·rcases zMa hx with hx | hx
    ·have:=h2 x hx;omega
    ·rw [zMs hx]
     show 1<=(k:Int)+1/\(k:Int)+1<=((k+1:Nat):Int)
     omega
theorem cR(hf:aB L){x:(Int×Int×Int×Int)}(hx:x∈entsK L 40):x=ai L x.1/\1<=x.1/\x.1<=40/\aq L x.1≠0/\288<=x.2.1/\1<=x.2.2.1/\x.2.2.1<=1000/\x.2.1+x.2.2.1<=L.length:=by obtain⟨j,hj,ht,rfl⟩:=eO.1 hx;have e:=hf.jB (h:=(j:Int)+1) (by omega) (by omega) ht;have hh:(ai L ((j:Int)+1)).1=(j:Int)+1:=rfl;rw [hh];exact⟨rfl,by omega,by omega,ht,e.1,e.2.1,e.2.2.1,e.2.2.2.1⟩
theorem u0{h:Int}(h1:1<=h)(h2:h<=40)(ht:aq L h≠0):ai L h∈entsK L 40:=by
 refine eO.2 ⟨(h-1).toNat,by omega,?_,?_⟩
 ·rw [show(((h-1).toNat:Nat):Int)+1=h by omega];exact ht
 ·rw [show(((h-1).toNat:Nat):Int)+1=h by omega]
theorem iV:(dh L).Perm (entsK L 40):=List.mergeSort_perm _ _
theorem fi{x:(Int×Int×Int×Int)}:x∈dh L ↔ x∈entsK L 40:=iV.mem_iff
theorem my(hf:aB L){x y:(Int×Int×Int×Int)}(hx:x∈entsK L 40)(hy:y∈entsK L 40)(aO:x.1≠y.1):gi x y\/gi y x:=by obtain⟨ex,x1,x2,xt,_⟩:=cR hf hx;obtain⟨ey,y1,y2,yt,_⟩:=cR hf hy;have:=pq.1 (hf.apart x1 x2 y1 y2 aO xt yt);rw [<- ex,<- ey] at this;unfold gi;omega
theorem A6{x y:(Int×Int×Int×Int)}(hx:x∈entsK L 40)(hy:y∈entsK L 40)(h:x.1=y.1):x=y:=by obtain⟨i,_,_,rfl⟩:=eO.1 hx;obtain⟨j,_,_,rfl⟩:=eO.1 hy;have h':(i:Int)+1=(j:Int)+1:=h;rw [h']
theorem zG:((dh L).map (·.1)).Nodup:=by have h1:=(mx (L:=L) 40).1;have h2:=(iV (L:=L)).map (fun x=>x.1);generalize entsK L 40=l at h1 h2;exact h2.nodup_iff.2 (h1.imp (fun h e=>by omega))
theorem eT(hf:aB L):(dh L).Pairwise gi:=by
 have h1:(dh L).Pairwise (fun x y=>p9 x y=true):=List.pairwise_mergeSort Bk Bl _;have h2:(dh L).Pairwise (fun x y=>x.1≠y.1):=List.pairwise_map.1 zG;refine(h1.and h2).imp_of_mem (fun {x y} hx hy h=>?_);have W9:=fi.1 hx;have xU:=fi.1 hy;rcases my hf W9 xU h.2 with ha | ha
 ·exact ha
 ·have h3:=h.1;unfold p9 at h3;rw [decide_eq_true_iff] at h3;have:=(cR hf xU).2.2.2.2.2.1;unfold gi at ha ⊢;omega
end
def mvOn(a:Int):List (Int×Int×Int×Int)->Option ((Int×Int×Int×Int)×Int)
 | []=>none
 | e :: r=>if a<e.2.1 then some (e,a) else mvOn (a+e.2.2.1) r
def dr:List (Int×Int×Int×Int)->Int
 | []=>0
 | e :: r=>e.2.2.1+dr r
def Gz(a:Int):List (Int×Int×Int×Int)->Prop
 | []=>True
 | e :: r=>e.2.1=a/\Gz (a+e.2.2.1) r
def wg(a:Int):List (Int×Int×Int×Int)->Nat
 | []=>0
 | e :: r=>(if a<e.2.1 then 1 else 0)+wg (a+e.2.2.1) r
theorem Dn:∀ {l:List (Int×Int×Int×Int)} {a:Int},l.Pairwise gi->(∀ x∈l,a<=x.2.1)->mvOn a l=none->Gz a l/\wg a l=0
 | [],a,_,_,_=>⟨trivial,rfl⟩
 | e :: r,a,hp,ha,h=>by
  unfold mvOn at h;by_cases aM:a<e.2.1
  ·rw [if_pos aM] at h;cases h
  ·rw [if_neg aM] at h;have he:=ha e (by simp);rw [List.pairwise_cons] at hp;obtain⟨h1,h2⟩:=Dn hp.2 (fun x hx=>by have:=hp.1 x hx;unfold gi at this;omega) h;refine⟨⟨by omega,h1⟩,?_⟩;unfold wg;rw [if_neg aM,h2]
theorem v8:∀ {l:List (Int×Int×Int×Int)} {a:Int} {e:(Int×Int×Int×Int)} {p:Int},l.Pairwise gi->(∀ x∈l,a<=x.2.1)->(∀ x∈l,1<=x.2.2.1)->mvOn a l=some (e,p) ->∃ l1 l2,l=l1++e :: l2/\a<=p/\p<e.2.1/\(∀ x∈l1,x.2.1+x.2.2.1<=p)/\wg a l=wg a (l1++(e.1,p,e.2.2.1,e.2.2.2) :: l2)+1
 | [],a,e,p,_,_,_,h=>by cases h
 | x :: r,a,e,p,hp,ha,hl,h=>by
  unfold mvOn at h;by_cases aM:a<x.2.1
  ·rw [if_pos aM] at h;obtain⟨rfl,rfl⟩:x=e/\a=p:=by simpa using h
   refine⟨[],r,rfl,Int.le_refl _,aM,fun y hy=>(by cases hy),?_⟩;simp only [List.nil_append,wg];rw [if_pos aM,if_neg (by omega)];omega
  ·rw [if_neg aM] at h;have hx:=ha x (by simp);have hlx:=hl x (by simp);rw [List.pairwise_cons] at hp;obtain⟨l1,l2,rfl,q1,q2,q3,q4⟩:=v8 hp.2 (fun y hy=>by have:=hp.1 y hy;unfold gi at this;omega) (fun y hy=>hl y (by simp [hy])) h;refine⟨x :: l1,l2,rfl,by omega,q2,fun y hy=>?_,?_⟩
   ·rcases zMc hy with rfl | hy
    ·omega
    ·exact q3 y hy
   ·simp only [List.cons_append,wg];rw [if_neg aM,q4];omega
def pX(L:List Int):Option (List Int):=(mvOn 288 (dh L)).map fun x=>tf L x.1.1 x.2.toNat
section
variable {L:List Int}
theorem ie(hf:aB L):(∀ x∈dh L,288<=x.2.1)/\∀ x∈dh L,1<=x.2.2.1 :=⟨fun x hx=>(cR hf (fi.1 hx)).2.2.2.2.1,fun x hx=>(cR hf (fi.1 hx)).2.2.2.2.2.1⟩
theorem oU(hf:aB L){e:(Int×Int×Int×Int)}{p:Int}(h:mvOn 288 (dh L)=some (e,p)):Mvd L (tf L e.1 p.toNat) e.1 p.toNat/\288<=p/\p<e.2.1/\e∈entsK L 40:=by
 obtain⟨f1,f2⟩:=ie hf;obtain⟨l1,l2,hl,q1,q2,q3,_⟩:=v8 (eT hf) f1 f2 h;have he:e∈entsK L 40:=fi.1 (by rw [hl];simp);obtain⟨ee,e1,e2,et,_⟩:=cR hf he;have ea:(ai L e.1).2.1=e.2.1:=by rw [<- ee]
 have el:(ai L e.1).2.2.1=e.2.2.1:=by rw [<- ee]
 refine⟨zhu hf e1 e2 et (by omega) (by rw [ea];omega) (fun k k1 k2 hk BQ=>?_),q1,q2,he⟩;rw [el];have SP:=u0 k1 k2 BQ;have hkm:ai L k∈l1++e :: l2:=by rw [<- hl];exact fi.2 SP
 have PD:=eT hf;rw [hl,List.pairwise_append,List.pairwise_cons] at PD;rcases zMa hkm with hm | hm
 ·have:=q3 _ hm;left;omega
 ·rcases zMc hm with hm | hm
  ·exact absurd (congrArg Prod.fst hm) hk
  ·have:=PD.2.1.1 _ hm;unfold gi at this;right;omega
theorem Mvd.yN{c:List Int}{h:Int}{p:Nat}(m:Mvd L c h p)(ht:aq L h≠0):∀ k:Nat,k<=40->entsK c k=(entsK L k).map fun x=>if x.1=h then (h,(p:Int),(ai L h).2.2.1,(ai L h).2.2.2) else x
 | 0,_=>rfl
 | k+1,hk=>by
  show entsK c k++_=(entsK L k++_).map _
  rw [List.map_append,m.yN ht k (by omega)]
  congr 1
  by_cases e:(k:Int)+1=h
  ·have iu:=m.tag;rw [e,if_neg m.tag,if_neg ht,m.jB];simp [pE]
  ·obtain⟨o1,o2⟩:=m.other ((k:Int)+1) (by omega) (by omega) e;rw [o1,o2];split
   ·rfl
   ·simp [pE,e]
theorem zbo{l1 l2:List (Int×Int×Int×Int)}{e e':(Int×Int×Int×Int)}(sC:((l1++e :: l2).map (·.1)).Nodup):(l1++e :: l2).map (fun x=>if x.1=e.1 then e' else x)=l1++e' :: l2:=by
 rw [List.map_append,List.map_cons,List.nodup_append,List.nodup_cons] at sC;rw [List.map_append,List.map_cons,if_pos rfl];have h1:l1.map (fun x=>if x.1=e.1 then e' else x)=l1:=by refine(List.map_congr_left (g:=id) (fun x hx=>?_)).trans (List.map_id _);exact if_neg (fun h=>sC.2.2 x.1 (List.mem_map.2 ⟨x,hx,rfl⟩) e.1 (by simp) h)
 have h2:l2.map (fun x=>if x.1=e.1 then e' else x)=l2:=by refine(List.map_congr_left (g:=id) (fun x hx=>?_)).trans (List.map_id _);exact if_neg (fun h=>sC.2.1.1 (by rw [<- h];exact List.mem_map.2 ⟨x,hx,rfl⟩))
 rw [h1,h2]
theorem Hv(hf:aB L){e:(Int×Int×Int×Int)}{p:Int}(h:mvOn 288 (dh L)=some (e,p)):∃ l1 l2,dh L=l1++e :: l2/\dh (tf L e.1 p.toNat)=l1++(e.1,p,e.2.2.1,e.2.2.2) :: l2/\wg 288 (dh L)=wg 288 (dh (tf L e.1 p.toNat))+1:=by
 obtain⟨m,hp,aM,he⟩:=oU hf h;obtain⟨f1,f2⟩:=ie hf;obtain⟨l1,l2,hl,q1,q2,q3,q4⟩:=v8 (eT hf) f1 f2 h;obtain⟨ee,e1,e2,et,_⟩:=cR hf he;have uR:=m.yN et 40 zNr;have hE:(e.1,((p.toNat:Nat):Int),(ai L e.1).2.2.1,(ai L e.1).2.2.2)=(e.1,p,e.2.2.1,e.2.2.2):=by rw [<- ee,show((p.toNat:Nat):Int)=p by omega]
 rw [hE] at uR;have Nc:(dh L).map (fun x=>if x.1=e.1 then (e.1,p,e.2.2.1,e.2.2.2) else x)=l1++(e.1,p,e.2.2.1,e.2.2.2) :: l2:=by have sC:=zG (L:=L);rw [hl] at sC ⊢;exact zbo sC
 have lq:(l1++(e.1,p,e.2.2.1,e.2.2.2) :: l2).Perm (dh (tf L e.1 p.toNat)):=by rw [<- Nc];refine((iV (L:=L)).map _).trans ?_;rw [<- uR];exact iV.symm
 have PD:=eT hf;rw [hl,List.pairwise_append,List.pairwise_cons] at PD;have da:(l1++(e.1,p,e.2.2.1,e.2.2.2) :: l2).Pairwise (fun x y=>p9 x y=true):=by
  have f2':∀ x∈l1++e :: l2,1<=x.2.2.1:=fun x hx=>f2 x (by rw [hl];exact hx)
  refine List.pairwise_append.2 ⟨PD.1.imp_of_mem (fun {x y} hx hy ha=>?_),List.pairwise_cons.2 ⟨fun y hy=>?_,PD.2.1.2.imp_of_mem (fun {x y} hx hy ha=>?_)⟩,fun x hx y hy=>?_⟩
  ·have:=f2' x (by simp [hx]);unfold gi at ha;unfold p9;rw [decide_eq_true_iff];omega
  ·have h1:=PD.2.1.1 y hy;have:=f2' e (by simp);unfold gi at h1;unfold p9;rw [decide_eq_true_iff];dsimp only;omega
  ·have:=f2' x (by simp [hx]);unfold gi at ha;unfold p9;rw [decide_eq_true_iff];omega
  ·have k7:=f2' x (by simp [hx]);unfold p9;rw [decide_eq_true_iff];rcases zMc hy with rfl | hy
   ·have:=q3 x hx;dsimp only;omega
   ·have:=PD.2.2 x hx y (by simp [hy]);unfold gi at this;omega
 have hold:(dh (tf L e.1 p.toNat)).Pairwise (fun x y=>p9 x y=true):=List.pairwise_mergeSort Bk Bl _;have heq:l1++(e.1,p,e.2.2.1,e.2.2.2) :: l2=dh (tf L e.1 p.toNat):=by
  refine List.Perm.eq_of_pairwise (le:=fun x y=>p9 x y=true) (fun x y hx hy h1 h2=>?_) da hold lq;have W9:=fi.1 (lq.mem_iff.1 hx);have xU:=fi.1 hy;by_cases DN:x.1=y.1
  ·exact A6 W9 xU DN
  ·unfold p9 at h1 h2;rw [decide_eq_true_iff] at h1 h2;have lx:=(cR m.aV W9).2.2.2.2.2.1;have ly:=(cR m.aV xU).2.2.2.2.2.1;rcases my m.aV W9 xU DN with ha | ha
   ·unfold gi at ha;omega
   ·unfold gi at ha;omega
 exact⟨l1,l2,hl,heq.symm,by rw [q4,<- heq]⟩
theorem Wc:∀ (l:List (Int×Int×Int×Int)) (a:Int),wg a l<=l.length
 | [],a=>zNr
 | e :: r,a=>by unfold wg;have:=Wc r (a+e.2.2.1);rw [zLc];split <;> omega
theorem we:wg 288 (dh L)<=40:=by refine Nat.le_trans (Wc _ _) ?_;rw [iV.length_eq];exact b8 L 40
end
section
variable {L:List Int}
structure pU (L c:List Int):Prop where
 aV:aB c
 len:c.length=L.length
 tc:∀ k,1<=k->k<=40->aD c k=aD L k
 tags:∀ k,1<=k->k<=40->(aq c k=0 ↔ aq L k=0)
 roots:ak c 8=ak L 8
 sum:dr (dh c)=dr (dh L)
 many:(entsK c 40).length=(entsK L 40).length
theorem pU.refl(hf:aB L):pU L L:=⟨hf,rfl,fun _ _ _=>rfl,fun _ _ _=>Iff.rfl,rfl,rfl,rfl⟩
theorem pU.trans{a b c:List Int}(p:pU a b)(q:pU b c):pU a c :=⟨q.aV,q.len.trans p.len,fun k h1 h2=>(q.tc k h1 h2).trans (p.tc k h1 h2),fun k h1 h2=>(q.tags k h1 h2).trans (p.tags k h1 h2),q.roots.trans p.roots,q.sum.trans p.sum,q.many.trans p.many⟩
theorem iU:∀ (l m:List (Int×Int×Int×Int)),dr (l++m)=dr l+dr m
 | [],m=>by simp [dr]
 | e :: l,m=>by
  show e.2.2.1+dr (l++m)=e.2.2.1+dr l+dr m
  rw [iU l m];omega
theorem lA(hf:aB L){c:List Int}(h:pX L=some c):pU L c/\wg 288 (dh L)=wg 288 (dh c)+1:=by
 unfold pX at h;cases hq:mvOn 288 (dh L) with
 | none=>rw [hq] at h;cases h
 | some x =>
  obtain⟨e,p⟩:=x;rw [hq] at h;obtain rfl:tf L e.1 p.toNat=c:=by simpa using h
  obtain⟨m,_,_,he⟩:=oU hf hq;obtain⟨l1,l2,s1,s2,s3⟩:=Hv hf hq;obtain⟨_,e1,e2,et,_⟩:=cR hf he;refine⟨⟨m.aV,m.len,m.tc,fun k k1 k2=>?_,m.roots,?_,?_⟩,s3⟩
  ·by_cases hk:k=e.1
   ·subst hk;exact⟨fun h=>absurd h m.tag,fun h=>absurd h et⟩
   ·rw [(m.other k k1 k2 hk).1]
  ·rw [s1,s2,iU,iU];rfl
  ·rw [m.yN et 40 zNr,zLm]
def mvF:Nat->List Int->List Int
 | 0,L=>L
 | n+1,L=>match pX L with
  | none=>L
  | some c=>mvF n c
theorem Wd(L:List Int):mvF 0 L=L:=rfl
theorem l9{n:Nat}{L:List Int}(h:pX L=none):mvF (n+1) L=L:=by simp only [mvF,h]
theorem nR{n:Nat}{L c:List Int}(h:pX L=some c):mvF (n+1) L=mvF n c:=by simp only [mvF,h]
theorem zd9(n:Nat):∀ {L:List Int},aB L->wg 288 (dh L)<=n->pU L (mvF n L)/\pX (mvF n L)=none:=by
 induction n with
 | zero =>
  intro L hf h;rw [Wd];refine⟨pU.refl hf,?_⟩;cases hq:pX L with
  | none=>rfl
  | some c =>have h2:=(lA hf hq).2;rw [h2] at h;exact absurd h (Nat.not_succ_le_zero _)
 | succ n ih =>
  intro L hf h;cases hq:pX L with
  | none =>rw [l9 hq];exact⟨pU.refl hf,hq⟩
  | some c =>obtain⟨a,hn⟩:=lA hf hq;rw [hn] at h;obtain⟨b,hb⟩:=ih a.aV (Nat.le_of_succ_le_succ h);rw [nR hq];exact⟨a.trans b,hb⟩
def Dp(L:List Int):List Int:=mvF 40 L
theorem My(hf:aB L):pU L (Dp L)/\pX (Dp L)=none:=zd9 40 hf we
theorem I7(hf:aB L)(h:pX L=none):Gz 288 (dh L)/\wg 288 (dh L)=0:=by
 unfold pX at h;cases hq:mvOn 288 (dh L) with
 | none=>exact Dn (eT hf) (ie hf).1 hq
 | some x=>rw [hq] at h;cases h
theorem zF(hf:aB L):kB (cU L)=(dh L).map jJ:=by refine((fh hf).LF ((iV (L:=L)).map jJ) (List.pairwise_map.2 ((eT hf).imp_of_mem (fun {x y} hx hy h=>?_)))).symm;have:=(cR hf (fi.1 hx)).2.2.2.2.2.1;unfold gi at h;unfold jJ;dsimp only;omega
theorem j3:∀ l:List (Int×Int×Int×Int),dG (l.map jJ)=dr l
 | []=>rfl
 | e :: r=>by rw [List.map_cons,ja,j3 r];rfl
theorem zq(hf:aB L):dG (cU L)=dr (dh L):=by rw [<- j3,<- zF hf];exact ni (fh hf).kB.1.symm
end
end
def rk(a:List Int):Nat:=a.foldl (fun n x=>n * 41+x.toNat) 0
def Dg(a:List Int):Prop:=∀ x∈a,1<=x/\x<=40
theorem zaL(a:List Int):∀ n:Nat,a.foldl (fun n x=>n * 41+x.toNat) n=n * 41 ^ a.length+rk a:=by
 unfold rk;induction a with
 | nil=>intro n;simp
 | cons x r ih =>intro n;simp only [List.foldl_cons,zLc];rw [ih (n * 41+x.toNat),ih (0 * 41+x.toNat),Nat.pow_succ,Nat.add_mul,Nat.zero_mul,Nat.zero_add];rw [show n * 41 * 41 ^ r.length=n * (41 ^ r.length * 41) by rw [Nat.mul_assoc,Nat.mul_comm 41]];omega
theorem rA(x:Int)(a:List Int):rk (x :: a)=x.toNat * 41 ^ a.length+rk a:=by
 have:=zaL a (0 * 41+x.toNat);rw [Nat.zero_mul,Nat.zero_add] at this
 show a.foldl (fun n x=>n * 41+x.toNat) (0 * 41+x.toNat)=_
 rw [Nat.zero_mul,Nat.zero_add];exact this
theorem mY(a:List Int)(x:Int):rk (a++[x])=rk a * 41+x.toNat:=by unfold rk;rw [List.foldl_append];rfl
theorem Dg.tail{x:Int}{a:List Int}(h:Dg (x :: a)):Dg a:=fun y hy=>h y (by simp [hy])
theorem Dg.snoc{x:Int}{a:List Int}(h:Dg a)(h1:1<=x)(h2:x<=40):Dg (a++[x]):=fun y hy=>by
 rcases zMa hy with hy | hy
 ·exact h y hy
 ·rw [zMs hy];exact⟨h1,h2⟩
theorem C4{a:List Int}(h:Dg a):rk a<41 ^ a.length:=by
 induction a with
 | nil=>simp [rk]
 | cons x r ih =>have h1:=h x (by simp);have h2:=ih h.tail;rw [rA,zLc,Nat.pow_succ];have h3:x.toNat * 41 ^ r.length<=40 * 41 ^ r.length:=Nat.mul_le_mul_right _ (by omega);omega
theorem zcC{a:List Int}(h:Dg a)(hn:a≠[]):41 ^ (a.length-1)<=rk a:=by
 cases a with
 | nil=>exact absurd rfl hn
 | cons x r =>have h1:=h x (by simp);rw [rA,zLc,Nat.add_sub_cancel];have h3:1 * 41 ^ r.length<=x.toNat * 41 ^ r.length:=Nat.mul_le_mul_right _ (by omega);omega
theorem lX{a b:List Int}(ha:Dg a)(hb:Dg b)(h:a.length<b.length):rk a<rk b:=by have h1:=C4 ha;have h2:=zcC hb (by intro e;rw [e] at h;simp at h);have h3:41 ^ a.length<=41 ^ (b.length-1):=Nat.pow_le_pow_right (by decide) (by omega);omega
theorem zdK:∀ {a b:List Int},Dg a->Dg b->rk a=rk b->a=b:=by
 intro a;induction a with
 | nil =>
  intro b _ hb h;cases b with
  | nil=>rfl
  | cons y s =>have:=lX (a:=[]) (b:=y :: s) (fun x hx=>by cases hx) hb (by simp);omega
 | cons x r ih =>
  intro b ha hb h;cases b with
  | nil =>have:=lX (a:=[]) (b:=x :: r) (fun x hx=>by cases hx) ha (by simp);omega
  | cons y s =>
   have hl:r.length=s.length:=by
    rcases Nat.lt_trichotomy r.length s.length with hl | hl | hl
    ·have:=lX ha hb (by simpa using hl);omega
    ·exact hl
    ·have:=lX hb ha (by simpa using hl);omega
   rw [rA,rA,hl] at h;have h1:=C4 ha.tail;have h2:=C4 hb.tail;rw [hl] at h1;have hx:=ha x (by simp);have hy:=hb y (by simp);have DN:x.toNat=y.toNat:=by
    rcases Nat.lt_trichotomy x.toNat y.toNat with hq | hq | hq
    ·have h3:(x.toNat+1) * 41 ^ s.length<=y.toNat * 41 ^ s.length:=Nat.mul_le_mul_right _ (by omega);rw [Nat.add_mul,Nat.one_mul] at h3;omega
    ·exact hq
    ·have h3:(y.toNat+1) * 41 ^ s.length<=x.toNat * 41 ^ s.length:=Nat.mul_le_mul_right _ (by omega);rw [Nat.add_mul,Nat.one_mul] at h3;omega
   rw [DN] at h;have hrs:rk r=rk s:=by omega
   rw [show x=y by omega,ih ha.tail hb.tail hrs]
def Way(roots:List Int)(refs:Int->List Int)(p:List Int)(h:Int):Prop :=∀ Q:List Int->Int->Prop,(∀ r,r∈roots->Q [r] r)->(∀ q g x,Q q g->x∈refs g->Q (q++[x]) x)->Q p h
theorem Way.root{roots:List Int}{refs:Int->List Int}{r:Int}(h:r∈roots):Way roots refs [r] r:=fun Q h1 h2=>h1 r h
theorem Way.step{roots:List Int}{refs:Int->List Int}{q:List Int}{g x:Int}(w:Way roots refs q g)(h:x∈refs g):Way roots refs (q++[x]) x:=fun Q h1 h2=>h2 q g x (w Q h1 h2) h
theorem Way.ind{roots:List Int}{refs:Int->List Int}(P:List Int->Int->Prop)(hr:∀ r,r∈roots->P [r] r)(hs:∀ q g x,Way roots refs q g->x∈refs g->P q g->P (q++[x]) x){p:List Int}{h:Int}(w:Way roots refs p h):P p h :=(w (fun p h=>Way roots refs p h/\P p h) (fun r hm=>⟨.root hm,hr r hm⟩) (fun q g x hq hx=>⟨hq.1.step hx,hs q g x hq.1 hx hq.2⟩)).2
theorem Way.parts{roots:List Int}{refs:Int->List Int}{p:List Int}{h:Int}(w:Way roots refs p h):h∈roots\/∃ q g,Way roots refs q g/\h∈refs g :=w.ind (fun p h=>h∈roots\/∃ q g,Way roots refs q g/\h∈refs g) (fun r hr=>.inl hr) (fun q g x wq hx _=>.inr ⟨q,g,wq,hx⟩)
section
variable {roots:List Int} {refs:Int->List Int}
theorem Way.dg(hr:Dg roots)(hf:∀ g,Dg (refs g)){p:List Int}{h:Int}(w:Way roots refs p h):Dg p/\1<=h/\h<=40/\p≠[]:=by
 refine w.ind (fun p h=>Dg p/\1<=h/\h<=40/\p≠[]) (fun r hm=>?_) (fun q g x _ hm ih=>?_)
 ·have:=hr _ hm;exact⟨fun y hy=>by rw [zMs hy];exact this,this.1,this.2,by simp⟩
 ·have:=hf _ _ hm;exact⟨ih.1.snoc this.1 this.2,this.1,this.2,by simp⟩
structure Still (roots:List Int) (refs:Int->List Int) (W:Int->List Int):Prop where
 base:∀ r∈roots,W r≠[]/\rk (W r)<=rk [r]
 next:∀ h,W h≠[]->∀ x∈refs h,W x≠[]/\rk (W x)<=rk (W h++[x])
 vx:∀ h,W h≠[]->Way roots refs (W h) h
theorem Still.least{W:Int->List Int}(s:Still roots refs W){p:List Int}{h:Int}(w:Way roots refs p h):W h≠[]/\rk (W h)<=rk p:=by refine w.ind (fun p h=>W h≠[]/\rk (W h)<=rk p) (fun r hm=>s.base _ hm) (fun q g x _ hm ih=>?_);obtain⟨h1,h2⟩:=s.next _ ih.1 _ hm;refine⟨h1,Nat.le_trans h2 ?_⟩;rw [mY,mY];have:=ih.2;omega
theorem Still.one(hr:Dg roots)(hf:∀ g,Dg (refs g)){V W:Int->List Int}(s:Still roots refs V)(t:Still roots refs W)(h:Int):V h=W h:=by
 by_cases h1:V h=[]
 ·by_cases h2:W h=[]
  ·rw [h1,h2]
  ·exact absurd h1 (s.least (t.vx h h2)).1
 ·by_cases h2:W h=[]
  ·exact absurd h2 (t.least (s.vx h h1)).1
  ·have a:=s.least (t.vx h h2);have b:=t.least (s.vx h h1);exact zdK ((s.vx h h1).dg hr hf).1 ((t.vx h h2).dg hr hf).1 (by omega)
end
section
variable {roots:List Int} {refs:Int->List Int}
end
section
variable {roots:List Int} {refs:Int->List Int}
end
def hd(p:List Int):Int:=p.getLastD 0
def ld(p:List Int):Int:=hd p.dropLast
theorem lH(q:List Int)(x:Int):hd (q++[x])=x:=by unfold hd;simp
theorem zbt(q:List Int)(x:Int):ld (q++[x])=hd q:=by unfold ld;simp
def qF(P:List (List Int))(x:Int):Bool:=P.any (fun p=>hd p == x)
theorem um{P:List (List Int)}{x:Int}:qF P x=true ↔ ∃ p∈P,hd p=x:=by
 unfold qF;rw [List.any_eq_true];constructor
 ·rintro ⟨p,hp,e⟩;exact⟨p,hp,beq_iff_eq.1 e⟩
 ·rintro ⟨p,hp,e⟩;exact⟨p,hp,beq_iff_eq.2 e⟩
theorem FV{P:List (List Int)}{x:Int}(h:qF P x=false):∀ p∈P,hd p≠x:=fun p hp e=>by rw [um.2 ⟨p,hp,e⟩] at h;cases h
theorem R3(P:List (List Int))(q:List Int)(x:Int):qF (P++[q]) x=(qF P x || (hd q == x)):=by unfold qF;rw [List.any_append];simp
def B8(q:List Int)(P:List (List Int))(x:Int):List (List Int):=if qF P x=true then P else P++[q++[x]]
def mD(q:List Int)(P:List (List Int))(l:List Int):List (List Int):=l.foldl (B8 q) P
theorem I8(q:List Int)(P:List (List Int))(l:List Int)(x:Int):mD q P (l++[x])=B8 q (mD q P l) x:=by unfold mD;rw [List.foldl_append];rfl
theorem zbe(q:List Int)(P:List (List Int))(x:Int):∃ A,B8 q P x=P++A:=by
 unfold B8;split
 ·exact⟨[],by simp⟩
 ·exact⟨_,rfl⟩
theorem rI(q:List Int):∀ (l:List Int) (P:List (List Int)),∃ A,mD q P l=P++A
 | [],P=>⟨[],by simp [mD]⟩
 | x :: l,P=>by
  obtain⟨A,hA⟩:=zbe q P x;obtain⟨B,hB⟩:=rI q l (B8 q P x);refine⟨A++B,?_⟩
  show mD q (B8 q P x) l=_
  rw [hB,hA,List.append_assoc]
def yE(q:List Int)(P:List (List Int))(l:List Int):List Int:=((mD q P l).drop P.length).map hd
theorem FP(q:List Int)(P:List (List Int))(l:List Int):P.map hd++yE q P l=(mD q P l).map hd:=by unfold yE;obtain⟨A,hA⟩:=rI q l P;rw [hA,List.drop_left,List.map_append]
theorem V5(q:List Int)(P:List (List Int))(l:List Int)(x:Int):yE q P (l++[x])=if qF (mD q P l) x=true then yE q P l else yE q P l++[x]:=by
 unfold yE;rw [I8];unfold B8;obtain⟨A,hA⟩:=rI q l P;split
 ·rfl
 ·rw [hA,List.append_assoc,List.drop_left,List.drop_left,List.map_append];simp [lH]
theorem za6(q:List Int)(P:List (List Int))(l:List Int):(yE q P l).length+P.length=(mD q P l).length:=by have:=congrArg List.length (FP q P l);rw [zLa,zLm,zLm] at this;omega
def oN(l:List Int):List Int:=l.mergeSort (fun x y=>decide (x<=y))
theorem o6{l:List Int}{x:Int}:x∈oN l ↔ x∈l:=by unfold oN;exact List.mem_mergeSort
theorem Ff(l:List Int):(oN l).length=l.length:=by unfold oN;rw [List.length_mergeSort]
theorem H5(l:List Int):(oN l).Pairwise (·<=·):=by have:=List.pairwise_mergeSort (le:=fun x y:Int=>decide (x<=y)) (fun a b c h1 h2=>by simp at *;omega) (fun a b=>by simp;omega) l;unfold oN;exact this.imp (fun h=>by simpa using h)
def qX(roots:List Int)(refs:Int->List Int):Nat->List (List Int)
 | 0=>mD [] [] (oN roots)
 | i+1=>match (qX roots refs i)[i]? with
  | some q=>mD q (qX roots refs i) (oN (refs (hd q)))
  | none=>qX roots refs i
theorem Kx{roots:List Int}{refs:Int->List Int}{i:Nat}{q:List Int}(h:(qX roots refs i)[i]?=some q):qX roots refs (i+1)=mD q (qX roots refs i) (oN (refs (hd q))):=by
 show(match (qX roots refs i)[i]? with | some q=>_ | none=>_)=_
 rw [h]
theorem Ky{roots:List Int}{refs:Int->List Int}{i:Nat}(h:(qX roots refs i).length<=i):qX roots refs (i+1)=qX roots refs i:=by
 show(match (qX roots refs i)[i]? with | some q=>_ | none=>_)=_
 rw [List.getElem?_eq_none h]
theorem Kz{roots:List Int}{refs:Int->List Int}{i:Nat}(h:(qX roots refs i).length<=i):∀ j,i<=j->qX roots refs j=qX roots refs i
 | 0,hj=>by rw [show i=0 by omega]
 | j+1,hj=>by
  by_cases e:i=j+1
  ·rw [e]
  ·have:=Kz h j (by omega);rw [Ky (by rw [this];omega),this]
structure Bf (roots:List Int) (refs:Int->List Int) (P:List (List Int)) (i:Nat):Prop where
 vx:∀ p∈P,Way roots refs p (hd p)
 Vq:P.Pairwise (fun a b=>rk a<rk b)
 one:(P.map hd).Nodup
 zaV:∀ p∈P,p.dropLast=[]\/∃ j,j<i/\P[j]?=some p.dropLast
 root:∀ r∈roots,∃ p∈P,hd p=r/\rk p<=rk [r]
 next:∀ j,j<i->∀ q,P[j]?=some q->∀ x∈refs (hd q),∃ p∈P,hd p=x/\rk p<=rk (q++[x])
theorem uk(q:List Int):∀ (l:List Int) (P:List (List Int)),Dg l->l.Pairwise (·<=·)->P.Pairwise (fun a b=>rk a<rk b)->(P.map hd).Nodup ->
  (∀ p∈P,rk p<=rk q * 41\/∃ y,p=q++[y]/\1<=y/\∀ x∈l,y<=x) ->
  (mD q P l).Pairwise (fun a b=>rk a<rk b)/\((mD q P l).map hd).Nodup/\(∀ p∈mD q P l,p∈P\/∃ x∈l,p=q++[x])/\(∀ x∈l,∃ p∈mD q P l,hd p=x/\rk p<=rk (q++[x]))
 | [],P,_,_,h1,h2,_=>⟨h1,h2,fun p hp=>.inl hp,fun x hx=>by cases hx⟩
 | x :: l,P,XQ,hs,h1,h2,h3=>by
  have hx:=XQ x (by simp);have hsx:=List.pairwise_cons.1 hs;have hrx:rk (q++[x])=rk q * 41+x.toNat:=mY q x
  show(mD q (B8 q P x) l).Pairwise _/\_
  have hle:∀ p∈P,rk p<=rk (q++[x]):=fun p hp=>by
   rcases h3 p hp with h | ⟨y,rfl,Sv,hy⟩
   ·omega
   ·have:=hy x (by simp);rw [mY,mY];omega
  cases hm:qF P x with
  | true =>
   have e:B8 q P x=P:=by unfold B8;rw [if_pos hm]
   have e2:mD q P (x :: l)=mD q P l:=by show mD q (B8 q P x) l=_;rw [e]
   obtain⟨a,b,c,d⟩:=uk q l P XQ.tail hsx.2 h1 h2 (fun p hp=>by
    rcases h3 p hp with h | ⟨y,e,Sv,hy⟩
    ·exact .inl h
    ·exact .inr ⟨y,e,Sv,fun z hz=>hy z (by simp [hz])⟩)
   rw [e,e2];refine⟨a,b,fun p hp=>?_,fun z hz=>?_⟩
   ·rcases c p hp with h | ⟨z,hz,h⟩
    ·exact .inl h
    ·exact .inr ⟨z,by simp [hz],h⟩
   ·rcases zMc hz with rfl | hz
    ·obtain⟨p,hp,hpe⟩:=um.1 hm;obtain⟨A,hA⟩:=rI q l P;exact⟨p,by rw [hA];exact List.mem_append.2 (.inl hp),hpe,hle p hp⟩
    ·exact d z hz
  | false =>
   have e:B8 q P x=P++[q++[x]]:=by unfold B8;rw [hm];rfl
   have e2:mD q P (x :: l)=mD q (P++[q++[x]]) l:=by show mD q (B8 q P x) l=_;rw [e]
   have gI:=FV hm;have aM:∀ p∈P,rk p<rk (q++[x]):=fun p hp=>by
    rcases h3 p hp with h | ⟨y,rfl,Sv,hy⟩
    ·omega
    ·have h4:=hy x (by simp);have h5:=gI _ hp;rw [lH] at h5;rw [mY,mY];omega
   obtain⟨a,b,c,d⟩:=uk q l (P++[q++[x]]) XQ.tail hsx.2
    (List.pairwise_append.2 ⟨h1,by simp,fun p hp r hr=>by rw [zMs hr];exact aM p hp⟩)
    (by rw [List.map_append,List.nodup_append];refine⟨h2,by simp,fun u hu v hv=>?_⟩;obtain⟨p,hp,rfl⟩:=List.mem_map.1 hu;simp [lH] at hv;rw [hv];exact gI p hp)
    (fun p hp=>by
     rcases zMa hp with hp | hp
     ·rcases h3 p hp with h | ⟨y,e,Sv,hy⟩
      ·exact .inl h
      ·exact .inr ⟨y,e,Sv,fun z hz=>hy z (by simp [hz])⟩
     ·rw [zMs hp];exact .inr ⟨x,rfl,hx.1,fun z hz=>hsx.1 z hz⟩)
   rw [e,e2];refine⟨a,b,fun p hp=>?_,fun z hz=>?_⟩
   ·rcases c p hp with h | ⟨z,hz,h⟩
    ·rcases zMa h with h | h
     ·exact .inl h
     ·rw [zMs h];exact .inr ⟨x,by simp,rfl⟩
    ·exact .inr ⟨z,by simp [hz],h⟩
   ·rcases zMc hz with rfl | hz
    ·obtain⟨A,hA⟩:=rI q l (P++[q++[z]]);exact⟨q++[z],by rw [hA];simp,lH q z,zNr⟩
    ·exact d z hz
theorem nU{k:Nat}{h:Int}:h∈(List.range k).map (fun j:Nat=>(j:Int)+1) ↔ 1<=h/\h<=k:=by
 rw [List.mem_map];constructor
 ·rintro ⟨j,hj,rfl⟩;have:=List.mem_range.1 hj;omega
 ·rintro ⟨h1,h2⟩;exact⟨(h-1).toNat,List.mem_range.2 (by omega),by omega⟩
section
variable {roots:List Int} {refs:Int->List Int}
theorem Y6(hr:Dg roots):Bf roots refs (qX roots refs 0) 0:=by
 obtain⟨a,b,c,d⟩:=uk [] (oN roots) [] (fun x hx=>hr x (o6.1 hx)) (H5 roots) (by simp) (by simp) (fun p hp=>by cases hp);refine⟨fun p hp=>?_,a,b,fun p hp=>?_,fun r hm=>?_,fun j hj=>absurd hj (Nat.not_lt_zero j)⟩
 ·rcases c p hp with h | ⟨x,hx,rfl⟩
  ·cases h
  ·rw [lH];exact .root (o6.1 hx)
 ·rcases c p hp with h | ⟨x,hx,rfl⟩
  ·cases h
  ·exact .inl rfl
 ·exact d r (o6.2 hm)
theorem Bf.step(hr:Dg roots)(hf:∀ g,Dg (refs g)){P:List (List Int)}{i:Nat}(h:Bf roots refs P i){q:List Int}(hq:P[i]?=some q):Bf roots refs (mD q P (oN (refs (hd q)))) (i+1):=by
 have hqm:=List.mem_of_getElem? hq;have hqi:=(zLs hq).1;have hqw:=h.vx q hqm;have hqd:=hqw.dg hr hf;have hq1:1<=rk q:=by have:=zcC hqd.1 hqd.2.2.2;have h2:0<41 ^ (q.length-1):=Nat.pow_pos (by decide);omega
 have SY:∀ p∈P,rk p<=rk q * 41:=fun p hp=>by
  have hpd:=(h.vx p hp).dg hr hf;obtain⟨p0,x,rfl⟩:∃ p0 x,p=p0++[x]:=⟨p.dropLast,p.getLast hpd.2.2.2,(List.dropLast_concat_getLast hpd.2.2.2).symm⟩;have hxb:=hpd.1 x (by simp);rw [mY];rcases h.zaV _ hp with e | ⟨j,hj,e⟩
  ·rw [List.dropLast_concat] at e;subst e;have:rk ([]:List Int)=0:=rfl;omega
  ·rw [List.dropLast_concat] at e;have aM:rk p0<rk q:=by obtain⟨Ch,e2⟩:=zLs e;obtain⟨Z8,e3⟩:=zLs hq;have:=List.pairwise_iff_getElem.1 h.Vq j i Ch Z8 hj;rw [e2,e3] at this;exact this
   omega
 obtain⟨a,b,c,d⟩:=uk q (oN (refs (hd q))) P (fun x hx=>hf _ x (o6.1 hx)) (H5 _) h.Vq h.one (fun p hp=>.inl (SY p hp));obtain⟨A,hA⟩:=rI q (oN (refs (hd q))) P;have Sy:∀ p∈P,p∈mD q P (oN (refs (hd q))):=fun p hp=>by rw [hA];exact List.mem_append.2 (.inl hp)
 have wO:∀ j,j<P.length->(mD q P (oN (refs (hd q))))[j]?=P[j]?:=fun j hj=>by rw [hA,List.getElem?_append_left hj]
 refine⟨fun p hp=>?_,a,b,fun p hp=>?_,fun r hm=>?_,fun j hj q' hq' x hx=>?_⟩
 ·rcases c p hp with hp | ⟨x,hx,rfl⟩
  ·exact h.vx p hp
  ·rw [lH];exact .step hqw (o6.1 hx)
 ·rcases c p hp with hp | ⟨x,hx,rfl⟩
  ·rcases h.zaV p hp with e | ⟨j,hj,e⟩
   ·exact .inl e
   ·exact .inr ⟨j,by omega,(wO j (zLs e).1).trans e⟩
  ·rw [List.dropLast_concat];exact .inr ⟨i,by omega,(wO i hqi).trans hq⟩
 ·obtain⟨p,hp,h1,h2⟩:=h.root r hm;exact⟨p,Sy p hp,h1,h2⟩
 ·by_cases e:j=i
  ·subst e;rw [wO j hqi,hq] at hq';obtain rfl:=zOi hq';exact d x (o6.2 hx)
  ·rw [wO j (by omega)] at hq';obtain⟨p,hp,h1,h2⟩:=h.next j (by omega) q' hq' x hx;exact⟨p,Sy p hp,h1,h2⟩
theorem Y7(hr:Dg roots)(hf:∀ g,Dg (refs g)):∀ i,i<=(qX roots refs i).length\/(qX roots refs i).length<=i->Bf roots refs (qX roots refs i) i:=by
 intro i _;induction i with
 | zero=>exact Y6 hr
 | succ i ih =>
  have hi:=ih (by omega);by_cases hl:i<(qX roots refs i).length
  ·rw [Kx (zLg hl)];exact hi.step hr hf (zLg hl)
  ·rw [Ky (by omega)];exact⟨hi.vx,hi.Vq,hi.one,fun p hp=>by
    rcases hi.zaV p hp with e | ⟨j,hj,e⟩
    ·exact .inl e
    ·exact .inr ⟨j,by omega,e⟩,hi.root,fun j hj q hq=>by
    have:=(zLs hq).1;exact hi.next j (by omega) q hq⟩
theorem Bf.len(hr:Dg roots)(hf:∀ g,Dg (refs g)){P:List (List Int)}{i:Nat}(h:Bf roots refs P i):P.length<=40:=by
 have Sy:∀ x∈P.map hd,x∈(List.range 40).map (fun j:Nat=>(j:Int)+1):=fun x hx=>by obtain⟨p,hp,rfl⟩:=List.mem_map.1 hx;have:=(h.vx p hp).dg hr hf;exact nU.2 ⟨this.2.1,this.2.2.1⟩
 have key:∀ (a b:List Int),a.Nodup->(∀ x∈a,x∈b)->a.length<=b.length:=by
  intro a;induction a with
  | nil=>intro b _ _;simp
  | cons x a ih =>intro b hn hs;have hx:=hs x (by simp);have h2:=ih (b.erase x) (List.nodup_cons.1 hn).2 (fun y hy=>(List.mem_erase_of_ne (fun e=>(List.nodup_cons.1 hn).1 (by rw [<- e];exact hy))).2 (hs y (by simp [hy])));rw [List.length_erase_of_mem hx] at h2;have:0<b.length:=List.length_pos_of_mem hx;rw [zLc];omega
 have:=key _ _ h.one Sy;rw [zLm,zLm,List.length_range] at this;exact this
def wyF(P:List (List Int))(x:Int):List Int:=(P.find? (fun p=>hd p == x)).getD []
theorem Bf.uniq{P:List (List Int)}{i:Nat}(h:Bf roots refs P i):∀ p∈P,∀ p'∈P,hd p=hd p'->p=p':=fun p hp p' hp' e=>by
 obtain⟨j,hj,rfl⟩:=List.getElem_of_mem hp;obtain⟨k,hk,rfl⟩:=List.getElem_of_mem hp';have hn:=h.one;have:j=k:=by
  have hp:=List.pairwise_iff_getElem.1 hn;rcases Nat.lt_trichotomy j k with h | h | h
  ·exact absurd (by rw [List.getElem_map,List.getElem_map];exact e) (hp j k (by simpa using hj) (by simpa using hk) h)
  ·exact h
  ·exact absurd (by rw [List.getElem_map,List.getElem_map];exact e.symm) (hp k j (by simpa using hk) (by simpa using hj) h)
 subst this;rfl
theorem Bf.still(hr:Dg roots)(hf:∀ g,Dg (refs g)){P:List (List Int)}{i:Nat}(h:Bf roots refs P i)(hi:P.length<=i):Still roots refs (wyF P):=by
 have Xd:=h.uniq
 show Still roots refs (fun x=>(P.find? (fun p=>hd p == x)).getD [])
 have Ni:∀ p∈P,(P.find? (fun r=>hd r == hd p)).getD []=p:=fun p hp=>by
  cases hc:P.find? (fun r=>hd r == hd p) with
  | none=>exact absurd (List.find?_eq_none.1 hc p hp) (by simp)
  | some r =>have h1:=List.mem_of_find?_eq_some hc;have h2:=List.find?_some hc;rw [beq_iff_eq] at h2;exact Xd r h1 p hp h2
 have hnn:∀ p∈P,p≠[]:=fun p hp=>((h.vx p hp).dg hr hf).2.2.2
 have zcX:∀ x,(P.find? (fun p=>hd p == x)).getD []≠[]->∃ p∈P,hd p=x/\(P.find? (fun p=>hd p == x)).getD []=p:=fun x hx=>by
  cases hc:P.find? (fun r=>hd r == x) with
  | none=>rw [hc] at hx;exact absurd rfl hx
  | some r =>have h2:=List.find?_some hc;rw [beq_iff_eq] at h2;exact⟨r,List.mem_of_find?_eq_some hc,h2,rfl⟩
 refine⟨fun r hm=>?_,fun g hg x hx=>?_,fun g hg=>?_⟩
 ·obtain⟨p,hp,rfl,h2⟩:=h.root r hm
  show(P.find? (fun p'=>hd p' == hd p)).getD []≠[]/\rk ((P.find? (fun p'=>hd p' == hd p)).getD [])<=_
  rw [Ni p hp];exact⟨hnn p hp,h2⟩
 ·obtain⟨p,hp,rfl,e⟩:=zcX g hg;rw [e];obtain⟨j,hj,e2⟩:=List.getElem_of_mem hp;obtain⟨p',hp',rfl,h2⟩:=h.next j (by omega) p (by rw [<- e2];exact zLg hj) x hx;rw [Ni p' hp'];exact⟨hnn p' hp',h2⟩
 ·obtain⟨p,hp,rfl,e⟩:=zcX g hg;rw [e];exact h.vx p hp
end
section
open Go.RowKit
def dx(L:List Int)(acc:List Int)(x:Int):List Int:=if aP L x≠0 then acc else if acc.any (fun y=>y == x)=true then acc else acc++[x]
def lY(L l:List Int)(k:Nat):List Int:=(l.take k).foldl (dx L) []
def eW(L:List Int)(h:Int):List Int:=lY L (aD L h).2 (aD L h).1.toNat
theorem C6{L l:List Int}{k:Nat}(hk:k<l.length):lY L l (k+1)=dx L (lY L l k) (l.getD k 0):=by unfold lY;rw [List.take_succ_eq_append_getElem hk,List.foldl_append];simp [List.getD,hk]
theorem IC(L acc:List Int)(x:Int):(dx L acc x).length<=acc.length+1:=by
 unfold dx;split
 ·omega
 ·split
  ·omega
  ·simp
theorem IE(L l:List Int):∀ k,(lY L l k).length<=k:=by
 intro k;induction k with
 | zero=>simp [lY]
 | succ k ih =>
  by_cases hk:k<l.length
  ·rw [C6 hk];exact Nat.le_trans (IC _ _ _) (by omega)
  ·have:lY L l (k+1)=lY L l k:=by unfold lY;rw [List.take_of_length_le (by omega),List.take_of_length_le (by omega)]
   rw [this];omega
def Av(b:List Int)(s:ByteArray)(i:Nat):Bool:=decide ((aT ((rowAt b i).take 8)).2=0) && decide ((aT ((rowAt b i).take 8)).1=s)
def ij(b:List Int)(s:ByteArray):Nat:=tr (Av b s) 8
def AX(b:List Int):Nat:=tr (fun i=>!isRoot (rowAt b i)) 8
def nO(b:List Int)(s:ByteArray):Nat:=if ij b s<8 then ij b s else AX b
def oV(b:List Int)(s:ByteArray)(h:Int):Int:=if du s=false then 2 else if aP b h≠0 then aP b h else if nO b s=8 then 4 else 0
def oO(b:List Int)(s:ByteArray)(h:Int):List Int:=je b (nO b s) (s,h)
def O1(b:List Int)(s:ByteArray):Bool:=decide (ij b s=8)
def B1(b:List Int)(s:ByteArray):Int:=if du s=false then 2 else if ij b s=8 then 5 else 0
def Lr(b:List Int)(s:ByteArray):List Int:=splice b (200+11 * ij b s) (ag 11)
theorem gF(b:List Int)(s:ByteArray):cF (Av b s) 8 (ij b s):=cf _ _
theorem oB(b:List Int):cF (fun i=>!isRoot (rowAt b i)) 8 (AX b):=cf _ _
theorem s9(b:List Int)(s:ByteArray):ij b s<=8:=(gF b s).1
theorem Ns(b:List Int):AX b<=8:=(oB b).1
theorem zdF(b:List Int)(s:ByteArray):nO b s<=8:=by
 unfold nO;split
 ·exact s9 b s
 ·exact Ns b
theorem qw{b:List Int}(hf:aB b){s:ByteArray}{h:Int}(h0:oV b s h=0):BI b (nO b s) (s,h)=0/\nO b s<8/\du s=true/\aP b h=0:=by
 unfold oV at h0;cases hn:du s with
 | false=>rw [hn,if_pos rfl] at h0;exact absurd h0 (by decide)
 | true =>
  rw [hn,if_neg (by simp)] at h0;by_cases hc:aP b h=0
  ·rw [if_neg (fun h=>h hc)] at h0;by_cases hi:nO b s=8
   ·rw [if_pos hi] at h0;exact absurd h0 (by decide)
   ·have hle:=zdF b s;obtain⟨q1,q2,q3⟩:=aJ.1 hc;have hh:=aF.1 q2;refine⟨gB.2 ⟨hf.cW,by omega,by omega,?_⟩,by omega,rfl,hc⟩;unfold eF;have Na:¬ gv (s,h)=true:=fun hx=>by have:=(eX.1 hx).2;dsimp only at this;omega
    rw [if_neg Na,if_neg (by rw [q2];simp),if_pos hn]
  ·rw [if_pos hc] at h0;exact absurd h0 hc
section
variable {b c:List Int}
theorem I0{x:ByteArray}:∀ {k:Nat},x∈cG b k->∃ i,i<k/\isRoot (rowAt b i)=true/\nameAt b i=x
 | 0,h=>by cases h
 | k+1,h=>by
  have h':x∈cG b k++if dJ b k (cG b k)=true then [nameAt b k] else []:=h
  rcases zMa h' with h1 | h1
  ·obtain⟨i,hi,hr⟩:=I0 h1;exact⟨i,by omega,hr⟩
  ·by_cases hf:dJ b k (cG b k)=true
   ·rw [if_pos hf] at h1;have hf':=hf;unfold dJ at hf';rw [Bool.and_eq_true] at hf';exact⟨k,by omega,hf'.1,(zMs h1).symm⟩
   ·rw [if_neg hf] at h1;cases h1
theorem V8(hf:∀ i,i<8->dX b i=[]){i k:Nat}(hi:i<k)(hk:k<=8)(hr:isRoot (rowAt b i)=true):nameAt b i∈cG b k:=by
 induction k with
 | zero=>omega
 | succ k ih =>
  show nameAt b i∈cG b k++if dJ b k (cG b k)=true then [nameAt b k] else []
  by_cases e:i=k
  ·subst e;rcases dD.1 (hf i (by omega)) with h0 | h0
   ·rw [h0] at hr;cases hr
   ·rw [if_pos h0];simp
  ·exact List.mem_append.2 (.inl (ih (by omega) (by omega)))
theorem eB:(∀ i,i<8->dX b i=[]) ↔ (∀ i,i<8->isRoot (rowAt b i)=true->pJ b i=false)/\∀ i j,i<j->j<8->isRoot (rowAt b i)=true->isRoot (rowAt b j)=true->nameAt b i≠nameAt b j:=by
 haveI:=se
 constructor
 ·intro hf;have zcY:∀ i,i<8->isRoot (rowAt b i)=true->pJ b i=false/\(cG b i).contains (nameAt b i)=false:=fun i hi hr=>by
   rcases dD.1 (hf i hi) with h0 | h0
   ·rw [h0] at hr;cases hr
   ·unfold dJ at h0;rw [Bool.and_eq_true,Bool.and_eq_true,Bool.not_eq_true',Bool.not_eq_true'] at h0;exact h0.2
  refine⟨fun i hi hr=>(zcY i hi hr).1,fun i j hij hj hi hr e=>?_⟩;have h1:=(zcY j hj hr).2;rw [<- e,List.contains_iff_mem.2 (V8 hf hij (by omega) hi)] at h1;cases h1
 ·rintro ⟨h1,h2⟩ i hi;refine dD.2 ?_;cases hr:isRoot (rowAt b i) with
  | false=>exact .inl rfl
  | true =>
   refine .inr ?_;unfold dJ;rw [hr,h1 i hi hr];cases hc:(cG b i).contains (nameAt b i) with
   | false=>rfl
   | true =>obtain⟨j,hj,hjr,e⟩:=I0 (List.contains_iff_mem.1 hc);exact absurd e (h2 j i hj hi hjr hr)
theorem cy{r:(ByteArray×Int)}:∀ {k:Nat},r∈ak b k ↔ ∃ i,i<k/\isRoot (rowAt b i)=true/\rootOf (rowAt b i)=r
 | 0=>by simp [ak]
 | k+1=>by
  constructor
  ·intro h;have h':r∈ak b k++if isRoot (rowAt b k)=true then [rootOf (rowAt b k)] else []:=h
   rcases zMa h' with h1 | h1
   ·obtain⟨i,hi,hr⟩:=cy.1 h1;exact⟨i,by omega,hr⟩
   ·by_cases hr:isRoot (rowAt b k)=true
    ·rw [if_pos hr] at h1;exact⟨k,by omega,hr,(zMs h1).symm⟩
    ·rw [if_neg hr] at h1;cases h1
  ·rintro ⟨i,hi,hr,rfl⟩;exact iZ hi hr
theorem CW{l:List Int}(h:isRoot l=false)(hl:l.length=11):l=ag 11:=by
 apply List.ext_getElem
 ·rw [hl,aj]
 ·intro i h1 h2;have:=List.any_eq_false.1 h l[i] (List.getElem_mem h1);have e:l[i]=0:=by simpa using this
  rw [e];exact(List.getElem_replicate ..).symm
theorem B5:(aT ((ag 11).take 8)).2=2:=by decide
theorem fP(hf:aB b){s:ByteArray}{i:Nat}(hi:i<8):Av b s i=true ↔ isRoot (rowAt b i)=true/\nameAt b i=s:=by
 have hl:=hf.len;unfold Av;rw [Bool.and_eq_true,decide_eq_true_iff,decide_eq_true_iff];constructor
 ·rintro ⟨h1,h2⟩;cases hr:isRoot (rowAt b i) with
  | true=>exact⟨rfl,h2⟩
  | false =>rw [CW hr (aS (by omega)),B5] at h1;cases h1
 ·rintro ⟨h1,h2⟩;have:=(eB.1 (bV.1 hf.ok).2).1 i hi h1;exact⟨(fu.1 this).1,h2⟩
theorem me(hf:aB b){s:ByteArray}{i:Nat}(hi:i<8)(hr:isRoot (rowAt b i)=true)(hn:nameAt b i=s):aU (ak b 8) s=(rowAt b i).getD 10 0:=by have rS:=dN hf.ok;have hm:(s,(rowAt b i).getD 10 0)∈ak b 8:=cy.2 ⟨i,hi,hr,by unfold rootOf;rw [<- hn];rfl⟩;exact(qJ rS (rS.pos _ hm).1).2 hm
theorem nW{s:ByteArray}(hn:∀ i,i<8->isRoot (rowAt b i)=true->nameAt b i≠s):aU (ak b 8) s=0:=by unfold aU;have:(ak b 8).find? (fun r=>r.1 == s)=none:=List.find?_eq_none.2 (fun r hr=>by obtain⟨i,hi,hq,rfl⟩:=cy.1 hr;intro h;exact hn i hi hq (fF.1 h));rw [this];rfl
theorem FX(hf:aB b)(s:ByteArray):aU (ak b 8) s=if ij b s<8 then (rowAt b (ij b s)).getD 10 0 else 0:=by
 have hp:=gF b s;by_cases h:ij b s<8
 ·rw [if_pos h];obtain⟨h1,h2⟩:=(fP hf h).1 (hp.2.2 h);exact me hf h h1 h2
 ·rw [if_neg h];refine nW (fun i hi hr e=>?_);have:=hp.2.1 i (by omega);rw [(fP hf hi).2 ⟨hr,e⟩] at this;cases this
theorem mg(hf:aB b){i:Nat}(hi:i<8)(hr:isRoot (rowAt b i)=true):1<=(rowAt b i).getD 10 0/\(rowAt b i).getD 10 0<=40/\aq b ((rowAt b i).getD 10 0)≠0:=by obtain⟨_,_,_,h4,h5⟩:=fu.1 ((eB.1 (bV.1 hf.ok).2).1 i hi hr);have:=aF.1 h4;exact⟨this.1,this.2,(iJ.1 h5).1⟩
theorem Dy(hf:aB b)(s:ByteArray):aU (ak b 8) s=0 ↔ ij b s=8:=by
 have hp:=gF b s;have hle:=s9 b s;rw [FX hf];constructor
 ·intro h;by_cases h8:ij b s<8
  ·rw [if_pos h8] at h;have:=mg hf h8 ((fP hf h8).1 (hp.2.2 h8)).1;omega
  ·omega
 ·intro h;rw [if_neg (by omega)]
structure Row1 (b c:List Int) (i:Nat) (r:List Int):Prop where
 lt:i<8
 len:c.length=b.length
 here:rowAt c i=r
 kO:∀ j,j<8->j≠i->rowAt c j=rowAt b j
 yN:∀ h,1<=h->h<=40->aq c h=aq b h/\ai c h=ai b h
 tail:∀ j,288<=j->c.getD j 0=b.getD j 0
theorem mV(hl:288<=b.length){i:Nat}(hi:i<8){r:List Int}(hr:r.length=11):Row1 b (splice b (200+11 * i) r) i r:=by
 have dc:200+11 * i+r.length<=b.length:=by omega
 have hlen:=length_splice dc;refine⟨hi,hlen,Ir hr (by omega),fun j hj aO=>CZ dc (by omega) (by omega),fun h h1 h2=>?_,fun j hj=>aY dc (by omega)⟩;have hp:=cH h1 h2;exact tu hlen hl h1 h2 (fun j hj=>aY dc (by omega))
theorem Row1.zc5{i:Nat}{r:List Int}(t:Row1 b c i r)(hf:aB b):(∀ h,1<=h->h<=40->eH c h=[])/\∀ h,1<=h->h<=40->oM c h=oM b h:=by have hw:=OK t.len t.yN;refine⟨fun h h1 h2=>?_,hw⟩;obtain⟨e1,e2⟩:=t.yN h h1 h2;have:=dH.1 ((bV.1 hf.ok).1 h h1 h2);exact dH.2 (by rw [hw h h1 h2,e1,e2];exact this)
theorem Row1.Ts{i:Nat}(t:Row1 b c i (ag 11))(hf:aB b):aB c:=by
 obtain⟨h1,hw⟩:=t.zc5 hf;obtain⟨r1,r2⟩:=eB.1 (bV.1 hf.ok).2;have JB:∀ j,j<8->isRoot (rowAt c j)=true->j≠i/\isRoot (rowAt b j)=true:=fun j hj hr=>by
  by_cases e:j=i
  ·subst e;rw [t.here,js] at hr;cases hr
  ·rw [t.kO j hj e] at hr;exact⟨e,hr⟩
 refine⟨by rw [t.len];exact hf.len,bV.2 ⟨h1,eB.2 ⟨fun j hj hr=>?_,fun j k hjk hk hj hr=>?_⟩⟩⟩
 ·obtain⟨aO,hb⟩:=JB j hj hr;obtain⟨q1,q2,q3,q4,q5⟩:=fu.1 (r1 j hj hb);have hx:=aF.1 q4;refine fu.2 ?_;rw [t.kO j hj aO];exact⟨q1,q2,q3,q4,by rw [hw _ hx.1 hx.2];exact q5⟩
 ·obtain⟨n1,b1⟩:=JB j (by omega) hj;obtain⟨n2,b2⟩:=JB k hk hr;have:=r2 j k hjk hk b1 b2;unfold nameAt at this ⊢;rw [t.kO j (by omega) n1,t.kO k hk n2];exact this
theorem Row1.wU{i:Nat}{s:ByteArray}{h:Int}(t:Row1 b c i (fX (s,h)))(hf:aB b)(hn:du s=true)(hc:aP b h=0)(gI:∀ j,j<8->j≠i->isRoot (rowAt b j)=true->nameAt b j≠s) :
  aB c/\isRoot (rowAt c i)=true/\nameAt c i=s/\(rowAt c i).getD 10 0=h:=by
 obtain⟨h1,hw⟩:=t.zc5 hf;obtain⟨r1,r2⟩:=eB.1 (bV.1 hf.ok).2;obtain⟨q1,q2,q3⟩:=aJ.1 hc;have hh:=aF.1 q2;have Na:¬ gv (s,h)=true:=fun hx=>by have:=(eX.1 hx).2;dsimp only at this;omega
 have F6:eF (s,h)=0:=by unfold eF;rw [if_neg Na,if_neg (by rw [q2];simp),if_pos hn]
 obtain⟨g1,g2⟩:=qx F6 Na;have hi:=t.here;have e1:nameAt c i=s:=by unfold nameAt;rw [hi];exact congrArg Prod.fst g2
 have e2:(rowAt c i).getD 10 0=h:=by rw [hi];exact congrArg Prod.snd g2
 have dy:=bZ.1 hn;have bn:fX (s,h)=bf s++[0,0,h % 256]:=by unfold fX;rw [if_neg Na]
 have PI:=bD s dy.2.1;have zhP:(aT ((fX (s,h)).take 8)).2=0:=by rw [bn,List.take_append_of_le_length (by omega),List.take_of_length_le (by omega)];have f1:bU (bf s)=s.size:=(cf _ _).unique (ng s dy);have f2:lU (bf s) s.size=8-s.size:=(cf _ _).unique (nf s dy.2.1);unfold aT;rw [if_neg (fun h=>h PI),f1,f2,PI,if_neg (by have:=dy.1;omega)]
 have hZ:pJ c i=false:=by
  refine fu.2 ?_;rw [e2,hi];refine⟨zhP,?_,?_,q2,?_⟩
  ·rw [bn,List.getD,List.getElem?_append_right (by omega),PI];rfl
  ·rw [bn,List.getD,List.getElem?_append_right (by omega),PI];rfl
  ·rw [hw h hh.1 hh.2];exact(hf.hand hh.1 hh.2 q3).1
 refine⟨⟨by rw [t.len];exact hf.len,bV.2 ⟨h1,eB.2 ⟨fun j hj hr=>?_,fun j k hjk hk hj hr=>?_⟩⟩⟩,by rw [hi];exact g1,e1,e2⟩
 ·by_cases e:j=i
  ·subst e;exact hZ
  ·have hb:isRoot (rowAt b j)=true:=by rw [<- t.kO j hj e];exact hr
   obtain⟨p1,p2,p3,p4,p5⟩:=fu.1 (r1 j hj hb);have hx:=aF.1 p4;refine fu.2 ?_;rw [t.kO j hj e];exact⟨p1,p2,p3,p4,by rw [hw _ hx.1 hx.2];exact p5⟩
 ·have key:∀ j,j<8->j≠i->isRoot (rowAt c j)=true->isRoot (rowAt b j)=true/\nameAt c j=nameAt b j:=fun j hj e hr=>by have he:=t.kO j hj e;exact⟨by rw [<- he];exact hr,by unfold nameAt;rw [he]⟩
  by_cases ej:j=i
  ·subst ej;obtain⟨k1,k2⟩:=key k hk (by omega) hr;rw [e1,k2];exact fun e=>gI k hk (by omega) k1 e.symm
  ·obtain⟨j1,j2⟩:=key j (by omega) ej hj;by_cases ek:k=i
   ·subst ek;rw [e1,j2];exact gI j (by omega) ej j1
   ·obtain⟨k1,k2⟩:=key k hk ek hr;rw [j2,k2];exact r2 j k hjk hk j1 k1
theorem Row1.tc{i:Nat}{r:List Int}(t:Row1 b c i r)(hf:aB b)(h:Int)(h1:1<=h)(h2:h<=40):aD c h=aD b h/\aP c h=aP b h/\gz c h=gz b h:=by
 obtain⟨e1,e2⟩:=t.yN h h1 h2;refine⟨l7 t.len e1 e2 (fun ht j hj _=>t.tail j ?_),?_,?_⟩
 ·have:=(hf.jB h1 h2 ht).1;omega
 ·unfold aP;rw [t.len,e1]
 ·unfold gz aP;rw [t.len,e1,e2]
end
section
variable {roots:List Int} {refs:Int->List Int}
def EL(roots:List Int)(refs:Int->List Int):Int->List Int:=wyF (qX roots refs 40)
theorem lM(hr:Dg roots)(hf:∀ g,Dg (refs g)):Still roots refs (EL roots refs):=by have h:=Y7 hr hf 40 (Nat.le_total _ _);exact h.still hr hf (h.len hr hf)
theorem Still.eq(hr:Dg roots)(hf:∀ g,Dg (refs g)){V:Int->List Int}(s:Still roots refs V)(h:Int):V h=EL roots refs h:=s.one hr hf (lM hr hf) h
theorem Way.steps{p:List Int}{h:Int}(w:Way roots refs p h):p≠[]/\p.getD 0 0∈roots/\p.getD (p.length-1) 0=h/\∀ j,1<=j->j<p.length->p.getD j 0∈refs (p.getD (j-1) 0):=by
 refine w.ind (fun p h=>p≠[]/\p.getD 0 0∈roots/\p.getD (p.length-1) 0=h/\∀ j,1<=j->j<p.length->p.getD j 0∈refs (p.getD (j-1) 0)) (fun r hm=>⟨by simp,hm,rfl,fun j h1 h2=>by simp at h2;omega⟩) (fun q g x w hx ih=>?_)
 ·obtain⟨i1,i2,i3,i4⟩:=ih;have hq:0<q.length:=List.length_pos_iff.2 i1;have at1:∀ j,j<q.length->(q++[x]).getD j 0=q.getD j 0:=fun j hj=>by simp [List.getD,List.getElem?_append_left hj]
  have at2:(q++[x]).getD q.length 0=x:=by simp [List.getD]
  refine⟨by simp,by rw [at1 0 hq];exact i2,by rw [zLa];exact at2,fun j h1 h2=>?_⟩;rw [zLa,List.length_singleton] at h2;by_cases e:j=q.length
  ·subst e;rw [at2,at1 _ (by omega),i3];exact hx
  ·rw [at1 j (by omega),at1 (j-1) (by omega)];exact i4 j h1 (by omega)
theorem Way.all(hr:Dg roots)(hf:∀ g,Dg (refs g)){p:List Int}{h:Int}(w:Way roots refs p h):EL roots refs h≠[]:=((lM hr hf).least w).1
end
def mU(L:List Int):List Int:=(ak L 8).map (·.2)
theorem iL{L:List Int}(hf:aB L):Dg (mU L):=fun x hx=>by obtain⟨r,hr,rfl⟩:=List.mem_map.1 hx;exact(dN hf.ok).pos r hr
theorem PW{L:List Int}:∀ (l acc:List Int),(∀ x∈acc,aP L x=0)->∀ x∈l.foldl (dx L) acc,aP L x=0
 | [],acc,h=>h
 | y :: l,acc,h=>by
  refine PW l (dx L acc y) (fun x hx=>?_);unfold dx at hx;by_cases hc:aP L y=0
  ·rw [if_neg (fun h=>h hc)] at hx;split at hx
   ·exact h x hx
   ·rcases zMa hx with hx | hx
    ·exact h x hx
    ·rw [zMs hx];exact hc
  ·rw [if_pos hc] at hx;exact h x hx
theorem IA{L:List Int}{h x:Int}(hx:x∈eW L h):aP L x=0:=PW _ [] (fun x hx=>by cases hx) x hx
theorem eV(L:List Int)(h:Int):Dg (eW L h):=fun x hx=>aF.1 (aJ.1 (IA hx)).2.1
def sO(L:List Int)(h:Int):List Int:=EL (mU L) (eW L) h
def Ww(L:List Int)(h:Int):Bool:=decide (sO L h≠[])
def jO(L:List Int)(k:Nat):List Int:=((List.range k).map (fun j:Nat=>(j:Int)+1)).filter fun h=>decide (aq L h≠0) && !Ww L h
theorem ri{L:List Int}(hf:aB L):Still (mU L) (eW L) (sO L):=lM (iL hf) (eV L)
theorem vI{L:List Int}(hf:aB L){h:Int}(hn:sO L h≠[]):aP L h=0:=by
 have s:=ri hf;have w:=s.vx h hn;rcases w.parts with hm | ⟨q,g,_,hx⟩
 ·obtain⟨r,hr,rfl⟩:=List.mem_map.1 hm;obtain⟨i,hi,hq,e⟩:=cy.1 hr;obtain⟨o1,o2,o3⟩:=mg hf hi hq;have er:r.2=(rowAt L i).getD 10 0:=by rw [<- e];rfl
  rw [er];exact aJ.2 ⟨hf.cW,aF.2 ⟨o1,o2⟩,o3⟩
 ·exact IA hx
theorem uu{L:List Int}{k:Nat}{h:Int}:h∈jO L k ↔ (1<=h/\h<=k)/\aq L h≠0/\sO L h=[]:=by unfold jO Ww;rw [List.mem_filter,nU,Bool.and_eq_true,decide_eq_true_iff,Bool.not_eq_true',decide_eq_false_iff_not,Decidable.not_not]
def BH(L:List Int)(D:List Int):List Int:=D.foldl (fun b h=>cN b h) L
structure iE (L c:List Int) (D:List Int):Prop where
 aV:aB c
 len:c.length=L.length
 keep:∀ k,1<=k->k<=40->k ∉ D->aq c k=aq L k/\ai c k=ai L k
 gone:∀ k∈D,1<=k->k<=40->aq c k=0
 tail:∀ j,200<=j->c.getD j 0=L.getD j 0
theorem iE.rows{L c D:List Int}(s:iE L c D):∀ i,i<8->rowAt c i=rowAt L i:=fun i hi=>by
 have hl:=s.aV.len;have lR:=s.len;apply bQ
 ·rw [aS (by omega),aS (by omega)]
 ·intro j hj;rw [aS (by omega)] at hj;rw [bH hj,bH hj];exact s.tail _ (by omega)
theorem iE.refl{L:List Int}(hf:aB L):iE L L []:=⟨hf,rfl,fun _ _ _ _=>⟨rfl,rfl⟩,fun k hk=>(by cases hk),fun _ _=>rfl⟩
theorem iE.more{L c D:List Int}(s:iE L c D){h:Int}(hc:aP L h=0)(hn:h ∉ D)(hr:h ∉ mU L):aP c h=0/\Eg c h=0/\iE L (cN c h) (D++[h]):=by
 obtain⟨q1,q2,q3⟩:=aJ.1 hc;have hh:=aF.1 q2;obtain⟨k1,k2⟩:=s.keep h hh.1 hh.2 hn;have nH:aP c h=0:=aJ.2 ⟨s.aV.cW,q2,by rw [k1];exact q3⟩;have gI:∀ i,i<8->isRoot (rowAt c i)=true->(rowAt c i).getD 10 0≠h:=fun i hi hq e=>by rw [s.rows i hi] at hq e;exact hr (List.mem_map.2 ⟨_,iZ hi hq,e⟩)
 obtain⟨f,fo,fs,fl,ft⟩:=wX s.aV nH gI;refine⟨nH,uU.2 ⟨nH,List.any_eq_false.2 (fun r JC=>?_)⟩,f,fl.trans s.len,fun k h1 h2 hk=>?_,fun k hk=>?_,fun j hj=>(ft j hj).trans (s.tail j hj)⟩
 ·obtain⟨i,hi,hq,rfl⟩:=cy.1 JC;rw [beq_iff_eq];exact gI i hi hq
 ·have wJ:k ∉ D:=fun hm=>hk (List.mem_append.2 (.inl hm))
  have gO:k≠h:=fun e=>hk (List.mem_append.2 (.inr (by rw [e];simp)))
  obtain⟨a1,a2⟩:=fo k h1 h2 gO;obtain⟨b1,b2⟩:=s.keep k h1 h2 wJ;exact⟨a1.trans b1,a2.trans b2⟩
 ·intro k1 k2;by_cases e:k=h
  ·subst e;exact fs
  ·rcases zMa hk with hk | hk
   ·rw [(fo k k1 k2 e).1];exact s.gone k hk k1 k2
   ·exact absurd (zMs hk) e
theorem zA{L:List Int}(hf:aB L):∀ (D E:List Int),(E++D).Nodup->(∀ h∈E++D,aP L h=0/\h ∉ mU L)->∀ c,iE L c E->iE L (BH c D) (E++D)
 | [],E,_,_,c,s=>by rw [List.append_nil];exact s
 | h :: D,E,hn,bB,c,s=>by
  have hh:=bB h (by simp);have hnE:h ∉ E:=fun hm=>by rw [List.nodup_append] at hn;exact hn.2.2 h hm h (by simp) rfl
  have s2:=(s.more hh.1 hnE hh.2).2.2;have e:E++h :: D=E++[h]++D:=by simp
  rw [e] at hn bB ⊢;exact zA hf D (E++[h]) hn bB (cN c h) s2
section
variable {L c:List Int}
theorem Gs(hf:aB L):(jO L 40).Nodup/\∀ h∈jO L 40,aP L h=0/\h ∉ mU L:=by
 refine⟨?_,fun h hh=>?_⟩
 ·unfold jO;exact List.Pairwise.filter _ (List.pairwise_map.2 (List.nodup_range.imp (fun aO e=>aO (by omega))))
 ·obtain⟨⟨h1,h2⟩,ht,hw⟩:=uu.1 hh;refine⟨aJ.2 ⟨hf.cW,aF.2 ⟨h1,h2⟩,ht⟩,fun hm=>?_⟩;exact((ri hf).base h hm).1 hw
theorem qt(hf:aB L):iE L (BH L (jO L 40)) (jO L 40):=by obtain⟨h1,h2⟩:=Gs hf;have:=zA hf (jO L 40) [] (by simpa using h1) (by simpa using h2) L (iE.refl hf);simpa using this
end
section
variable {b c:List Int} {s:ByteArray} {h:Int}
theorem y6(hf:aB b){i:Nat}(hi:i<8)(hr:isRoot (rowAt b i)=true)(hn:nameAt b i=s):ij b s=i:=by
 have hp:=gF b s;have h1:=(fP hf hi).2 ⟨hr,hn⟩;have hle:ij b s<=i:=Nat.le_of_not_lt fun aM=>by have:=hp.2.1 i aM;rw [h1] at this;cases this
 refine Classical.byContradiction fun aO=>?_
 obtain⟨g1,g2⟩:=(fP hf (show ij b s<8 by omega)).1 (hp.2.2 (by omega));exact(eB.1 (bV.1 hf.ok).2).2 _ i (by omega) hi g1 hr (by rw [g2,hn])
theorem zhi(hf:aB b)(h8:ij b s=8):∀ i,i<8->isRoot (rowAt b i)=true->nameAt b i≠s:=fun i hi hr e=>by have:=y6 hf hi hr e;omega
theorem qv(hf:aB b)(h0:oV b s h=0):Row1 b (oO b s h) (nO b s) (fX (s,h)):=by
 obtain⟨h1,h2,h3,h4⟩:=qw hf h0;obtain⟨_,_,_,q4⟩:=gB.1 h1;have e:oO b s h=splice b (200+11 * nO b s) (fX (s,h)):=by unfold oO je;rw [if_pos h1,zTn]
 rw [e];exact mV hf.len.1 h2 (kC q4)
theorem zg3(hf:aB b)(h0:oV b s h=0):∀ j,j<8->j≠nO b s->isRoot (rowAt b j)=true->nameAt b j≠s:=fun j hj aO hr e=>by have hp:=y6 hf hj hr e;apply aO;unfold nO;rw [hp,if_pos hj]
theorem mP(hf:aB b)(h0:oV b s h=0):aB (oO b s h)/\isRoot (rowAt (oO b s h) (nO b s))=true/\nameAt (oO b s h) (nO b s)=s/\(rowAt (oO b s h) (nO b s)).getD 10 0=h:=by obtain⟨_,_,h3,h4⟩:=qw hf h0;exact(qv hf h0).wU hf h3 h4 (zg3 hf h0)
theorem rn(h0:B1 b s=0):du s=true/\ij b s<8:=by
 unfold B1 at h0;have:=s9 b s;cases hn:du s with
 | false=>rw [hn,if_pos rfl] at h0;exact absurd h0 (by decide)
 | true =>
  rw [hn,if_neg (by simp)] at h0;by_cases h8:ij b s=8
  ·rw [if_pos h8] at h0;exact absurd h0 (by decide)
  ·exact⟨rfl,by omega⟩
theorem zr(hf:aB b)(h0:B1 b s=0):Row1 b (Lr b s) (ij b s) (ag 11):=mV hf.len.1 (rn h0).2 (aj 11)
theorem yW(hf:aB b)(h0:B1 b s=0):aB (Lr b s):=(zr hf h0).Ts hf
end
theorem ub{s:ByteArray}(h:gA s):aT (bf s)=(s,0):=by have hl:=bD s h.2.1;have f1:bU (bf s)=s.size:=(cf _ _).unique (ng s h);have f2:lU (bf s) s.size=8-s.size:=(cf _ _).unique (nf s h.2.1);unfold aT;rw [if_neg (fun h=>h hl),f1,f2,hl,if_neg (by have:=h.1;omega),td]
theorem iM{l:List Int}(hb:bj l)(h0:(aT l).2=0):l.length=8/\gA (aT l).1/\bf (aT l).1=l:=by
 unfold aT at h0 ⊢;by_cases hl:l.length=8
 ·rw [if_neg (fun h=>h hl)] at h0 ⊢;by_cases hc:bU l=0\/lU l (bU l)<l.length-bU l
  ·rw [if_pos hc] at h0;exact absurd h0 (by decide)
  ·rw [if_neg hc];have hf:cF (fun j=>(!mA (l.getD j 0))) l.length (bU l):=cf _ _;have hz:cF (fun j=>((l.drop (bU l)).getD j 0 != 0)) (l.drop (bU l)).length (lU l (bU l)):=cf _ _;generalize bU l=n at *;generalize lU l n=z at *;have wI:n<=8:=by have:=hf.1;omega
   have hbt:bj (l.take n):=fun x hx=>hb x (List.mem_of_mem_take hx)
   have tE:gQ (strOf (l.take n))=l.take n:=iK _ hbt;have cL:(strOf (l.take n)).size=n:=by rw [<- gX,tE,zLt];omega
   refine⟨hl,⟨by rw [cL];omega,by rw [cL];exact wI,?_⟩,?_⟩
   ·rw [cL];refine⟨zNr,fun j hj=>?_,fun h=>absurd h (Nat.lt_irrefl _)⟩;have:=hf.2.1 j hj;dsimp only at this ⊢;rw [tE];rw [show(l.take n).getD j 0=l.getD j 0 by simp [List.getD,hj]];exact this
   ·have K5:(l.drop n).length=8-n:=by rw [zLd];omega
    have hz8:z=8-n:=by have:=hz.1;omega
    apply bQ
    ·rw [bD _ (by rw [cL];exact wI),hl]
    ·intro j hj;by_cases Nh:j<n
     ·rw [Ad _ j (by rw [cL];exact Nh),tE];simp [List.getD,Nh]
     ·rw [Ae _ j (by rw [cL];omega)];rw [bD _ (by rw [cL];exact wI)] at hj;have:=hz.2.1 (j-n) (by omega);simp [List.getD] at this;rw [show n+(j-n)=j by omega] at this;simpa [List.getD] using this.symm
 ·rw [if_pos hl] at h0;exact absurd h0 (by decide)
def MV(b l:List Int)(i:Nat):Bool:=decide ((rowAt b i).take 8=l)
def plL(b l:List Int):Nat:=tr (MV b l) 8
theorem vT(b l:List Int):cF (MV b l) 8 (plL b l):=cf _ _
theorem WJ{b:List Int}{s:ByteArray}(hb:bj b)(hn:du s=true)(i:Nat):MV b (bf s) i=Av b s i:=by
 have hbt:bj ((rowAt b i).take 8):=fun x hx=>hb x (by have h1:=List.mem_of_mem_take hx;unfold rowAt at h1;exact List.mem_of_mem_drop (List.mem_of_mem_take h1))
 rw [Bool.eq_iff_iff];unfold MV Av;rw [decide_eq_true_iff,Bool.and_eq_true,decide_eq_true_iff,decide_eq_true_iff];constructor
 ·intro h;rw [h,ub (bZ.1 hn)];exact⟨rfl,rfl⟩
 ·rintro ⟨h1,h2⟩;have:=(iM hbt h1).2.2;rw [h2] at this;exact this.symm
theorem qB{b:List Int}{s:ByteArray}(hb:bj b)(hn:du s=true):plL b (bf s)=ij b s:=by unfold plL ij;rw [show MV b (bf s)=Av b s from funext (WJ hb hn)]
theorem Jo{b:List Int}(hf:aB b){i:Nat}(hi:i<8):MV b (ag 8) i=!isRoot (rowAt b i):=by
 have hl:=hf.len;unfold MV;cases hr:isRoot (rowAt b i) with
 | false =>rw [CW hr (aS (by omega))];decide
 | true =>have:=(fu.1 ((eB.1 (bV.1 hf.ok).2).1 i hi hr)).1;rw [decide_eq_false_iff_not.2 (fun e=>by rw [e] at this;exact absurd this (by decide))];rfl
theorem VA{b:List Int}(hf:aB b):plL b (ag 8)=AX b:=by
 have h:=oB b;refine(vT b _).unique ⟨h.1,fun j hj=>?_,fun hj=>?_⟩
 ·rw [Jo hf (by have:=h.1;omega)];exact h.2.1 j hj
 ·rw [Jo hf hj];exact h.2.2 hj
def seO(b:List Int)(s:ByteArray)(h:Int):Bool:=decide (oV b s h=0) && O1 b s
def KX(b:List Int)(s:ByteArray)(h:Int):List Int:=if oV b s h=0 then oO b s h else b
def Uj(b:List Int)(s:ByteArray):List Int:=if B1 b s=0 then Lr b s else b
theorem Aq{b:List Int}(hf:aB b)(s:ByteArray):aU (ak b 8) s=0\/(1<=aU (ak b 8) s/\aU (ak b 8) s<=40/\aP b (aU (ak b 8) s)=0):=by
 have hp:=gF b s;rw [FX hf];by_cases h:ij b s<8
 ·rw [if_pos h];obtain⟨h1,h2,h3⟩:=mg hf h ((fP hf h).1 (hp.2.2 h)).1;exact .inr ⟨h1,h2,aJ.2 ⟨hf.cW,aF.2 ⟨h1,h2⟩,h3⟩⟩
 ·exact .inl (if_neg h)
theorem zdq{b:List Int}(hf:aB b){i:Nat}(hi:i<8):BI b i (({ data:=#[]}:ByteArray),0)=0/\je b i (({ data:=#[]}:ByteArray),0)=splice b (200+11 * i) (ag 11):=by
 have hr:eF (({ data:=#[]}:ByteArray),0)=0:=by decide
 have hp:BI b i (({ data:=#[]}:ByteArray),0)=0:=gB.2 ⟨hf.cW,by omega,by omega,hr⟩;refine⟨hp,?_⟩;unfold je;rw [if_pos hp,zTn];rfl
theorem Vd{b:List Int}(hf:aB b){s:ByteArray}{h:Int}(h0:oV b s h=0):je b (nO b s) (s,h)=oO b s h/\aB (je b (nO b s) (s,h)):=⟨rfl,(mP hf h0).1⟩
section
variable {L:List Int}
theorem G9(hf:aB L)(h x:Int)(l:List Int):aB (tB L h x l)/\(tB L h x l).length=L.length:=by
 unfold tB;by_cases h0:vz L h x l.length=0
 ·rw [if_pos h0];obtain⟨c0,x0,_,x2⟩:=l5.1 h0;have hh:=aF.1 (aJ.1 c0).2.1;obtain⟨X,rfl⟩:=Int.eq_ofNat_of_zero_le x0;rw [zTn];obtain⟨q1,q2,_⟩:=sQ hf hh.1 hh.2 (aJ.1 c0).2.2 (p:=X) (r:=l) x2;exact⟨q1,q2⟩
 ·rw [if_neg h0];exact⟨hf,rfl⟩
theorem Ty(hf:aB L){h:Int}(hc:aP L h=0):(cN L h).length=L.length:=by have hh:=aF.1 (aJ.1 hc).2.1;have hp:=cH hh.1 hh.2;have hl:=hf.len;unfold cN;rw [if_pos hc,length_splice (by rw [aj];omega)]
theorem J0(hf:aB L)(h:Int):aB (J1 L h)/\(J1 L h).length=L.length:=by
 unfold J1;by_cases h0:Eg L h=0
 ·rw [if_pos h0];exact⟨P8 hf h0,Ty hf (uU.1 h0).1⟩
 ·rw [if_neg h0];exact⟨hf,rfl⟩
theorem Zd(hf:aB L)(n t:Int):(kR L n t).length=L.length:=by
 by_cases h0:sK L n t=0
 ·obtain⟨x,N,hk⟩:=yu hf h0;exact(hk.keep hf h0).2.1
 ·unfold kR;rw [if_neg h0]
theorem Ik(hf:aB L)(s:ByteArray)(x:Int):aB (KX L s x)/\(KX L s x).length=L.length:=by
 unfold KX;by_cases h0:oV L s x=0
 ·rw [if_pos h0];exact⟨(mP hf h0).1,(qv hf h0).len⟩
 ·rw [if_neg h0];exact⟨hf,rfl⟩
theorem Hm(hf:aB L)(s:ByteArray):aB (Uj L s)/\(Uj L s).length=L.length:=by
 unfold Uj;by_cases h0:B1 L s=0
 ·rw [if_pos h0];exact⟨yW hf h0,(zr hf h0).len⟩
 ·rw [if_neg h0];exact⟨hf,rfl⟩
def swT(L:List Int):List Int:=BH L (jO L 40)
theorem Ht(hf:aB L):aB (swT L)/\(swT L).length=L.length:=⟨(qt hf).aV,(qt hf).len⟩
end
def tL(e:(Int×Int×Int×Int)):Int×Int:=(e.2.1,e.2.2.1)
def kW(L:List Int):List (Int×Int):=(0,288) :: (entsK L 40).map tL
section
variable {L:List Int}
theorem tS(L:List Int):(kW L).length<=41:=by unfold kW;have:=b8 L 40;rw [zLc,zLm];omega
theorem UW(hf:aB L):Good (L.length:Int) (kW L)/\kB (kW L)=(0,288) :: (dh L).map tL:=by
 have hl:=hf.len;have hg:Good (L.length:Int) (kW L):=by
  unfold kW;refine⟨fun e he=>?_,List.pairwise_cons.2 ⟨fun x hx=>?_,List.pairwise_map.2 ?_⟩⟩
  ·rcases zMc he with rfl | he
   ·dsimp only;omega
   ·obtain⟨x,hx,rfl⟩:=List.mem_map.1 he;have:=cR hf hx;unfold tL;dsimp only;omega
  ·obtain⟨y,hy,rfl⟩:=List.mem_map.1 hx;have:=cR hf hy;rw [ko];unfold tL;dsimp only;omega
  ·have h1:(entsK L 40).Pairwise (fun x y=>x.1<y.1):=List.pairwise_map.1 (mx (L:=L) 40).1;refine h1.imp_of_mem (fun {x y} hx hy h=>?_);rw [ko];have:=my hf hx hy (by omega);unfold gi at this;unfold tL;dsimp only;omega
 refine⟨hg,(hg.LF (List.Perm.cons _ ((iV (L:=L)).map tL)) (List.pairwise_cons.2 ⟨fun x hx=>?_,List.pairwise_map.2 ((eT hf).imp_of_mem (fun {x y} hx hy h=>?_))⟩)).symm⟩
 ·obtain⟨y,hy,rfl⟩:=List.mem_map.1 hx;have:=cR hf (fi.1 hy);unfold tL;dsimp only;omega
 ·have:=cR hf (fi.1 hx);unfold gi at h;unfold tL;dsimp only;omega
theorem EZ(hf:aB L):r7 (L.length:Int) (kW L)=0:=by have hl:=hf.len;exact kQ.2 ⟨by omega,by omega,by have:=tS L;omega,(UW hf).1⟩
theorem EY(hf:aB L):dS (L.length:Int) (kW L)=runsOf 288 ((dh L).map tL++[((L.length:Int),0)]):=by
 unfold dS de;rw [if_pos (EZ hf),(UW hf).2]
 show(if (0:Int)<0 then _ else [])++runsOf (0+288) _=_
 rw [if_neg (by omega),List.nil_append,Int.zero_add];rfl
theorem Fp:∀ (l:List (Int×Int×Int×Int)) (a n:Int),l.Pairwise gi->(∀ x∈l,a<=x.2.1)->(∀ x∈l,1<=x.2.2.1) ->(∀ e p,mvOn a l=some (e,p)->∃ r,runsOf a (l.map tL++[(n,0)])=(p,e.2.1-p) :: r)/\(mvOn a l=none->runsOf a (l.map tL++[(n,0)])=if a+dr l<n then [(a+dr l,n-(a+dr l))] else [])
 | [],a,n,_,_,_=>by
  refine⟨fun e p h=>(by cases h),fun _=>?_⟩
  show(if a<n then [(a,n-a)] else [])++[]=if a+0<n then [(a+0,n-(a+0))] else []
  rw [Int.add_zero,List.append_nil]
 | e :: r,a,n,hp,ha,hl=>by
  rw [List.pairwise_cons] at hp;have he:=ha e (by simp);obtain⟨i1,i2⟩:=Fp r (a+e.2.2.1) n hp.2 (fun x hx=>by have:=hp.1 x hx;unfold gi at this;omega) (fun x hx=>hl x (by simp [hx]));rw [List.map_cons,List.cons_append];unfold runsOf;by_cases aM:a<e.2.1
  ·refine⟨fun x p h=>?_,fun h=>?_⟩
   ·unfold mvOn at h;rw [if_pos aM] at h;obtain⟨rfl,rfl⟩:e=x/\a=p:=by simpa using h
    rw [if_pos (show a<(tL e).1 from aM)];exact⟨_,rfl⟩
   ·unfold mvOn at h;rw [if_pos aM] at h;cases h
  ·have e1:(tL e).1+(tL e).2=a+e.2.2.1:=by unfold tL;dsimp only;omega
   rw [if_neg (show ¬ a<(tL e).1 from aM),e1,List.nil_append];refine⟨fun x p h=>?_,fun h=>?_⟩
   ·unfold mvOn at h;rw [if_neg aM] at h;exact i1 x p h
   ·unfold mvOn at h;rw [if_neg aM] at h;rw [i2 h];have e2:a+e.2.2.1+dr r=a+dr (e :: r):=by show a+e.2.2.1+dr r=a+(e.2.2.1+dr r);omega
    rw [e2]
theorem zba(hf:aB L)(h:pX L=none):dS (L.length:Int) (kW L)=[]\/∃ x,dS (L.length:Int) (kW L)=[x]/\∀ e∈entsK L 40,e.2.1≠x.1+x.2:=by
 unfold pX at h;cases hq:mvOn 288 (dh L) with
 | some x=>rw [hq] at h;cases h
 | none =>
  have:=(Fp (dh L) 288 (L.length:Int) (eT hf) (ie hf).1 (ie hf).2).2 hq;rw [EY hf,this];by_cases hs:288+dr (dh L)<(L.length:Int)
  ·rw [if_pos hs];refine .inr ⟨_,rfl,fun e he=>?_⟩;have:=cR hf he;dsimp only;omega
  ·rw [if_neg hs];exact .inl rfl
theorem za9(hf:aB L){c:List Int}(h:pX L=some c):∃ (x:Int×Int) (r:List (Int×Int)) (i:Nat) (e:(Int×Int×Int×Int)),dS (L.length:Int) (kW L)=x :: r/\(entsK L 40)[i]?=some e/\e.2.1=x.1+x.2/\(∀ j y,j<i->(entsK L 40)[j]?=some y->y.2.1≠x.1+x.2)/\c=tf L e.1 x.1.toNat/\288<=x.1/\1<=x.2:=by
 unfold pX at h;cases hq:mvOn 288 (dh L) with
 | none=>rw [hq] at h;cases h
 | some y =>
  obtain⟨e,p⟩:=y;rw [hq] at h;obtain rfl:tf L e.1 p.toNat=c:=by simpa using h
  obtain⟨_,hp,aM,he⟩:=oU hf hq;obtain⟨r,hr⟩:=(Fp (dh L) 288 (L.length:Int) (eT hf) (ie hf).1 (ie hf).2).1 e p hq;obtain⟨i,hi,hie⟩:=List.getElem_of_mem he;refine⟨(p,e.2.1-p),r,i,e,by rw [EY hf,hr],by rw [zLg hi,hie],by dsimp only;omega,fun j y hj hy wO=>?_,rfl,hp,by dsimp only;omega⟩;have xU:=List.mem_of_getElem? hy;have e0:y.2.1=e.2.1:=by rw [wO];dsimp only;omega
  have hye:y=e:=by
   by_cases aO:y.1=e.1
   ·exact A6 xU he aO
   ·have h1:=my hf xU he aO;have h2:=cR hf xU;have h3:=cR hf he;unfold gi at h1;omega
  have sC:=List.pairwise_iff_getElem.1 (List.pairwise_map.1 (mx (L:=L) 40).1) j i (by omega) hi hj;obtain⟨Ch,hj3⟩:=zLs hy;rw [hj3,hye,hie] at sC;omega
theorem We(n:Nat):∀ {L:List Int},aB L->wg 288 (dh L)<=n->mvF (n+1) L=mvF n L:=by
 induction n with
 | zero =>
  intro L hf h;cases hq:pX L with
  | none=>rw [l9 hq];rfl
  | some c =>have h2:=(lA hf hq).2;rw [h2] at h;exact absurd h (Nat.not_succ_le_zero _)
 | succ n ih =>
  intro L hf h;cases hq:pX L with
  | none=>rw [l9 hq,l9 hq]
  | some c =>obtain⟨a,hn⟩:=lA hf hq;rw [hn] at h;rw [nR hq,nR hq,ih a.aV (Nat.le_of_succ_le_succ h)]
theorem Wi(h:pX L=none):Dp L=L:=l9 h
theorem Wh(hf:aB L){c:List Int}(h:pX L=some c):Dp L=Dp c:=by obtain⟨a,hn⟩:=lA hf h;have h40:=we (L:=L);rw [hn] at h40;have e1:Dp L=mvF 39 c:=nR h;have e2:Dp c=mvF 39 c:=We 39 a.aV (Nat.le_of_succ_le_succ h40);rw [e1,e2]
end
section
variable {L:List Int} {n t:Int}
theorem vo(hf:aB L){p:Int}(nG:eZ L<40)(n1:1<=n)(n2:n<=1000)(t1:0<=t)(t2:t<=15)(p1:0<=p)(p2:p+n<=(L.length:Int)-288)(gI:∀ e∈cU L,e.1+e.2<=p\/p+n<=e.1):sK L n t=0:=by have hl:=hf.len;unfold sK;rw [if_neg (by omega),if_neg (by omega),Ek hf n1 (by omega),if_neg (Ej (Hs hf) (fh hf) (by omega) p1 n1 p2 gI)]
theorem Gw(hf:aB L)(h0:sK L n t=0){j:Nat}(hj:j<8):rowAt (kR L n t) j=rowAt L j:=by
 obtain⟨x,N,hk⟩:=yu hf h0;have hl:=hf.len;have nG:=hk.low;obtain⟨_,k2,_⟩:=hk.keep hf h0;have hz:=aj N;have tE:(splice L x (ag N)).length=L.length:=length_splice (by rw [hz];exact hk.x2);have hp:di (splice L x (ag N)) ((eZ L:Int)+1,(x:Int),(N:Int),t)=0 :=bS.2 ⟨by rw [tE];exact hf.cW,aF.2 ⟨by show 1<=(eZ L:Int)+1;omega,by show(eZ L:Int)+1<=40;omega⟩,hk.t1,hk.t2,by have:=hk.n1;show 1<=(N:Int);omega,by have:=hk.n2;show(N:Int)<=1000;omega,by have:=hk.x1;show 288<=(x:Int);omega,by rw [tE];have:=hk.x2;show(x:Int)+N<=_;omega⟩;apply bQ
 ·rw [aS (by omega),aS (by omega)]
 ·intro q hq;rw [aS (by omega)] at hq;rw [bH hq,bH hq,(hk.fK h0).1];exact KF hf hp (by omega) (by omega) hk.x1 hk.x2 _ (by omega) (by omega)
end
section
variable {L:List Int} {N n:Nat} {t:Int}
theorem Nv(h1:288+n<=N)(h2:N<=6400)(n1:1<=n)(n2:n<=1000)(t1:0<=t)(t2:t<=15) :
  sK (ag N) n t=0/\Oj (ag N) n t=1/\aB (kR (ag N) n t)/\(kR (ag N) n t).length=N/\aP (kR (ag N) n t) 1=0/\aD (kR (ag N) n t) 1=(t,ag n)/\(ai (kR (ag N) n t) 1).2.2.1=n /\
  (∀ h:Int,1<=h->h<=40->h≠1->aq (kR (ag N) n t) h=0)/\∀ j,j<8->isRoot (rowAt (kR (ag N) n t) j)=false:=by
 obtain⟨z1,z2,z3⟩:=dV (n:=N) (by omega) h2;have tj:=aj N;have nG:eZ (ag N)=0:=(gU _).unique ⟨Nat.zero_le _,fun j hj=>absurd hj (Nat.not_lt_zero j),fun _=>decide_eq_true (z2 _)⟩;have h0:sK (ag N) n t=0:=vo (p:=0) z1 (by omega) (by omega) (by omega) t1 t2 (by decide) (by rw [tj];omega) (fun e he=>by obtain⟨h,_,_,ht,_⟩:=jZ.1 he;exact absurd (z2 h) ht);obtain⟨x,M,hk⟩:=yu z1 h0;obtain⟨k1,k2,k3,k4,k5,k6⟩:=hk.keep z1 h0;have hM:M=n:=by have:=hk.eqn;omega
 subst hM;rw [nG] at k3 k4 k5 k6;have k5':aq (kR (ag N) M t) 1≠0:=k5;have k4':ai (kR (ag N) M t) 1=(1,(x:Int),(M:Int),t):=k4;refine⟨h0,by unfold Oj;rw [if_pos h0,nG];rfl,k1,k2.trans tj,aJ.2 ⟨k1.cW,by decide,k5'⟩,k3,by rw [k4'],fun h a b c=>?_,fun j hj=>?_⟩
 ·rw [(k6 h a b (by simpa using c)).2.1];exact z2 h
 ·rw [Gw z1 h0 hj];exact z3 j hj
theorem yr(hf:aB L){h:Int}(hc:aP L h=0){r:List Int}(hr:(r.length:Int)=(ai L h).2.2.1) :
  vz L h 0 r.length=0/\aB (tB L h 0 r)/\(tB L h 0 r).length=L.length/\aD (tB L h 0 r) h=((aD L h).1,r)/\aP (tB L h 0 r) h=0/\(ai (tB L h 0 r) h)=ai L h/\L7 (tB L h 0 r) h 0 r.length=r /\
  (∀ k,1<=k->k<=40->k≠h->aD (tB L h 0 r) k=aD L k):=by
 obtain⟨q1,q2,q3⟩:=aJ.1 hc;have hh:=aF.1 q2;have h0:vz L h 0 r.length=0:=l5.2 ⟨hc,Int.le_refl _,by omega,by omega⟩;have hw:tB L h 0 r=splice L ((ai L h).2.1.toNat+0) r:=by unfold tB;rw [if_pos h0];rfl
 obtain⟨w1,w2,w3,w4,w5⟩:=sQ hf hh.1 hh.2 q3 (p:=0) (r:=r) (by omega);rw [<- hw] at w1 w2 w3 w4 w5;obtain⟨e1,e2⟩:=w4 h hh.1 hh.2;have nH:aP (tB L h 0 r) h=0:=aJ.2 ⟨w1.cW,q2,by rw [e1];exact q3⟩;have hp:cP (tB L h 0 r) (ai L h).2.1 (ai L h).2.2.1=r:=by rw [show(ai L h).2.1+((0:Nat):Int)=(ai L h).2.1 by omega] at w5;rw [<- hr];exact w5
 have K9:vz (tB L h 0 r) h 0 r.length=0:=l5.2 ⟨nH,Int.le_refl _,by omega,by rw [e2];omega⟩;refine⟨h0,w1,w2,?_,nH,e2,?_,w3⟩
 ·unfold aD;rw [e1,if_neg q3,if_neg q3,e2];unfold gu;rw [hp]
 ·unfold L7;rw [if_pos K9,e2];unfold cP at hp;rw [show(0:Int).toNat=0 from rfl,Nat.add_zero,zTn];rw [<- hr,zTn] at hp;exact hp
end
end
end Go.Proofs.YtcimhnnendlblaaGreat
