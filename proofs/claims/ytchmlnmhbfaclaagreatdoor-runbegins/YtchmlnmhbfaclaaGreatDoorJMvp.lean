/-
  Parts of the proofs, joined by program.
-/
import Derived.Test.YtchmlnmhbfaclaaGreatDoorJRtp
import Derived.Test.YtchmlnmhbfaclaaGreatDoorJExf
namespace Go.Proofs.YtchmlnmhbfaclaaGreatDoor
open Go.RowKit
set_option linter.unusedVariables false
section
variable {b:List Int}
theorem zuB(hf:Fine b){e:(Int×Int×Int×Int)}(he:Za b e=0)(hno:∀ k,1<=k->k<=40->k≠e.1->zg b k≠0->ziT e (ze b k)=false) :
  Fine (putL b e)/\(∀ k,1<=k->k<=40->k≠e.1->zg (putL b e) k=zg b k/\ze (putL b e) k=ze b k)/\zg (putL b e) e.1≠0/\ze (putL b e) e.1=e/\(putL b e).length=b.length/\(∀ j,200<=j->(putL b e).getD j 0=b.getD j 0):=by
 have hb:=hf.len
 have hlen:=zcv he
 obtain⟨_,hh,_⟩:=qe.1 he
 have hh':=zm.1 hh
 have hp:=qx hh'.1 hh'.2
 have hr5:(zax e).length=5:=rfl
 have hL:putL b e=splice b (plc e.1) (zax e):=by unfold putL;rw [if_pos he]
 obtain⟨hg1,hg2⟩:=zhQ he
 have hself:zg (putL b e) e.1≠0:=(zq.1 hg1).2.2
 have hother:∀ k,1<=k->k<=40->k≠e.1->zg (putL b e) k=zg b k/\ze (putL b e) k=ze b k:=fun k k1 k2 hk=>by
  rw [hL]
  exact za1 hr5 hb.1 hh'.1 hh'.2 k1 k2 hk
 have htail:∀ j,200<=j->(putL b e).getD j 0=b.getD j 0:=fun j hj=>by
  rw [hL,zw (by rw [hr5];omega) (by rw [hr5];omega)]
 have hrow:∀ i,i<8->rowAt (putL b e) i=rowAt b i:=fun i hi=>by
  apply zJ
  ·rw [zu (by omega),zu (by omega)]
  ·intro j hj
   rw [zu (by omega)] at hj
   rw [zF hj,zF hj]
   exact htail _ (by omega)
 refine⟨zis (by rw [hlen];exact hf.len0) (fun h h1 h2 ht=>?_) (fun h k h1 h2 k1 hlt ht kt=>?_) (fun h h1 h2 ht=>?_) (fun hw=>?_),hother,hself,hg2,hlen,htail⟩
 ·by_cases hq:h=e.1
  ·subst hq
   rw [hg2,QZ hlen]
   exact he
  ·obtain⟨e1,e2⟩:=hother h h1 h2 hq
   rw [e1] at ht
   rw [e2,QZ hlen]
   exact(hf.hand h1 h2 ht).2
 ·by_cases hq:h=e.1
  ·subst hq
   obtain⟨e1,e2⟩:=hother k k1 (by omega) (by omega)
   rw [e1] at kt
   rw [hg2,e2]
   exact hno k k1 (by omega) (by omega) kt
  ·obtain⟨e1,e2⟩:=hother h h1 h2 hq
   rw [e1] at ht
   by_cases hq2:k=e.1
   ·subst hq2
    rw [e2,hg2,zfV]
    exact hno h h1 h2 hq ht
   ·obtain⟨e3,e4⟩:=hother k k1 (by omega) hq2
    rw [e3] at kt
    rw [e2,e4]
    exact hf.apart h1 h2 k1 (by omega) (by omega) ht kt
 ·by_cases hq:h=e.1
  ·subst hq;exact absurd ht hself
  ·obtain⟨e1,e2⟩:=hother h h1 h2 hq
   rw [e1] at ht
   rw [e2]
   rcases qD.1 ((zX.1 hf.ok).1 h h1 h2) with hw | hw
   ·exact absurd ht (zav.1 hw).1
   ·exact hw.2
 ·refine(zcs hrow (fun i hi hq _ hw1=>?_) (zX.1 hf.ok).2 8 (by omega)).2
  have hx:=zm.1 hq
  have ht:=(zav.1 hw1).1
  refine hw _ hx.1 hx.2 ?_
  by_cases hq2:(rowAt b i).getD 10 0=e.1
  ·rw [hq2];exact hself
  ·rw [(hother _ hx.1 hx.2 hq2).1]
   exact ht
def mvB(b:List Int)(h:Int)(at':Nat):List Int:=splice (putL b (h,(at':Int),(ze b h).2.2.1,(ze b h).2.2.2)) at' (zP b h).2
structure Mvd (b c:List Int) (h:Int) (at':Nat):Prop where
 fine:Fine c
 len:c.length=b.length
 ent:ze c h=(h,(at':Int),(ze b h).2.2.1,(ze b h).2.2.2)
 tag:zg c h≠0
 other:∀ k,1<=k->k<=40->k≠h->zg c k=zg b k/\ze c k=ze b k
 objs:∀ k,1<=k->k<=40->zP c k=zP b k
 roots:zk c 8=zk b 8
theorem zen{h:Int}:(ze b h).1=h:=rfl
theorem moved(hf:Fine b){h:Int}(h1:1<=h)(h2:h<=40)(ht:zg b h≠0){at':Nat}(ha:288<=at')(hle:(at':Int)<=(ze b h).2.1)
  (hno:∀ k,1<=k->k<=40->k≠h->zg b k≠0->(ze b k).2.1+(ze b k).2.2.1<=at'\/(at':Int)+(ze b h).2.2.1<=(ze b k).2.1):Mvd b (mvB b h at') h at':=by
 have hen:=hf.ent h1 h2 ht
 have he:Za b (h,(at':Int),(ze b h).2.2.1,(ze b h).2.2.2)=0:=qe.2 ⟨hf.len0,zm.2 ⟨h1,h2⟩,hen.2.2.2.2.1,hen.2.2.2.2.2,hen.2.1,hen.2.2.1,by dsimp only;omega,by dsimp only;omega⟩
 obtain⟨pf,po,pt,pe,pl,ptl⟩:=zuB hf he (fun k k1 k2 hk hkt=>by
  rw [zig]
  exact hno k k1 k2 hk hkt)
 dsimp only at po pt pe
 have hob:(zP b h).2=zbx b (ze b h).2.1 (ze b h).2.2.1:=by
  unfold zP zhY
  rw [if_neg ht]
 have hol:(zP b h).2.length=(ze b h).2.2.1.toNat:=by
  rw [hob]
  unfold zbx
  rw [List.length_take,List.length_drop]
  omega
 have hfit:at'+(zP b h).2.length<=(putL b (h,(at':Int),(ze b h).2.2.1,(ze b h).2.2.2)).length:=by rw [pl,hol];omega
 obtain⟨lf,ll,le,lo⟩:=zie pf ha hfit
 have hrows:∀ i,i<8->rowAt (mvB b h at') i=rowAt b i:=fun i hi=>by
  have hl:=hf.len
  have hl2:(mvB b h at').length=b.length:=ll.trans pl
  apply zJ
  ·rw [zu (by omega),zu (by omega)]
  ·intro j hj
   rw [zu (by omega)] at hj
   rw [zF hj,zF hj]
   unfold mvB
   rw [zw hfit (.inl (by omega))]
   exact ptl _ (by omega)
 refine⟨lf,ll.trans pl,(le h h1 h2).2.trans pe,by unfold mvB;rw [(le h h1 h2).1];exact pt,fun k k1 k2 hk=>?_,fun k k1 k2=>?_,zbr 8 hrows⟩
 ·exact⟨(le k k1 k2).1.trans (po k k1 k2 hk).1,(le k k1 k2).2.trans (po k k1 k2 hk).2⟩
 ·by_cases hk:k=h
  ·subst hk
   have e1:zg (mvB b k at') k≠0:=by unfold mvB;rw [(le k h1 h2).1];exact pt
   have e2:ze (mvB b k at') k=(k,(at':Int),(ze b k).2.2.1,(ze b k).2.2.2):=(le k h1 h2).2.trans pe
   have e3:zP (mvB b k at') k=((ze b k).2.2.2,zbx (mvB b k at') (at':Int) (ze b k).2.2.1):=by
    unfold zP zhY
    rw [if_neg e1,e2]
   have e4:zP b k=((ze b k).2.2.2,(zP b k).2):=by
    unfold zP zhY
    rw [if_neg ht]
   rw [e3,e4]
   congr 1
   unfold zbx mvB
   apply zJ
   ·rw [List.length_take,List.length_drop,length_splice hfit,pl,hol]
    omega
   ·intro j hj
    rw [List.length_take,List.length_drop,length_splice hfit,pl] at hj
    rw [Int.toNat_natCast]
    have hjl:j<(zP b k).2.length:=by omega
    have e5:=qi hfit hjl
    simp only [List.getD,List.getElem?_take,if_pos (show j<(ze b k).2.2.1.toNat by omega),List.getElem?_drop] at e5 ⊢
    exact e5
  ·have e1:=lo k k1 k2 (fun hkt=>by
    rw [(po k k1 k2 hk).1] at hkt
    rw [(po k k1 k2 hk).2,hol]
    have:=hno k k1 k2 hk hkt
    have hl1:=hen.2.1
    omega)
   rw [show zP (mvB b h at') k=zP (putL b (h,(at':Int),(ze b h).2.2.1,(ze b h).2.2.2)) k from e1]
   refine zcx pl (po k k1 k2 hk).1 (po k k1 k2 hk).2 (fun hkt j hj _=>ptl j ?_)
   have:=(hf.ent k1 k2 hkt).1
   omega
theorem zry(hb:Byt b)(h:Int)(at':Nat):Byt (mvB b h at'):=by
 unfold mvB
 refine qv ?_ ?_
 ·unfold putL
  split
  ·exact qv hb (znO _)
  ·exact fun z hz=>(by cases hz)
 ·unfold zP zhY zbx
  split
  ·exact fun z hz=>(by cases hz)
  ·exact fun z hz=>hb z (List.mem_of_mem_drop (List.mem_of_mem_take hz))
end
def ziU(x y:(Int×Int×Int×Int)):Bool:=decide (x.2.1<=y.2.1)
def Ql(L:List Int):List (Int×Int×Int×Int):=(zo L 40).mergeSort ziU
def ZI(x y:(Int×Int×Int×Int)):Prop:=x.2.1+x.2.2.1<=y.2.1
theorem zho:∀ a b c:(Int×Int×Int×Int),ziU a b=true->ziU b c=true->ziU a c=true:=fun a b c h1 h2=>by
 unfold ziU at *
 rw [decide_eq_true_iff] at *
 omega
theorem zhp:∀ a b:(Int×Int×Int×Int),(ziU a b || ziU b a)=true:=fun a b=>by
 unfold ziU
 rw [Bool.or_eq_true,decide_eq_true_iff,decide_eq_true_iff]
 omega
section
variable {L:List Int}
theorem zcG:∀ k:Nat,((zo L k).map (·.1)).Pairwise (·<·)/\∀ x∈zo L k,1<=x.1/\x.1<=k
 | 0=>⟨List.Pairwise.nil,fun x hx=>by cases hx⟩
 | k+1=>by
  obtain⟨h1,h2⟩:=zcG k
  show((zo L k++_).map (·.1)).Pairwise (·<·)/\∀ x∈zo L k++_,_
  by_cases ht:zg L ((k:Int)+1)=0
  ·rw [if_pos ht,List.append_nil]
   exact⟨h1,fun x hx=>by have:=h2 x hx;omega⟩
  ·rw [if_neg ht]
   refine⟨?_,fun x hx=>?_⟩
   ·rw [List.map_append]
    refine List.pairwise_append.2 ⟨h1,by simp,fun a ha b hb=>?_⟩
    obtain⟨x,hx,rfl⟩:=List.mem_map.1 ha
    have:=h2 x hx
    have hb':b=(k:Int)+1:=by simpa [zen] using hb
    omega
   ·rcases List.mem_append.1 hx with hx | hx
    ·have:=h2 x hx;omega
    ·rw [List.mem_singleton.1 hx]
     show 1<=(k:Int)+1/\(k:Int)+1<=((k+1:Nat):Int)
     omega
theorem Qi(hf:Fine L){x:(Int×Int×Int×Int)}(hx:x∈zo L 40):x=ze L x.1/\1<=x.1/\x.1<=40/\zg L x.1≠0/\288<=x.2.1/\1<=x.2.2.1/\x.2.2.1<=1000/\x.2.1+x.2.2.1<=L.length:=by
 obtain⟨j,hj,ht,rfl⟩:=Ze.1 hx
 have e:=hf.ent (h:=(j:Int)+1) (by omega) (by omega) ht
 have hh:(ze L ((j:Int)+1)).1=(j:Int)+1:=rfl
 rw [hh]
 exact⟨rfl,by omega,by omega,ht,e.1,e.2.1,e.2.2.1,e.2.2.2.1⟩
theorem zy6{h:Int}(h1:1<=h)(h2:h<=40)(ht:zg L h≠0):ze L h∈zo L 40:=by
 refine Ze.2 ⟨(h-1).toNat,by omega,?_,?_⟩
 ·rw [show(((h-1).toNat:Nat):Int)+1=h by omega];exact ht
 ·rw [show(((h-1).toNat:Nat):Int)+1=h by omega]
theorem zah:(Ql L).Perm (zo L 40):=List.mergeSort_perm _ _
theorem Qf{x:(Int×Int×Int×Int)}:x∈Ql L ↔ x∈zo L 40:=zah.mem_iff
theorem zbd(hf:Fine L){x y:(Int×Int×Int×Int)}(hx:x∈zo L 40)(hy:y∈zo L 40)(hne:x.1≠y.1):ZI x y\/ZI y x:=by
 obtain⟨ex,x1,x2,xt,_⟩:=Qi hf hx
 obtain⟨ey,y1,y2,yt,_⟩:=Qi hf hy
 have:=zig.1 (hf.apart x1 x2 y1 y2 hne xt yt)
 rw [<- ex,<- ey] at this
 unfold ZI
 omega
theorem zit{x y:(Int×Int×Int×Int)}(hx:x∈zo L 40)(hy:y∈zo L 40)(h:x.1=y.1):x=y:=by
 obtain⟨i,_,_,rfl⟩:=Ze.1 hx
 obtain⟨j,_,_,rfl⟩:=Ze.1 hy
 have h':(i:Int)+1=(j:Int)+1:=h
 rw [h']
theorem zgR:((Ql L).map (·.1)).Nodup:=by
 have h1:=(zcG (L:=L) 40).1
 have h2:=(zah (L:=L)).map (fun x=>x.1)
 generalize zo L 40=l at h1 h2
 exact h2.nodup_iff.2 (h1.imp (fun h e=>by omega))
theorem qM(hf:Fine L):(Ql L).Pairwise ZI:=by
 have h1:(Ql L).Pairwise (fun x y=>ziU x y=true):=List.pairwise_mergeSort zho zhp _
 have h2:(Ql L).Pairwise (fun x y=>x.1≠y.1):=List.pairwise_map.1 zgR
 refine(h1.and h2).imp_of_mem (fun {x y} hx hy h=>?_)
 have hx':=Qf.1 hx
 have hy':=Qf.1 hy
 rcases zbd hf hx' hy' h.2 with ha | ha
 ·exact ha
 ·have h3:=h.1
  unfold ziU at h3
  rw [decide_eq_true_iff] at h3
  have:=(Qi hf hy').2.2.2.2.2.1
  unfold ZI at ha ⊢
  omega
end
def zeT(a:Int):List (Int×Int×Int×Int)->Option ((Int×Int×Int×Int)×Int)
 | []=>none
 | e :: r=>if a<e.2.1 then some (e,a) else zeT (a+e.2.2.1) r
def zcM:List (Int×Int×Int×Int)->Int
 | []=>0
 | e :: r=>e.2.2.1+zcM r
def znW(a:Int):List (Int×Int×Int×Int)->Prop
 | []=>True
 | e :: r=>e.2.1=a/\znW (a+e.2.2.1) r
def mvN(a:Int):List (Int×Int×Int×Int)->Nat
 | []=>0
 | e :: r=>(if a<e.2.1 then 1 else 0)+mvN (a+e.2.2.1) r
theorem zjQ:∀ {l:List (Int×Int×Int×Int)} {a:Int},l.Pairwise ZI->(∀ x∈l,a<=x.2.1)->zeT a l=none->znW a l/\mvN a l=0
 | [],a,_,_,_=>⟨trivial,rfl⟩
 | e :: r,a,hp,ha,h=>by
  unfold zeT at h
  by_cases hlt:a<e.2.1
  ·rw [if_pos hlt] at h;cases h
  ·rw [if_neg hlt] at h
   have he:=ha e (by simp)
   rw [List.pairwise_cons] at hp
   obtain⟨h1,h2⟩:=zjQ hp.2 (fun x hx=>by have:=hp.1 x hx;unfold ZI at this;omega) h
   refine⟨⟨by omega,h1⟩,?_⟩
   unfold mvN
   rw [if_neg hlt,h2]
theorem zfK:∀ {l:List (Int×Int×Int×Int)} {a:Int} {e:(Int×Int×Int×Int)} {p:Int},l.Pairwise ZI->(∀ x∈l,a<=x.2.1)->(∀ x∈l,1<=x.2.2.1)->zeT a l=some (e,p) ->
  ∃ l1 l2,l=l1++e :: l2/\a<=p/\p<e.2.1/\(∀ x∈l1,x.2.1+x.2.2.1<=p)/\mvN a l=mvN a (l1++(e.1,p,e.2.2.1,e.2.2.2) :: l2)+1
 | [],a,e,p,_,_,_,h=>by cases h
 | x :: r,a,e,p,hp,ha,hl,h=>by
  unfold zeT at h
  by_cases hlt:a<x.2.1
  ·rw [if_pos hlt] at h
   obtain⟨rfl,rfl⟩:x=e/\a=p:=by simpa using h
   refine⟨[],r,rfl,Int.le_refl _,hlt,fun y hy=>(by cases hy),?_⟩
   simp only [List.nil_append,mvN]
   rw [if_pos hlt,if_neg (by omega)]
   omega
  ·rw [if_neg hlt] at h
   have hx:=ha x (by simp)
   have hlx:=hl x (by simp)
   rw [List.pairwise_cons] at hp
   obtain⟨l1,l2,rfl,q1,q2,q3,q4⟩:=zfK hp.2 (fun y hy=>by have:=hp.1 y hy;unfold ZI at this;omega) (fun y hy=>hl y (by simp [hy])) h
   refine⟨x :: l1,l2,rfl,by omega,q2,fun y hy=>?_,?_⟩
   ·rcases List.mem_cons.1 hy with rfl | hy
    ·omega
    ·exact q3 y hy
   ·simp only [List.cons_append,mvN]
    rw [if_neg hlt,q4]
    omega
def mvS(L:List Int):Option (List Int):=(zeT 288 (Ql L)).map fun x=>mvB L x.1.1 x.2.toNat
section
variable {L:List Int}
theorem QX(hf:Fine L):(∀ x∈Ql L,288<=x.2.1)/\∀ x∈Ql L,1<=x.2.2.1 :=
 ⟨fun x hx=>(Qi hf (Qf.1 hx)).2.2.2.2.1,fun x hx=>(Qi hf (Qf.1 hx)).2.2.2.2.2.1⟩
theorem zd4(hf:Fine L){e:(Int×Int×Int×Int)}{p:Int}(h:zeT 288 (Ql L)=some (e,p)):Mvd L (mvB L e.1 p.toNat) e.1 p.toNat/\288<=p/\p<e.2.1/\e∈zo L 40:=by
 obtain⟨f1,f2⟩:=QX hf
 obtain⟨l1,l2,hl,q1,q2,q3,_⟩:=zfK (qM hf) f1 f2 h
 have he:e∈zo L 40:=Qf.1 (by rw [hl];simp)
 obtain⟨ee,e1,e2,et,_⟩:=Qi hf he
 have ea:(ze L e.1).2.1=e.2.1:=by rw [<- ee]
 have el:(ze L e.1).2.2.1=e.2.2.1:=by rw [<- ee]
 refine⟨moved hf e1 e2 et (by omega) (by rw [ea];omega) (fun k k1 k2 hk hkt=>?_),q1,q2,he⟩
 rw [el]
 have hk':=zy6 k1 k2 hkt
 have hkm:ze L k∈l1++e :: l2:=by rw [<- hl];exact Qf.2 hk'
 have hsa:=qM hf
 rw [hl,List.pairwise_append,List.pairwise_cons] at hsa
 rcases List.mem_append.1 hkm with hm | hm
 ·have:=q3 _ hm
  left
  omega
 ·rcases List.mem_cons.1 hm with hm | hm
  ·exact absurd (congrArg Prod.fst hm) hk
  ·have:=hsa.2.1.1 _ hm
   unfold ZI at this
   right
   omega
theorem Mvd.ents{c:List Int}{h:Int}{p:Nat}(m:Mvd L c h p)(ht:zg L h≠0):∀ k:Nat,k<=40->zo c k=(zo L k).map fun x=>if x.1=h then (h,(p:Int),(ze L h).2.2.1,(ze L h).2.2.2) else x
 | 0,_=>rfl
 | k+1,hk=>by
  show zo c k++_=(zo L k++_).map _
  rw [List.map_append,m.ents ht k (by omega)]
  congr 1
  by_cases e:(k:Int)+1=h
  ·have ht2:=m.tag
   rw [e,if_neg m.tag,if_neg ht,m.ent]
   simp [zen]
  ·obtain⟨o1,o2⟩:=m.other ((k:Int)+1) (by omega) (by omega) e
   rw [o1,o2]
   split
   ·rfl
   ·simp [zen,e]
theorem zyA{l1 l2:List (Int×Int×Int×Int)}{e e':(Int×Int×Int×Int)}(hnd:((l1++e :: l2).map (·.1)).Nodup):(l1++e :: l2).map (fun x=>if x.1=e.1 then e' else x)=l1++e' :: l2:=by
 rw [List.map_append,List.map_cons,List.nodup_append,List.nodup_cons] at hnd
 rw [List.map_append,List.map_cons,if_pos rfl]
 have h1:l1.map (fun x=>if x.1=e.1 then e' else x)=l1:=by
  refine(List.map_congr_left (g:=id) (fun x hx=>?_)).trans (List.map_id _)
  exact if_neg (fun h=>hnd.2.2 x.1 (List.mem_map.2 ⟨x,hx,rfl⟩) e.1 (by simp) h)
 have h2:l2.map (fun x=>if x.1=e.1 then e' else x)=l2:=by
  refine(List.map_congr_left (g:=id) (fun x hx=>?_)).trans (List.map_id _)
  exact if_neg (fun h=>hnd.2.1.1 (by rw [<- h];exact List.mem_map.2 ⟨x,hx,rfl⟩))
 rw [h1,h2]
theorem zkV(hf:Fine L){e:(Int×Int×Int×Int)}{p:Int}(h:zeT 288 (Ql L)=some (e,p)):∃ l1 l2,Ql L=l1++e :: l2/\Ql (mvB L e.1 p.toNat)=l1++(e.1,p,e.2.2.1,e.2.2.2) :: l2/\mvN 288 (Ql L)=mvN 288 (Ql (mvB L e.1 p.toNat))+1:=by
 obtain⟨m,hp,hlt,he⟩:=zd4 hf h
 obtain⟨f1,f2⟩:=QX hf
 obtain⟨l1,l2,hl,q1,q2,q3,q4⟩:=zfK (qM hf) f1 f2 h
 obtain⟨ee,e1,e2,et,_⟩:=Qi hf he
 have hent:=m.ents et 40 (Nat.le_refl _)
 have hE:(e.1,((p.toNat:Nat):Int),(ze L e.1).2.2.1,(ze L e.1).2.2.2)=(e.1,p,e.2.2.1,e.2.2.2):=by
  rw [<- ee,show((p.toNat:Nat):Int)=p by omega]
 rw [hE] at hent
 have hmap:(Ql L).map (fun x=>if x.1=e.1 then (e.1,p,e.2.2.1,e.2.2.2) else x)=l1++(e.1,p,e.2.2.1,e.2.2.2) :: l2:=by
  have hnd:=zgR (L:=L)
  rw [hl] at hnd ⊢
  exact zyA hnd
 have hperm:(l1++(e.1,p,e.2.2.1,e.2.2.2) :: l2).Perm (Ql (mvB L e.1 p.toNat)):=by
  rw [<- hmap]
  refine((zah (L:=L)).map _).trans ?_
  rw [<- hent]
  exact zah.symm
 have hsa:=qM hf
 rw [hl,List.pairwise_append,List.pairwise_cons] at hsa
 have hnew:(l1++(e.1,p,e.2.2.1,e.2.2.2) :: l2).Pairwise (fun x y=>ziU x y=true):=by
  have f2':∀ x∈l1++e :: l2,1<=x.2.2.1:=fun x hx=>f2 x (by rw [hl];exact hx)
  refine List.pairwise_append.2 ⟨hsa.1.imp_of_mem (fun {x y} hx hy ha=>?_),List.pairwise_cons.2 ⟨fun y hy=>?_,hsa.2.1.2.imp_of_mem (fun {x y} hx hy ha=>?_)⟩,fun x hx y hy=>?_⟩
  ·have:=f2' x (by simp [hx])
   unfold ZI at ha
   unfold ziU
   rw [decide_eq_true_iff];omega
  ·have h1:=hsa.2.1.1 y hy
   have:=f2' e (by simp)
   unfold ZI at h1
   unfold ziU
   rw [decide_eq_true_iff]
   dsimp only
   omega
  ·have:=f2' x (by simp [hx])
   unfold ZI at ha
   unfold ziU
   rw [decide_eq_true_iff];omega
  ·have hx2:=f2' x (by simp [hx])
   unfold ziU
   rw [decide_eq_true_iff]
   rcases List.mem_cons.1 hy with rfl | hy
   ·have:=q3 x hx
    dsimp only
    omega
   ·have:=hsa.2.2 x hx y (by simp [hy])
    unfold ZI at this
    omega
 have hold:(Ql (mvB L e.1 p.toNat)).Pairwise (fun x y=>ziU x y=true):=List.pairwise_mergeSort zho zhp _
 have heq:l1++(e.1,p,e.2.2.1,e.2.2.2) :: l2=Ql (mvB L e.1 p.toNat):=by
  refine List.Perm.eq_of_pairwise (le:=fun x y=>ziU x y=true) (fun x y hx hy h1 h2=>?_) hnew hold hperm
  have hx':=Qf.1 (hperm.mem_iff.1 hx)
  have hy':=Qf.1 hy
  by_cases hxy:x.1=y.1
  ·exact zit hx' hy' hxy
  ·unfold ziU at h1 h2
   rw [decide_eq_true_iff] at h1 h2
   have lx:=(Qi m.fine hx').2.2.2.2.2.1
   have ly:=(Qi m.fine hy').2.2.2.2.2.1
   rcases zbd m.fine hx' hy' hxy with ha | ha
   ·unfold ZI at ha;omega
   ·unfold ZI at ha;omega
 exact⟨l1,l2,hl,heq.symm,by rw [q4,<- heq]⟩
theorem zwO:∀ (l:List (Int×Int×Int×Int)) (a:Int),mvN a l<=l.length
 | [],a=>Nat.le_refl _
 | e :: r,a=>by
  unfold mvN
  have:=zwO r (a+e.2.2.1)
  rw [List.length_cons]
  split <;> omega
theorem zb3:mvN 288 (Ql L)<=40:=by
 refine Nat.le_trans (zwO _ _) ?_
 rw [zah.length_eq]
 exact qj L 40
end
section
variable {L:List Int}
structure AsWas (L c:List Int):Prop where
 fine:Fine c
 len:c.length=L.length
 objs:∀ k,1<=k->k<=40->zP c k=zP L k
 tags:∀ k,1<=k->k<=40->(zg c k=0 ↔ zg L k=0)
 roots:zk c 8=zk L 8
 sum:zcM (Ql c)=zcM (Ql L)
 many:(zo c 40).length=(zo L 40).length
theorem AsWas.refl(hf:Fine L):AsWas L L:=⟨hf,rfl,fun _ _ _=>rfl,fun _ _ _=>Iff.rfl,rfl,rfl,rfl⟩
theorem AsWas.trans{a b c:List Int}(p:AsWas a b)(q:AsWas b c):AsWas a c :=
 ⟨q.fine,q.len.trans p.len,fun k h1 h2=>(q.objs k h1 h2).trans (p.objs k h1 h2),fun k h1 h2=>(q.tags k h1 h2).trans (p.tags k h1 h2),q.roots.trans p.roots,q.sum.trans p.sum,q.many.trans p.many⟩
theorem zcS:∀ (l m:List (Int×Int×Int×Int)),zcM (l++m)=zcM l+zcM m
 | [],m=>by simp [zcM]
 | e :: l,m=>by
  show e.2.2.1+zcM (l++m)=e.2.2.1+zcM l+zcM m
  rw [zcS l m]
  omega
theorem zbX(hf:Fine L){c:List Int}(h:mvS L=some c):AsWas L c/\mvN 288 (Ql L)=mvN 288 (Ql c)+1:=by
 unfold mvS at h
 cases hq:zeT 288 (Ql L) with
 | none=>rw [hq] at h;cases h
 | some x =>
  obtain⟨e,p⟩:=x
  rw [hq] at h
  obtain rfl:mvB L e.1 p.toNat=c:=by simpa using h
  obtain⟨m,_,_,he⟩:=zd4 hf hq
  obtain⟨l1,l2,s1,s2,s3⟩:=zkV hf hq
  obtain⟨_,e1,e2,et,_⟩:=Qi hf he
  refine⟨⟨m.fine,m.len,m.objs,fun k k1 k2=>?_,m.roots,?_,?_⟩,s3⟩
  ·by_cases hk:k=e.1
   ·subst hk;exact⟨fun h=>absurd h m.tag,fun h=>absurd h et⟩
   ·rw [(m.other k k1 k2 hk).1]
  ·rw [s1,s2,zcS,zcS]
   rfl
  ·rw [m.ents et 40 (Nat.le_refl _),List.length_map]
def mvF:Nat->List Int->List Int
 | 0,L=>L
 | n+1,L=>match mvS L with
  | none=>L
  | some c=>mvF n c
theorem zuZ(L:List Int):mvF 0 L=L:=rfl
theorem zcy{n:Nat}{L:List Int}(h:mvS L=none):mvF (n+1) L=L:=by simp only [mvF,h]
theorem zdA{n:Nat}{L c:List Int}(h:mvS L=some c):mvF (n+1) L=mvF n c:=by simp only [mvF,h]
theorem zAX(n:Nat):∀ {L:List Int},Fine L->mvN 288 (Ql L)<=n->AsWas L (mvF n L)/\mvS (mvF n L)=none:=by
 induction n with
 | zero =>
  intro L hf h
  rw [zuZ]
  refine⟨AsWas.refl hf,?_⟩
  cases hq:mvS L with
  | none=>rfl
  | some c =>
   have h2:=(zbX hf hq).2
   rw [h2] at h
   exact absurd h (Nat.not_succ_le_zero _)
 | succ n ih =>
  intro L hf h
  cases hq:mvS L with
  | none =>
   rw [zcy hq]
   exact⟨AsWas.refl hf,hq⟩
  | some c =>
   obtain⟨a,hn⟩:=zbX hf hq
   rw [hn] at h
   obtain⟨b,hb⟩:=ih a.fine (Nat.le_of_succ_le_succ h)
   rw [zdA hq]
   exact⟨a.trans b,hb⟩
def mvA(L:List Int):List Int:=mvF 40 L
theorem zg6(hf:Fine L):AsWas L (mvA L)/\mvS (mvA L)=none:=zAX 40 hf zb3
theorem zm8(hf:Fine L)(h:mvS L=none):znW 288 (Ql L)/\mvN 288 (Ql L)=0:=by
 unfold mvS at h
 cases hq:zeT 288 (Ql L) with
 | none=>exact zjQ (qM hf) (QX hf).1 hq
 | some x=>rw [hq] at h;cases h
theorem zhI(hf:Fine L):srtL (zn L)=(Ql L).map shE:=by
 refine((QC hf).srt_eq ((zah (L:=L)).map shE) (List.pairwise_map.2 ((qM hf).imp_of_mem (fun {x y} hx hy h=>?_)))).symm
 have:=(Qi hf (Qf.1 hx)).2.2.2.2.2.1
 unfold ZI at h
 unfold shE
 dsimp only
 omega
theorem zj0:∀ l:List (Int×Int×Int×Int),zv (l.map shE)=zcM l
 | []=>rfl
 | e :: r=>by
  rw [List.map_cons,QJ,zj0 r]
  rfl
theorem zcq(hf:Fine L):zv (zn L)=zcM (Ql L):=by
 rw [<- zj0,<- zhI hf]
 exact zfS (QC hf).srtL.1.symm
theorem zcL(hf:Fine L):zv (zy ((L.length:Int)-288) (zn L))=(L.length:Int)-288-zcM (Ql L):=by
 have hl:=hf.len
 have hg:=QC hf
 have hc:chk ((L.length:Int)-288) (zn L)=0:=zaa.2 ⟨by omega,by omega,by have:=zaY L;omega,hg⟩
 unfold zy
 rw [if_pos hc]
 have:=hg.srtL.sum hg (by omega)
 rw [zcq hf] at this
 omega
end
def exE(e:(Int×Int×Int×Int)):Int×Int:=(e.2.1,e.2.2.1)
def zeI(L:List Int):List (Int×Int):=(0,288) :: (zo L 40).map exE
section
variable {L:List Int}
theorem zeO(L:List Int):(zeI L).length<=41:=by
 unfold zeI
 have:=qj L 40
 rw [List.length_cons,List.length_map]
 omega
theorem zwm(hf:Fine L):Good (L.length:Int) (zeI L)/\srtL (zeI L)=(0,288) :: (Ql L).map exE:=by
 have hl:=hf.len
 have hg:Good (L.length:Int) (zeI L):=by
  unfold zeI
  refine⟨fun e he=>?_,List.pairwise_cons.2 ⟨fun x hx=>?_,List.pairwise_map.2 ?_⟩⟩
  ·rcases List.mem_cons.1 he with rfl | he
   ·dsimp only;omega
   ·obtain⟨x,hx,rfl⟩:=List.mem_map.1 he
    have:=Qi hf hx
    unfold exE
    dsimp only
    omega
  ·obtain⟨y,hy,rfl⟩:=List.mem_map.1 hx
   have:=Qi hf hy
   rw [zaK]
   unfold exE
   dsimp only
   omega
  ·have h1:(zo L 40).Pairwise (fun x y=>x.1<y.1):=List.pairwise_map.1 (zcG (L:=L) 40).1
   refine h1.imp_of_mem (fun {x y} hx hy h=>?_)
   rw [zaK]
   have:=zbd hf hx hy (by omega)
   unfold ZI at this
   unfold exE
   dsimp only
   omega
 refine⟨hg,(hg.srt_eq (List.Perm.cons _ ((zah (L:=L)).map exE)) (List.pairwise_cons.2 ⟨fun x hx=>?_,List.pairwise_map.2 ((qM hf).imp_of_mem (fun {x y} hx hy h=>?_))⟩)).symm⟩
 ·obtain⟨y,hy,rfl⟩:=List.mem_map.1 hx
  have:=Qi hf (Qf.1 hy)
  unfold exE
  dsimp only
  omega
 ·have:=Qi hf (Qf.1 hx)
  unfold ZI at h
  unfold exE
  dsimp only
  omega
theorem zmA(hf:Fine L):chk (L.length:Int) (zeI L)=0:=by
 have hl:=hf.len
 exact zaa.2 ⟨by omega,by omega,by have:=zeO L;omega,(zwm hf).1⟩
theorem zkS(hf:Fine L):zy (L.length:Int) (zeI L)=zQ 288 ((Ql L).map exE++[((L.length:Int),0)]):=by
 unfold zy qo
 rw [if_pos (zmA hf),(zwm hf).2]
 show(if (0:Int)<0 then _ else [])++zQ (0+288) _=_
 rw [if_neg (by omega),List.nil_append,Int.zero_add]
 rfl
theorem zk8:∀ (l:List (Int×Int×Int×Int)) (a n:Int),l.Pairwise ZI->(∀ x∈l,a<=x.2.1)->(∀ x∈l,1<=x.2.2.1) ->
  (∀ e p,zeT a l=some (e,p)->∃ r,zQ a (l.map exE++[(n,0)])=(p,e.2.1-p) :: r)/\(zeT a l=none->zQ a (l.map exE++[(n,0)])=if a+zcM l<n then [(a+zcM l,n-(a+zcM l))] else [])
 | [],a,n,_,_,_=>by
  refine⟨fun e p h=>(by cases h),fun _=>?_⟩
  show(if a<n then [(a,n-a)] else [])++[]=if a+0<n then [(a+0,n-(a+0))] else []
  rw [Int.add_zero,List.append_nil]
 | e :: r,a,n,hp,ha,hl=>by
  rw [List.pairwise_cons] at hp
  have he:=ha e (by simp)
  obtain⟨i1,i2⟩:=zk8 r (a+e.2.2.1) n hp.2 (fun x hx=>by have:=hp.1 x hx;unfold ZI at this;omega) (fun x hx=>hl x (by simp [hx]))
  rw [List.map_cons,List.cons_append]
  unfold zQ
  by_cases hlt:a<e.2.1
  ·refine⟨fun x p h=>?_,fun h=>?_⟩
   ·unfold zeT at h
    rw [if_pos hlt] at h
    obtain⟨rfl,rfl⟩:e=x/\a=p:=by simpa using h
    rw [if_pos (show a<(exE e).1 from hlt)]
    exact⟨_,rfl⟩
   ·unfold zeT at h
    rw [if_pos hlt] at h
    cases h
  ·have e1:(exE e).1+(exE e).2=a+e.2.2.1:=by unfold exE;dsimp only;omega
   rw [if_neg (show ¬ a<(exE e).1 from hlt),e1,List.nil_append]
   refine⟨fun x p h=>?_,fun h=>?_⟩
   ·unfold zeT at h
    rw [if_neg hlt] at h
    exact i1 x p h
   ·unfold zeT at h
    rw [if_neg hlt] at h
    rw [i2 h]
    have e2:a+e.2.2.1+zcM r=a+zcM (e :: r):=by show a+e.2.2.1+zcM r=a+(e.2.2.1+zcM r);omega
    rw [e2]
theorem zyq(hf:Fine L)(h:mvS L=none):zy (L.length:Int) (zeI L)=[]\/∃ x,zy (L.length:Int) (zeI L)=[x]/\∀ e∈zo L 40,e.2.1≠x.1+x.2:=by
 unfold mvS at h
 cases hq:zeT 288 (Ql L) with
 | some x=>rw [hq] at h;cases h
 | none =>
  have:=(zk8 (Ql L) 288 (L.length:Int) (qM hf) (QX hf).1 (QX hf).2).2 hq
  rw [zkS hf,this]
  by_cases hs:288+zcM (Ql L)<(L.length:Int)
  ·rw [if_pos hs]
   refine .inr ⟨_,rfl,fun e he=>?_⟩
   have:=Qi hf he
   dsimp only
   omega
  ·rw [if_neg hs]
   exact .inl rfl
theorem zyp(hf:Fine L){c:List Int}(h:mvS L=some c):∃ (x:Int×Int) (r:List (Int×Int)) (i:Nat) (e:(Int×Int×Int×Int)),zy (L.length:Int) (zeI L)=x :: r/\(zo L 40)[i]?=some e/\e.2.1=x.1+x.2/\(∀ j y,j<i->(zo L 40)[j]?=some y->y.2.1≠x.1+x.2)/\c=mvB L e.1 x.1.toNat/\288<=x.1/\1<=x.2:=by
 unfold mvS at h
 cases hq:zeT 288 (Ql L) with
 | none=>rw [hq] at h;cases h
 | some y =>
  obtain⟨e,p⟩:=y
  rw [hq] at h
  obtain rfl:mvB L e.1 p.toNat=c:=by simpa using h
  obtain⟨_,hp,hlt,he⟩:=zd4 hf hq
  obtain⟨r,hr⟩:=(zk8 (Ql L) 288 (L.length:Int) (qM hf) (QX hf).1 (QX hf).2).1 e p hq
  obtain⟨i,hi,hie⟩:=List.getElem_of_mem he
  refine⟨(p,e.2.1-p),r,i,e,by rw [zkS hf,hr],by rw [List.getElem?_eq_getElem hi,hie],by dsimp only;omega,fun j y hj hy hat=>?_,rfl,hp,by dsimp only;omega⟩
  have hy':=List.mem_of_getElem? hy
  have e0:y.2.1=e.2.1:=by rw [hat];dsimp only;omega
  have hye:y=e:=by
   by_cases hne:y.1=e.1
   ·exact zit hy' he hne
   ·have h1:=zbd hf hy' he hne
    have h2:=Qi hf hy'
    have h3:=Qi hf he
    unfold ZI at h1
    omega
  have hnd:=List.pairwise_iff_getElem.1 (List.pairwise_map.1 (zcG (L:=L) 40).1) j i (by omega) hi hj
  obtain⟨hj2,hj3⟩:=List.getElem?_eq_some_iff.1 hy
  rw [hj3,hye,hie] at hnd
  omega
theorem zu0(n:Nat):∀ {L:List Int},Fine L->mvN 288 (Ql L)<=n->mvF (n+1) L=mvF n L:=by
 induction n with
 | zero =>
  intro L hf h
  cases hq:mvS L with
  | none=>rw [zcy hq];rfl
  | some c =>
   have h2:=(zbX hf hq).2
   rw [h2] at h
   exact absurd h (Nat.not_succ_le_zero _)
 | succ n ih =>
  intro L hf h
  cases hq:mvS L with
  | none=>rw [zcy hq,zcy hq]
  | some c =>
   obtain⟨a,hn⟩:=zbX hf hq
   rw [hn] at h
   rw [zdA hq,zdA hq,ih a.fine (Nat.le_of_succ_le_succ h)]
theorem zu2(h:mvS L=none):mvA L=L:=zcy h
theorem zu1(hf:Fine L){c:List Int}(h:mvS L=some c):mvA L=mvA c:=by
 obtain⟨a,hn⟩:=zbX hf h
 have h40:=zb3 (L:=L)
 rw [hn] at h40
 have e1:mvA L=mvF 39 c:=zdA h
 have e2:mvA c=mvF 39 c:=zu0 39 a.fine (Nat.le_of_succ_le_succ h40)
 rw [e1,e2]
end
end Go.Proofs.YtchmlnmhbfaclaaGreatDoor
