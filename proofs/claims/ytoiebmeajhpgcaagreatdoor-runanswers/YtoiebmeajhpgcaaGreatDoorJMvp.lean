import Derived.Test.YtoiebmeajhpgcaaGreatDoorJRtp
set_option maxRecDepth 100000
set_option maxHeartbeats 16000000
set_option linter.all false
namespace Go.Proofs.YtoiebmeajhpgcaaGreatDoor
variable {e x y:(Int×I3)}{h p a:Int}{c L:LI}{l1 l2 r:List (Int×I3)}{n:Nat}
open Go.RowKit
section
variable {b:LI}
theorem zcd(hf:aD b)(he:dJ b e=0)(ig:∀k,1<=k->k<=40->k≠e.1->aw b k≠0->uz e (ao b k)=false) :
  aD (cR b e)/\(∀k,1<=k->k<=40->k≠e.1->aw (cR b e) k=aw b k/\ao (cR b e) k=ao b k)/\aw (cR b e) e.1≠0/\ao (cR b e) e.1=e/\(cR b e).length=b.length/\(∀j,200<=j->(cR b e).getD j 0=b.getD j 0):=by
 have hb:=hf.len;have hlen:=nP he;obtain⟨_,hh,_⟩:=df.1 he;have Ro:=aN.1 hh;have hp:=du Ro.1 Ro.2;have uP:(fg e).length=5:=rfl;have hL:cR b e=splice b (bT e.1) (fg e):=zlg;obtain⟨Mu,um⟩:=Ez he;have mw:=(aV.1 Mu).2.2;have gD:∀k,1<=k->k<=40->k≠e.1->aw (cR b e) k=aw b k/\ao (cR b e) k=ao b k:=fun k k1 k2 hk=>zi4
 have vL:∀j,200<=j->(cR b e).getD j 0=b.getD j 0:=fun j hj=>zl9
 have bK:∀i,i<8->rowAt (cR b e) i=rowAt b i:=fun i hi=>by exact CF
 refine⟨Dy zlh (fun h h1 h2 ht=>?_) (fun h k h1 h2 k1 aB ht kt=>?_) (fun h h1 h2 ht=>?_) (fun hw=>?_),gD,mw,um,hlen,vL⟩
 ·exact I5
 ·by_cases hq:h=e.1
  ·grind
  ·obtain⟨e1,e2⟩:=gD h h1 h2 hq;rw[e1]at ht;by_cases qT:k=e.1
   ·subst qT;rw[e2,um,Bz];exact ig h h1 h2 hq ht
   ·exact zpj
 ·exact Et
 ·refine(tt bK (fun i hi hq _ fM=>?_) (dy.1 hf.ok).2 8 Sg).2;have hx:=aN.1 hq;have ht:=(lM.1 fM).1;refine hw _ hx.1 hx.2 ?_;by_cases qT:(rowAt b i).getD 10 0=e.1
  ·rw[qT];exact mw
  ·grind
def wY(b:LI)(h:Int)(at':Nat):LI:=splice (cR b (h,(at':Int),(ao b h).2.2.1,(ao b h).2.2.2)) at' (bw b h).2
structure Mvd (b c:LI) (h:Int) (at':Nat):Prop where
 bC:aD c
 len:c.length=b.length
 nE:ao c h=(h,(at':Int),(ao b h).2.2.1,(ao b h).2.2.2)
 tag:aw c h≠0
 other:∀k,1<=k->k<=40->k≠h->aw c k=aw b k/\ao c k=ao b k
 Ot:∀k,1<=k->k<=40->bw c k=bw b k
 roots:aE c 8=aE b 8
theorem yO:(ao b h).1=h:=rfl
theorem zim(hf:aD b)(h1:1<=h)(h2:h<=40)(ht:aw b h≠0){at':Nat}(ha:288<=at')(hle:(at':Int)<=(ao b h).2.1)(ig:∀k,1<=k->k<=40->k≠h->aw b k≠0->(ao b k).2.1+(ao b k).2.2.1<=at'\/(at':Int)+(ao b h).2.2.1<=(ao b k).2.1):Mvd b (wY b h at') h at':=by
 have gj:=hf.nE h1 h2 ht;have he:dJ b (h,(at':Int),(ao b h).2.2.1,(ao b h).2.2.2)=0:=df.2 ⟨hf.gR,aN.2 ⟨h1,h2⟩,gj.2.2.2.2.1,gj.2.2.2.2.2,gj.2.1,gj.2.2.1,Tu,Tu⟩;obtain⟨pf,po,pt,pe,pl,ptl⟩:=zcd hf he (fun k k1 k2 hk Hb=>by rw[Dt];exact ig k k1 k2 hk Hb);dsimp only at po pt pe;have yG:(bw b h).2=ju b (ao b h).2.1 (ao b h).2.2.1:=by unfold bw nQ;rw[zn ht]
 have Ln:(bw b h).2.length=(ao b h).2.2.1.toNat:=by rw[yG];unfold ju;rw[zLt,zLd];omega
 have fc:at'+(bw b h).2.length<=(cR b (h,(at':Int),(ao b h).2.2.1,(ao b h).2.2.2)).length:=by rw[pl,Ln];omega
 obtain⟨lf,ll,le,lo⟩:=E5 pf ha fc;have znq:∀i,i<8->rowAt (wY b h at') i=rowAt b i:=fun i hi=>by
  have hl:=hf.len;have gS:(wY b h at').length=b.length:=ll.trans pl;apply cr
  ·exact zii
  ·intro j hj;rw[aY Sg]at hj;rw[cw hj,cw hj];unfold wY;rw[bh fc (.inl Sg)];exact ptl _ Sg
 refine⟨lf,ll.trans pl,(le h h1 h2).2.trans pe,by unfold wY;rw[(le h h1 h2).1];exact pt,fun k k1 k2 hk=>?_,fun k k1 k2=>?_,qK 8 znq⟩
 ·grind[aw,ao,wY,dJ,bw,ju,nQ,cR]
 ·by_cases hk:k=h
  ·subst hk;have e1:aw (wY b k at') k≠0:=by unfold wY;rw[(le k h1 h2).1];exact pt
   have e2:ao (wY b k at') k=(k,(at':Int),(ao b k).2.2.1,(ao b k).2.2.2):=(le k h1 h2).2.trans pe;have e3:bw (wY b k at') k=((ao b k).2.2.2,ju (wY b k at') (at':Int) (ao b k).2.2.1):=by unfold bw nQ;rw[zn e1,e2]
   have e4:bw b k=((ao b k).2.2.2,(bw b k).2):=by unfold bw nQ;rw[zn ht]
   rw[e3,e4]
   congr 1
   unfold ju wY;apply cr
   ·grind
   ·intro j hj;rw[zLt,zLd,length_splice fc,pl]at hj;have o7:j<(bw b k).2.length:=by omega
    have e5:=cC fc o7;simp only[List.getD,qAi,zy (show j<(ao b k).2.2.1.toNat by omega),qBJ]at e5 ⊢;exact e5
  ·have e1:=lo k k1 k2 (fun Hb=>by rw[(po k k1 k2 hk).1]at Hb;rw[(po k k1 k2 hk).2,Ln];have:=ig k k1 k2 hk Hb;omega);rw[show bw (wY b h at') k=bw (cR b (h,(at':Int),(ao b h).2.2.1,(ao b h).2.2.2)) k from e1];refine rV pl (po k k1 k2 hk).1 (po k k1 k2 hk).2 (fun Hb j hj _=>ptl j ?_);have:=(hf.nE k1 k2 Hb).1;omega
theorem K6(hb:bZ b) h at':bZ (wY b h at'):=by grind[bZ,wY,cR,bw,nQ,ju,dB,Qv]
end
def uG(x y:(Int×I3)):Bool:=decide (x.2.1<=y.2.1)
def dC(L:LI):List (Int×I3):=(entsK L 40).mergeSort uG
def iK(x y:(Int×I3)):Prop:=x.2.1+x.2.2.1<=y.2.1
theorem FX:∀a b c:(Int×I3),uG a b=true->uG b c=true->uG a c=true:=by grind[uG]
theorem FY:∀a b:(Int×I3),(uG a b || uG b a)=true:=by grind[uG]
section
variable {L:LI}
theorem tV:∀k:Nat,((entsK L k).map (·.1)).Pairwise (·<·)/\∀x∈entsK L k,1<=x.1/\x.1<=k
 | 0=>⟨List.Pairwise.nil,fun x hx=>TG⟩
 | k+1=>by
  obtain⟨h1,h2⟩:=tV k
  show((entsK L k++_).map (·.1)).Pairwise (·<·)/\∀x∈entsK L k++_,_
  by_cases ht:aw L ((k:Int)+1)=0
  ·rw[zy ht,qAh];exact⟨h1,fun x hx=>by have:=h2 x hx;omega⟩
  ·rw[zn ht];refine⟨?_,fun x hx=>?_⟩
   ·rw[qAc];refine qBR.2 ⟨h1,Sk,fun a ha b hb=>?_⟩;obtain⟨x,hx,rfl⟩:=qAT.1 ha;have:=h2 x hx;have pI:b=(k:Int)+1:=by simpa[yO]using hb
    omega
   ·rcases zMa hx with hx|hx
    ·have:=h2 x hx;omega
    ·rw[zMs hx]
     show 1<=(k:Int)+1/\(k:Int)+1<=((k+1:Nat):Int)
     omega
theorem eN(hf:aD L)(hx:x∈entsK L 40):x=ao L x.1/\1<=x.1/\x.1<=40/\aw L x.1≠0/\288<=x.2.1/\1<=x.2.2.1/\x.2.2.1<=1000/\x.2.1+x.2.2.1<=L.length:=by
 obtain⟨j,hj,ht,rfl⟩:=kj.1 hx;have e:=hf.nE (h:=(j:Int)+1) Sg Sg ht
 grind[entsK,ao,aw]
theorem zhJ(h1:1<=h)(h2:h<=40)(ht:aw L h≠0):ao L h∈entsK L 40:=by
 refine kj.2 ⟨(h-1).toNat,Sg,?_,?_⟩
 ·grind
 grind
theorem mD:(dC L).Perm (entsK L 40):=List.mergeSort_perm _ _
theorem gG:x∈dC L ↔ x∈entsK L 40:=mD.mem_iff
theorem qj(hf:aD L)(hx:x∈entsK L 40)(hy:y∈entsK L 40)(aG:x.1≠y.1):iK x y\/iK y x:=by
 obtain⟨ex,x1,x2,xt,_⟩:=eN hf hx;obtain⟨ey,y1,y2,yt,_⟩:=eN hf hy;have:=Dt.1 (hf.apart x1 x2 y1 y2 aG xt yt)
 grind[entsK,iK]
theorem FH(hx:x∈entsK L 40)(hy:y∈entsK L 40)(h:x.1=y.1):x=y:=by
 obtain⟨i,_,_,rfl⟩:=kj.1 hx;obtain⟨j,_,_,rfl⟩:=kj.1 hy;have h':(i:Int)+1=(j:Int)+1:=h
 grind
theorem Ee:((dC L).map (·.1)).Nodup:=by
 have h1:=(tV (L:=L) 40).1;have h2:=(mD (L:=L)).map (fun x=>x.1)
 grind
theorem fX(hf:aD L):(dC L).Pairwise iK:=by
 have h1:(dC L).Pairwise (fun x y=>uG x y=true):=qCb FX FY _;have h2:(dC L).Pairwise (fun x y=>x.1≠y.1):=qBc.1 Ee;refine(h1.and h2).imp_of_mem (fun {x y} hx hy h=>?_);have hx':=gG.1 hx;have hy':=gG.1 hy;rcases qj hf hx' hy' h.2 with ha | ha
 ·exact ha
 ·have h3:=h.1;unfold uG at h3;rw[qAK]at h3;have:=(eN hf hy').2.2.2.2.2.1;unfold iK at ha ⊢;omega
end
def mvOn(a:Int):List (Int×I3)->Option ((Int×I3)×Int)
 | []=>none
 | e::r=>if a<e.2.1 then some (e,a)else mvOn (a+e.2.2.1) r
def ko:List (Int×I3)->Int
 | []=>0
 | e::r=>e.2.2.1+ko r
def Mc(a:Int):List (Int×I3)->Prop
 | []=>True
 | e::r=>e.2.1=a/\Mc (a+e.2.2.1) r
def tD(a:Int):List (Int×I3)->Nat
 | []=>0
 | e::r=>(if a<e.2.1 then 1 else 0)+tD (a+e.2.2.1) r
theorem IW:∀ {l:List (Int×I3)} {a:Int},l.Pairwise iK->(∀x∈l,a<=x.2.1)->mvOn a l=none->Mc a l/\tD a l=0
 | [],a,_,_,_=>⟨trivial,rfl⟩
 | e::r,a,hp,ha,h=>by
  unfold mvOn at h;by_cases aB:a<e.2.1
  ·rw[zy aB]at h;cases h
  ·rw[zn aB]at h;have he:=ha e Sk;rw[qBC]at hp;obtain⟨h1,h2⟩:=IW hp.2 (fun x hx=>zmt) h;refine⟨⟨Sg,h1⟩,?_⟩;unfold tD;rw[zn aB,h2]
theorem Bw:∀ {l:List (Int×I3)} {a:Int} {e:(Int×I3)} {p:Int},l.Pairwise iK->(∀x∈l,a<=x.2.1)->(∀x∈l,1<=x.2.2.1)->mvOn a l=some (e,p) ->∃l1 l2,l=l1++e::l2/\a<=p/\p<e.2.1/\(∀x∈l1,x.2.1+x.2.2.1<=p)/\tD a l=tD a (l1++(e.1,p,e.2.2.1,e.2.2.2)::l2)+1
 | [],a,e,p,_,_,_,h=>Um
 | x::r,a,e,p,hp,ha,hl,h=>by
  unfold mvOn at h;by_cases aB:a<x.2.1
  ·rw[zy aB]at h;obtain⟨rfl,rfl⟩:x=e/\a=p:=by simpa using h
   refine⟨[],r,rfl,qBA _,aB,fun y hy=>(by cases hy),?_⟩;simp only[qAg,tD];rw[zy aB,zn Sg];omega
  ·rw[zn aB]at h;have hx:=ha x Sk;have hlx:=hl x Sk;rw[qBC]at hp;obtain⟨l1,l2,rfl,q1,q2,q3,q4⟩:=Bw hp.2 (fun y hy=>by have:=hp.1 y hy;unfold iK at this;omega) (fun y hy=>hl y (by simp[hy])) h;refine⟨x::l1,l2,rfl,Sg,q2,fun y hy=>?_,?_⟩
   ·rcases zMc hy with rfl|hy
    ·omega
    ·exact q3 y hy
   ·simp only[qBG,tD];rw[zn aB,q4];omega
def rW(L:LI):Option (LI):=(mvOn 288 (dC L)).map fun x=>wY L x.1.1 x.2.toNat
section
variable {L:LI}
theorem kd(hf:aD L):(∀x∈dC L,288<=x.2.1)/\∀x∈dC L,1<=x.2.2.1 :=⟨fun x hx=>(eN hf (gG.1 hx)).2.2.2.2.1,fun x hx=>(eN hf (gG.1 hx)).2.2.2.2.2.1⟩
theorem yk(hf:aD L)(h:mvOn 288 (dC L)=some (e,p)):Mvd L (wY L e.1 p.toNat) e.1 p.toNat/\288<=p/\p<e.2.1/\e∈entsK L 40:=by
 obtain⟨f1,f2⟩:=kd hf;obtain⟨l1,l2,hl,q1,q2,q3,_⟩:=Bw (fX hf) f1 f2 h;have he:e∈entsK L 40:=gG.1 (by rw[hl];simp);obtain⟨ee,e1,e2,et,_⟩:=eN hf he;have ea:(ao L e.1).2.1=e.2.1:=by rw[<-ee]
 have el:(ao L e.1).2.2.1=e.2.2.1:=by rw[<-ee]
 refine⟨zim hf e1 e2 et Sg (by rw[ea];omega) (fun k k1 k2 hk Hb=>?_),q1,q2,he⟩;rw[el];have Hc:=zhJ k1 k2 Hb;have hkm:ao L k∈l1++e::l2:=by rw[<-hl];exact gG.2 Hc
 have Rj:=fX hf;rw[hl,qBR,qBC]at Rj;rcases zMa hkm with hm|hm
 ·grind
 ·rcases zMc hm with hm|hm
  ·exact absurd (qBB Prod.fst hm) hk
  ·grind[mvOn,dC,wY,entsK,ao,iK]
theorem Mvd.Hl{p}(m:Mvd L c h p)(ht:aw L h≠0):∀k:Nat,k<=40->entsK c k=(entsK L k).map fun x=>if x.1=h then (h,(p:Int),(ao L h).2.2.1,(ao L h).2.2.2)else x
 | 0,_=>rfl
 | k+1,hk=>by
  show entsK c k++_=(entsK L k++_).map _
  rw[qAc,m.Hl ht k Sg]
  congr 1
  by_cases e:(k:Int)+1=h
  ·have gw:=m.tag;rw[e,zn m.tag,zn ht,m.nE];simp[yO]
  ·obtain⟨o1,o2⟩:=m.other ((k:Int)+1) Sg Sg e;rw[o1,o2];split
   ·rfl
   ·simp[yO,e]
theorem zgQ{e':(Int×I3)}(Zy:((l1++e::l2).map (·.1)).Nodup):(l1++e::l2).map (fun x=>if x.1=e.1 then e' else x)=l1++e'::l2:=by
 rw[qAc,qAn,qCt,qCQ]at Zy;rw[qAc,qAn,zy rfl];have h1:l1.map (fun x=>if x.1=e.1 then e' else x)=l1:=by refine(qCw (g:=id) (fun x hx=>?_)).trans (List.map_id _);exact zn (fun h=>Zy.2.2 x.1 (qAT.2 ⟨x,hx,rfl⟩) e.1 Sk h)
 have h2:l2.map (fun x=>if x.1=e.1 then e' else x)=l2:=by refine(qCw (g:=id) (fun x hx=>?_)).trans (List.map_id _);exact zn (fun h=>Zy.2.1.1 (by rw[<-h];exact qAT.2 ⟨x,hx,rfl⟩))
 grind
theorem M0(hf:aD L)(h:mvOn 288 (dC L)=some (e,p)):∃l1 l2,dC L=l1++e::l2/\dC (wY L e.1 p.toNat)=l1++(e.1,p,e.2.2.1,e.2.2.2)::l2/\tD 288 (dC L)=tD 288 (dC (wY L e.1 p.toNat))+1:=by
 obtain⟨m,hp,aB,he⟩:=yk hf h;obtain⟨f1,f2⟩:=kd hf;obtain⟨l1,l2,hl,q1,q2,q3,q4⟩:=Bw (fX hf) f1 f2 h;obtain⟨ee,e1,e2,et,_⟩:=eN hf he;have PA:=m.Hl et 40 zNr;have hE:(e.1,((p.toNat:Nat):Int),(ao L e.1).2.2.1,(ao L e.1).2.2.2)=(e.1,p,e.2.2.1,e.2.2.2):=by rw[<-ee,show((p.toNat:Nat):Int)=p by omega]
 rw[hE]at PA;have zqd:(dC L).map (fun x=>if x.1=e.1 then (e.1,p,e.2.2.1,e.2.2.2)else x)=l1++(e.1,p,e.2.2.1,e.2.2.2)::l2:=by have Zy:=Ee (L:=L);rw[hl]at Zy ⊢;exact zgQ Zy
 have xS:(l1++(e.1,p,e.2.2.1,e.2.2.2)::l2).Perm (dC (wY L e.1 p.toNat)):=by rw[<-zqd];refine((mD (L:=L)).map _).trans ?_;rw[<-PA];exact mD.symm
 have Rj:=fX hf;rw[hl,qBR,qBC]at Rj;have eX:(l1++(e.1,p,e.2.2.1,e.2.2.2)::l2).Pairwise (fun x y=>uG x y=true):=by
  have f2':=fun x hx=>f2 x (by rw[hl];exact hx)
  refine qBR.2 ⟨Rj.1.imp_of_mem (fun {x y} hx hy ha=>?_),qBC.2 ⟨fun y hy=>?_,Rj.2.1.2.imp_of_mem (fun {x y} hx hy ha=>?_)⟩,fun x hx y hy=>?_⟩
  ·exact zpb
  ·grind[mvOn,dC,wY,tD,ao,uG,iK]
  ·exact zpb
  ·grind[mvOn,dC,wY,tD,ao,uG,iK]
 have hold:(dC (wY L e.1 p.toNat)).Pairwise (fun x y=>uG x y=true):=qCb FX FY _;have heq:l1++(e.1,p,e.2.2.1,e.2.2.2)::l2=dC (wY L e.1 p.toNat):=by
  refine List.Perm.eq_of_pairwise (le:=fun x y=>uG x y=true) (fun x y hx hy h1 h2=>?_) eX hold xS;have hx':=gG.1 (xS.mem_iff.1 hx);have hy':=gG.1 hy;by_cases Gv:x.1=y.1
  ·exact FH hx' hy' Gv
  ·unfold uG at h1 h2;rw[qAK]at h1 h2;have lx:=(eN m.bC hx').2.2.2.2.2.1;have ly:=(eN m.bC hy').2.2.2.2.2.1;rcases qj m.bC hx' hy' Gv with ha|ha
   ·unfold iK at ha;omega
   ·unfold iK at ha;omega
 grind
theorem zcF:∀ (l:List (Int×I3)) (a:Int),tD a l<=l.length
 | [],a=>zNr
 | e::r,a=>by unfold tD;have:=zcF r (a+e.2.2.1);rw[zLc];split <;> omega
theorem pH:tD 288 (dC L)<=40:=by refine qAF (zcF _ _) ?_;rw[mD.length_eq];exact dt L 40
end
section
variable {L:LI}
structure uw (L c:LI):Prop where
 bC:aD c
 len:c.length=L.length
 Ot:∀k,1<=k->k<=40->bw c k=bw L k
 tags:∀k,1<=k->k<=40->(aw c k=0 ↔ aw L k=0)
 roots:aE c 8=aE L 8
 sum:ko (dC c)=ko (dC L)
 many:(entsK c 40).length=(entsK L 40).length
theorem uw.refl(hf:aD L):uw L L:=⟨hf,rfl,fun _ _ _=>rfl,fun _ _ _=>Iff.rfl,rfl,rfl,rfl⟩
theorem uw.trans{a b:LI}(p:uw a b)(q:uw b c):uw a c :=⟨q.bC,q.len.trans p.len,fun k h1 h2=>(q.Ot k h1 h2).trans (p.Ot k h1 h2),fun k h1 h2=>(q.tags k h1 h2).trans (p.tags k h1 h2),q.roots.trans p.roots,q.sum.trans p.sum,q.many.trans p.many⟩
theorem vf:∀ (l m:List (Int×I3)),ko (l++m)=ko l+ko m
 | [],m=>by simp[ko]
 | e::l,m=>by
  show e.2.2.1+ko (l++m)=e.2.2.1+ko l+ko m
  rw[vf l m];omega
theorem oS(hf:aD L)(h:rW L=some c):uw L c/\tD 288 (dC L)=tD 288 (dC c)+1:=by
 unfold rW at h;cases hq:mvOn 288 (dC L)with
 | none=>rw[hq]at h;cases h
 | some x =>
  obtain⟨e,p⟩:=x;obtain rfl:wY L e.1 p.toNat=c:=UB;obtain⟨m,_,_,he⟩:=yk hf hq;obtain⟨l1,l2,s1,s2,s3⟩:=M0 hf hq;obtain⟨_,e1,e2,et,_⟩:=eN hf he;refine⟨⟨m.bC,m.len,m.Ot,fun k k1 k2=>?_,m.roots,?_,?_⟩,s3⟩
  ·by_cases hk:k=e.1
   ·subst hk;exact⟨fun h=>absurd h m.tag,fun h=>absurd h et⟩
   ·rw[(m.other k k1 k2 hk).1]
  ·rw[s1,s2,vf,vf];rfl
  ·rw[m.Hl et 40 zNr,zLm]
def mvF:Nat->LI->LI
 | 0,L=>L
 | n+1,L=>match rW L with
  | none=>L
  | some c=>mvF n c
theorem zcG L:mvF 0 L=L:=rfl
theorem rX(h:rW L=none):mvF (n+1) L=L:=by simp only[mvF,h]
theorem vB(h:rW L=some c):mvF (n+1) L=mvF n c:=by simp only[mvF,h]
theorem zj3 n:∀ {L:LI},aD L->tD 288 (dC L)<=n->uw L (mvF n L)/\rW (mvF n L)=none:=by
 induction n with
 | zero =>
  intro L hf h;rw[zcG];refine⟨uw.refl hf,?_⟩;cases hq:rW L with
  | none=>rfl
  | some c =>have h2:=(oS hf hq).2;rw[h2]at h;exact absurd h (Nat.not_succ_le_zero _)
 | succ n ih =>
  intro L hf h;cases hq:rW L with
  | none =>rw[rX hq];exact⟨uw.refl hf,hq⟩
  | some c =>obtain⟨a,hn⟩:=oS hf hq;rw[hn]at h;obtain⟨b,hb⟩:=ih a.bC (Nat.le_of_succ_le_succ h);rw[vB hq];exact⟨a.trans b,hb⟩
def sU(L:LI):LI:=mvF 40 L
theorem vC(hf:aD L):uw L (sU L)/\rW (sU L)=none:=zj3 40 hf pH
theorem EK(hf:aD L)(h:rW L=none):Mc 288 (dC L)/\tD 288 (dC L)=0:=by
 unfold rW at h;cases hq:mvOn 288 (dC L)with
 | none=>exact IW (fX hf) (kd hf).1 hq
 | some x=>rw[hq]at h;cases h
theorem Ed(hf:aD L):ix (aA L)=(dC L).map jL:=by
 refine((jc hf).Sh ((mD (L:=L)).map jL) (qBc.2 ((fX hf).imp_of_mem (fun {x y} hx hy h=>?_)))).symm;have:=(eN hf (gG.1 hx)).2.2.2.2.2.1
 grind[ix,aA,dC,jL,iK]
theorem I6:∀l:List (Int×I3),aR (l.map jL)=ko l
 | []=>rfl
 | e::r=>by rw[qAn,iJ,I6 r];rfl
theorem rO(hf:aD L):aR (aA L)=ko (dC L):=by rw[<-I6,<-Ed hf];exact Cm (jc hf).ix.1.symm
theorem sH(hf:aD L):aR (aO ((L.length:Int)-288) (aA L))=(L.length:Int)-288-ko (dC L):=by have hl:=hf.len;have hg:=jc hf;have hc:=eZ.2 ⟨Sg,Sg,by have:=lh L;omega,hg⟩;unfold aO;rw[zy hc];have:=hg.ix.sum hg Sg;rw[rO hf]at this;omega
end
def yX(e:(Int×I3)):I2:=(e.2.1,e.2.2.1)
def om(L:LI):List (I2):=(0,288)::(entsK L 40).map yX
section
variable {L:LI}
theorem zb L:(om L).length<=41:=by grind[om,dt]
theorem za4(hf:aD L):Good (L.length:Int) (om L)/\ix (om L)=(0,288)::(dC L).map yX:=by
 have hl:=hf.len;have hg:Good (L.length:Int) (om L):=by
  unfold om;refine⟨fun e he=>?_,qBC.2 ⟨fun x hx=>?_,qBc.2 ?_⟩⟩
  ·rcases zMc he with rfl|he
   ·grind
   ·obtain⟨x,hx,rfl⟩:=qAT.1 he;have:=eN hf hx;unfold yX;omega
  ·obtain⟨y,hy,rfl⟩:=qAT.1 hx;have:=eN hf hy;rw[np];unfold yX;omega
  ·have h1:=qBc.1 (tV (L:=L) 40).1;refine h1.imp_of_mem (fun {x y} hx hy h=>?_);rw[np];have:=qj hf hx hy Sg;unfold iK at this;exact zhF
 refine⟨hg,(hg.Sh (List.Perm.cons _ ((mD (L:=L)).map yX)) (qBC.2 ⟨fun x hx=>?_,qBc.2 ((fX hf).imp_of_mem (fun {x y} hx hy h=>?_))⟩)).symm⟩
 ·obtain⟨y,hy,rfl⟩:=qAT.1 hx;have:=eN hf (gG.1 hy);exact zhF
 ·have:=eN hf (gG.1 hx);unfold iK at h;exact zhF
theorem Kd(hf:aD L):nY (L.length:Int) (om L)=0:=by
 have hl:=hf.len
 grind[nY,om,eZ,zb,za4]
theorem Kc(hf:aD L):aO (L.length:Int) (om L)=runsOf 288 ((dC L).map yX++[((L.length:Int),0)]):=by grind[aO,om,runsOf,dC,yX,dh,Kd,za4]
theorem Kx:∀ (l:List (Int×I3)) (a n:Int),l.Pairwise iK->(∀x∈l,a<=x.2.1)->(∀x∈l,1<=x.2.2.1) ->(∀e p,mvOn a l=some (e,p)->∃r,runsOf a (l.map yX++[(n,0)])=(p,e.2.1-p)::r)/\(mvOn a l=none->runsOf a (l.map yX++[(n,0)])=if a+ko l<n then [(a+ko l,n-(a+ko l))]else [])
 | [],a,n,_,_,_=>by
  refine⟨fun e p h=>Um,fun _=>?_⟩
  show(if a<n then [(a,n-a)]else [])++[]=if a+0<n then [(a+0,n-(a+0))]else []
  rw[Int.add_zero,qAh]
 | e::r,a,n,hp,ha,hl=>by
  rw[qBC]at hp;have he:=ha e Sk;obtain⟨i1,i2⟩:=Kx r (a+e.2.2.1) n hp.2 (fun x hx=>zmt) (fun x hx=>hl x UD);rw[qAn,qBG];unfold runsOf;by_cases aB:a<e.2.1
  ·refine⟨fun x p h=>?_,fun h=>?_⟩
   ·unfold mvOn at h;rw[zy aB]at h;obtain⟨rfl,rfl⟩:e=x/\a=p:=by simpa using h
    rw[zy (show a<(yX e).1 from aB)];exact⟨_,rfl⟩
   ·unfold mvOn at h;rw[zy aB]at h;cases h
  ·have e1:(yX e).1+(yX e).2=a+e.2.2.1:=by unfold yX;dsimp only;omega
   rw[zn (show ¬a<(yX e).1 from aB),e1,qAg];refine⟨fun x p h=>?_,fun h=>?_⟩
   ·unfold mvOn at h;rw[zn aB]at h;exact i1 x p h
   ·unfold mvOn at h;rw[zn aB]at h;rw[i2 h];have e2:a+e.2.2.1+ko r=a+ko (e::r):=by show a+e.2.2.1+ko r=a+(e.2.2.1+ko r);omega
    rw[e2]
theorem zgH(hf:aD L)(h:rW L=none):aO (L.length:Int) (om L)=[]\/∃x,aO (L.length:Int) (om L)=[x]/\∀e∈entsK L 40,e.2.1≠x.1+x.2:=by
 unfold rW at h;cases hq:mvOn 288 (dC L)with
 | some x=>rw[hq]at h;cases h
 | none =>
  have:=(Kx (dC L) 288 (L.length:Int) (fX hf) (kd hf).1 (kd hf).2).2 hq;rw[Kc hf,this];by_cases hs:288+ko (dC L)<(L.length:Int)
  ·rw[zy hs];refine .inr ⟨_,rfl,fun e he=>?_⟩;have:=eN hf he;omega
  ·grind
theorem zgG(hf:aD L)(h:rW L=some c):∃ (x:I2) (r:List (I2)) (i:Nat) (e:(Int×I3)),aO (L.length:Int) (om L)=x::r/\(entsK L 40)[i]?=some e/\e.2.1=x.1+x.2/\(∀j y,j<i->(entsK L 40)[j]?=some y->y.2.1≠x.1+x.2)/\c=wY L e.1 x.1.toNat/\288<=x.1/\1<=x.2:=by
 unfold rW at h;cases hq:mvOn 288 (dC L)with
 | none=>rw[hq]at h;cases h
 | some y =>
  obtain⟨e,p⟩:=y;obtain rfl:wY L e.1 p.toNat=c:=UB;obtain⟨_,hp,aB,he⟩:=yk hf hq;obtain⟨r,hr⟩:=(Kx (dC L) 288 (L.length:Int) (fX hf) (kd hf).1 (kd hf).2).1 e p hq;obtain⟨i,hi,hie⟩:=qAm he;refine⟨(p,e.2.1-p),r,i,e,by rw[Kc hf,hr],by rw[zLg hi,hie],Tu,fun j y hj hy rI=>?_,rfl,hp,Tu⟩;have hy':=qAs hy;have hye:y=e:=by
   by_cases aG:y.1=e.1
   ·exact FH hy' he aG
   ·have h1:=qj hf hy' he aG;have h2:=eN hf hy';have h3:=eN hf he;unfold iK at h1;omega
  have Zy:=qCT.1 (qBc.1 (tV (L:=L) 40).1) j i Sg hi hj;obtain⟨Hd,hj3⟩:=zLs hy;rw[hj3,hye,hie]at Zy;omega
def Da(a:Int)(b:Option (Int×I3))(e:(Int×I3)):Option (Int×I3):=if a<=e.2.1/\(∀x,b=some x->e.2.1<x.2.1)then some e else b
def bsL(a:Int)(l:List (Int×I3)):Option (Int×I3):=l.foldl (Da a) none
theorem AJ(a:Int):∀ (l:List (Int×I3)) (b:Option (Int×I3)) ,(∀x,b=some x->a<=x.2.1) ->
  match l.foldl (Da a) b with
  | none=>b=none/\∀x∈l,x.2.1<a
  | some y=>(b=some y\/y∈l)/\a<=y.2.1/\(∀x,b=some x->y.2.1<=x.2.1)/\∀x∈l,a<=x.2.1->y.2.1<=x.2.1
 | [],b,hb=>by
  rw[List.foldl_nil];cases b with
  | none=>exact⟨rfl,fun x hx=>TG⟩
  | some y=>exact⟨.inl rfl,hb y rfl,fun x hx=>(by cases hx;exact qBA _),fun x hx=>TG⟩
 | e::r,b,hb=>by
  rw[qBk];by_cases hc:a<=e.2.1/\(∀x,b=some x->e.2.1<x.2.1)
  ·have e1:Da a b e=some e:=by unfold Da;rw[zy hc]
   rw[e1];have ih:=AJ a r (some e) (fun x hx=>by cases hx;exact hc.1);cases hq:r.foldl (Da a) (some e)with
   | none=>rw[hq]at ih;exact absurd ih.1 Sk
   | some y =>
    rw[hq]at ih;obtain⟨i1,i2,i3,i4⟩:=ih;have i5:=i3 e rfl;refine⟨?_,i2,fun x hx=>?_,fun x hx hax=>?_⟩
    ·rcases i1 with i1|i1
     ·exact .inr (by cases i1;simp)
     ·exact .inr (by simp[i1])
    ·have:=hc.2 x hx;omega
    ·rcases zMc hx with rfl|hx
     ·exact i5
     ·exact i4 x hx hax
  ·have e1:Da a b e=b:=by unfold Da;rw[zn hc]
   rw[e1];have ih:=AJ a r b hb;cases hq:r.foldl (Da a) b with
   | none =>
    rw[hq]at ih;obtain⟨rfl,i2⟩:=ih;refine⟨rfl,fun x hx=>?_⟩;rcases zMc hx with rfl | hx
    ·by_cases h:a<=x.2.1
     ·exact absurd ⟨h,fun y hy=>by cases hy⟩ hc
     ·omega
    ·exact i2 x hx
   | some y =>
    rw[hq]at ih;obtain⟨i1,i2,i3,i4⟩:=ih;refine⟨?_,i2,i3,fun x hx hax=>?_⟩
    ·rcases i1 with i1|i1
     ·exact .inl i1
     ·exact .inr (by simp[i1])
    ·rcases zMc hx with rfl|hx
     ·by_cases h:∀z,b=some z->x.2.1<z.2.1
      ·exact absurd ⟨hax,h⟩ hc
      ·cases b with
       | none=>exact absurd (fun z hz=>Vt) h
       | some z =>
        have h1:=i3 z rfl;by_cases h2:x.2.1<z.2.1
        ·exact absurd (fun z' hz=>by cases hz;exact h2) h
        ·omega
     ·exact i4 x hx hax
theorem zlv{T E:List (Int×I3)}(Rj:T.Pairwise iK)(Jg:∀x,x∈T ↔ x∈E)(fu:∀e∈E,1<=e.2.2.1)(hs:T=l1++l2)(h1:∀x∈l1,x.2.1<a)(h2:∀x∈l2,a<=x.2.1):bsL a E=l2.head?:=by
 have Lk:=AJ a E none (fun x hx=>TG);unfold bsL;cases hq:E.foldl (Da a) none with
 | none =>
  rw[hq]at Lk;cases l2 with
  | nil=>rfl
  | cons e r =>have hm:=(Jg e).1 (by rw[hs];simp);have:=Lk.2 e hm;have:=h2 e Sk;omega
 | some y =>
  rw[hq]at Lk;obtain⟨q1,q2,_,q4⟩:=Lk;have hy2:y∈l1++l2:=UB;rcases zMa hy2 with hm|hm
  ·have:=h1 y hm;omega
  ·cases l2 with
   | nil=>cases hm
   | cons e r =>
    have Ly:=(Jg e).1 (by rw[hs];simp);have h3:=q4 e Ly (h2 e Sk);rcases zMc hm with rfl|hm
    ·rfl
    ·rw[hs,qBR,qBC]at Rj;have h4:=Rj.2.1.1 y hm;have h5:=fu e Ly;unfold iK at h4;omega
theorem zar(hf:aD L)(hs:dC L=l1++l2)(h1:∀x∈l1,x.2.1<a)(h2:∀x∈l2,a<=x.2.1):bsL a (entsK L 40)=l2.head? :=zlv (fX hf) (fun x=>gG) (fun e he=>(eN hf he).2.2.2.2.2.1) hs h1 h2
theorem zcH n:∀ {L:LI},aD L->tD 288 (dC L)<=n->mvF (n+1) L=mvF n L:=by
 induction n with
 | zero =>
  intro L hf h;cases hq:rW L with
  | none=>rw[rX hq];rfl
  | some c =>have h2:=(oS hf hq).2;rw[h2]at h;exact absurd h (Nat.not_succ_le_zero _)
 | succ n ih =>
  intro L hf h;cases hq:rW L with
  | none=>rw[rX hq,rX hq]
  | some c =>obtain⟨a,hn⟩:=oS hf hq;rw[hn]at h;rw[vB hq,vB hq,ih a.bC (Nat.le_of_succ_le_succ h)]
theorem OL(h:rW L=none):sU L=L:=rX h
theorem OK(hf:aD L)(h:rW L=some c):sU L=sU c:=by
 obtain⟨a,hn⟩:=oS hf h;have h40:=pH (L:=L);rw[hn]at h40;have e1:sU L=mvF 39 c:=vB h;have e2:sU c=mvF 39 c:=zcH 39 a.bC (Nat.le_of_succ_le_succ h40)
 grind
theorem zgK(hb:bZ L):bZ (sU L):=by
 have:∀ n L,bZ L->bZ (mvF n L):=by
  intro n;induction n with
  | zero=>intro L hb;exact hb
  | succ n ih =>
   intro L hb;cases hq:rW L with
   | none=>rw[rX hq];exact hb
   | some c =>
    rw[vB hq];refine ih c ?_;unfold rW at hq;cases h2:mvOn 288 (dC L)with
    | none=>rw[h2]at hq;cases hq
    | some x =>obtain rfl:wY L x.1.1 x.2.toNat=c:=UB;exact K6 hb _ _
 exact this 40 L hb
structure oc (L:LI) (a:Int) (l1 l2:List (Int×I3)):Prop where
 eq:dC L=l1++l2
 lo:∀x∈l1,x.2.1<a
 hi:∀x∈l2,a<=x.2.1
 on:mvOn 288 (dC L)=mvOn a l2
 b1:288<=a
 b2:a<=L.length
theorem oc.start(hf:aD L):oc L 288 [] (dC L):=by have hl:=hf.len;exact⟨rfl,(fun x hx=>TG),(kd hf).1,rfl,qBA _,Sg⟩
theorem oc.nf(hf:aD L)(s:oc L a l1 l2):bsL a (entsK L 40)=l2.head?:=zar hf s.eq s.lo s.hi
theorem oc.next(hf:aD L)(s:oc L a l1 (e::r))(he:¬a<e.2.1):oc L (a+e.2.2.1) (l1++[e]) r/\e.2.1=a/\1<=e.2.2.1:=by
 have h1:=s.hi e Sk;have Ly:e∈entsK L 40:=gG.1 (by rw[s.eq];simp);have hi:=eN hf Ly;have Rj:=fX hf;rw[s.eq,qBR,qBC]at Rj;refine⟨⟨by rw[s.eq];simp,fun x hx=>?_,fun x hx=>?_,?_,by have:=s.b1;omega,Sg⟩,Sg,hi.2.2.2.2.2.1⟩
 ·rcases zMa hx with hx|hx
  ·have:=s.lo x hx;omega
  ·grind
 ·grind[entsK,iK,mvOn]
 ·rw[s.on]
  show(if a<e.2.1 then some (e,a)else mvOn (a+e.2.2.1) r)=_
  rw[zn he]
theorem oc.move(hf:aD L)(s:oc L a l1 (e::r))(he:a<e.2.1):rW L=some (wY L e.1 a.toNat)/\e∈entsK L 40:=by
 have Ly:e∈entsK L 40:=gG.1 (by rw[s.eq];simp);refine⟨?_,Ly⟩;unfold rW;rw[s.on]
 show Option.map _ (if a<e.2.1 then some (e,a)else _)=_
 grind
theorem oc.stop(s:oc L a l1 []):rW L=none:=by unfold rW;rw[s.on];rfl
