/-
  Parts of the proofs.
-/
import Derived.Test.YtcimhnnendlblaaGreatJRtp
set_option maxRecDepth 100000
set_option maxHeartbeats 16000000
set_option linter.all false
namespace Go.Proofs.YtcimhnnendlblaaGreat
open Go.RowKit
def jX(r:List Int):Nat:=(bz r 2 2).toNat
def VY(r:List Int)(a:Nat)(out:List Int):Int :=
 if r.length=0 then 2 else if dC (r.getD 0 0)=false then 1 else if aq out (r.getD 0 0)≠0 then 7 else if r.length<=1 then 2 else if 15<r.getD 1 0 then 1
 else if r.length<4 then 2 else if bz r 2 2<1\/1000<bz r 2 2 then 1 else if r.length<4+jX r then 2 else if 6400<a+jX r then 4 else 0
def yD(r:List Int)(a:Nat)(out:List Int):List Int:=splice (bP out (r.getD 0 0,(a:Int),bz r 2 2,r.getD 1 0)) a ((r.drop 4).take (jX r))
def obR:Nat->List Int->Nat->List Int->Int×List Int×Nat×List Int
 | 0,r,a,out=>(0,r,a,out)
 | n+1,r,a,out=>if VY r a out≠0 then (VY r a out,[],0,[]) else obR n (r.drop (4+jX r)) (a+jX r) (yD r a out)
def ZU(r:List Int)(out:List Int):Int :=if r.length<8 then 2 else if (aT (r.take 8)).2≠0 then 2 else if aU (ak out 8) (aT (r.take 8)).1≠0 then 7 else if r.length<9 then 2 else aP out (r.getD 8 0)
def roO(r:List Int)(i:Nat)(out:List Int):List Int:=je out i ((aT (r.take 8)).1,r.getD 8 0)
def roR:Nat->Nat->List Int->List Int->Int×List Int×List Int
 | 0,_,r,out=>(0,r,out)
 | n+1,i,r,out=>if ZU r out≠0 then (ZU r out,[],[]) else roR n (i+1) (r.drop 9) (roO r i out)
def Ck(b:List Int):Bool:=decide (4<=b.length) && (decide (b.getD 0 0=79) && (decide (b.getD 1 0=76) && (decide (b.getD 2 0=68) && decide (b.getD 3 0=49))))
def Ui(b:List Int):Int×List Int :=
 if Ck b=false then (2,[]) else if b.length<5\/40<b.getD 4 0 then (2,[])
 else if (obR (b.getD 4 0).toNat (b.drop 5) 288 (ag 6400)).1≠0 then ((obR (b.getD 4 0).toNat (b.drop 5) 288 (ag 6400)).1,[])
 else if (obR (b.getD 4 0).toNat (b.drop 5) 288 (ag 6400)).2.1.length=0\/8<(obR (b.getD 4 0).toNat (b.drop 5) 288 (ag 6400)).2.1.getD 0 0 then (2,[])
 else if (roR ((obR (b.getD 4 0).toNat (b.drop 5) 288 (ag 6400)).2.1.getD 0 0).toNat 0 ((obR (b.getD 4 0).toNat (b.drop 5) 288 (ag 6400)).2.1.drop 1) (obR (b.getD 4 0).toNat (b.drop 5) 288 (ag 6400)).2.2.2).1≠0
  then ((roR ((obR (b.getD 4 0).toNat (b.drop 5) 288 (ag 6400)).2.1.getD 0 0).toNat 0 ((obR (b.getD 4 0).toNat (b.drop 5) 288 (ag 6400)).2.1.drop 1) (obR (b.getD 4 0).toNat (b.drop 5) 288 (ag 6400)).2.2.2).1,[])
 else if (roR ((obR (b.getD 4 0).toNat (b.drop 5) 288 (ag 6400)).2.1.getD 0 0).toNat 0 ((obR (b.getD 4 0).toNat (b.drop 5) 288 (ag 6400)).2.1.drop 1) (obR (b.getD 4 0).toNat (b.drop 5) 288 (ag 6400)).2.2.2).2.1≠[] then (2,[])
 else (0,(roR ((obR (b.getD 4 0).toNat (b.drop 5) 288 (ag 6400)).2.1.getD 0 0).toNat 0 ((obR (b.getD 4 0).toNat (b.drop 5) 288 (ag 6400)).2.1.drop 1) (obR (b.getD 4 0).toNat (b.drop 5) 288 (ag 6400)).2.2.2).2.2)
structure Oo (out:List Int) (a:Nat):Prop where
 aV:aB out
 len:out.length=6400
 kV:bj out
 lo:288<=a/\a<=6400
 ends:∀ k,1<=k->k<=40->aq out k≠0->(ai out k).2.1+(ai out k).2.2.1<=a
 none_:∀ i,i<8->isRoot (rowAt out i)=false
theorem Oo.start:Oo (ag 6400) 288:=by obtain⟨h1,h2,h3⟩:=dV (n:=6400) (by decide) (by decide);refine⟨h1,aj _,bW _,by omega,fun k k1 k2 ht=>absurd (h2 k) ht,fun i hi=>h3 i hi⟩
theorem uj{r:List Int}{a:Nat}{out:List Int}(hb:bj r)(h:VY r a out=0) :
  4+jX r<=r.length/\dC (r.getD 0 0)=true/\aq out (r.getD 0 0)=0/\0<=r.getD 1 0/\r.getD 1 0<=15/\1<=jX r/\jX r<=1000/\bz r 2 2=(jX r:Int)/\a+jX r<=6400:=by
 unfold VY at h;have ay:=hb.getD 1;by_cases h1:r.length=0
 ·rw [if_pos h1] at h;exact absurd h (by decide)
 rw [if_neg h1] at h;by_cases h2:dC (r.getD 0 0)=false
 ·rw [if_pos h2] at h;exact absurd h (by decide)
 rw [if_neg h2] at h;by_cases h3:aq out (r.getD 0 0)≠0
 ·rw [if_pos h3] at h;exact absurd h (by decide)
 rw [if_neg h3] at h;by_cases h4:r.length<=1
 ·rw [if_pos h4] at h;exact absurd h (by decide)
 rw [if_neg h4] at h;by_cases h5:15<r.getD 1 0
 ·rw [if_pos h5] at h;exact absurd h (by decide)
 rw [if_neg h5] at h;by_cases h6:r.length<4
 ·rw [if_pos h6] at h;exact absurd h (by decide)
 rw [if_neg h6] at h;by_cases h7:bz r 2 2<1\/1000<bz r 2 2
 ·rw [if_pos h7] at h;exact absurd h (by decide)
 rw [if_neg h7] at h;by_cases h8:r.length<4+jX r
 ·rw [if_pos h8] at h;exact absurd h (by decide)
 rw [if_neg h8] at h;by_cases h9:6400<a+jX r
 ·rw [if_pos h9] at h;exact absurd h (by decide)
 have e:bz r 2 2=(jX r:Int):=by unfold jX;omega
 refine⟨by omega,by simpa using h2,Decidable.not_not.1 h3,ay.1,by omega,by omega,by omega,e,by omega⟩
theorem Oo.next{r:List Int}{a:Nat}{out:List Int}(o:Oo out a)(hb:bj r)(h:VY r a out=0) :
  Oo (yD r a out) (a+jX r)/\aD (yD r a out) (r.getD 0 0)=(r.getD 1 0,(r.drop 4).take (jX r)) /\
  (∀ k,1<=k->k<=40->k≠r.getD 0 0->aD (yD r a out) k=aD out k/\aq (yD r a out) k=aq out k)/\aq (yD r a out) (r.getD 0 0)≠0:=by
 obtain⟨h1,h2,h3,h4,h5,h6,h7,h8,h9⟩:=uj hb h;have hh:=aF.1 h2;have BP:=o.lo;have hlen:=o.len;have he:di out (r.getD 0 0,(a:Int),bz r 2 2,r.getD 1 0)=0:=bS.2 ⟨o.aV.cW,h2,h4,h5,by dsimp only;omega,by dsimp only;omega,by dsimp only;omega,by dsimp only;omega⟩;have gI:∀ k,1<=k->k<=40->aq out k≠0->nZ (r.getD 0 0,(a:Int),bz r 2 2,r.getD 1 0) (ai out k)=false:=fun k k1 k2 hk=>pq.2 (.inl (o.ends k k1 k2 hk))
 obtain⟨pf,po,pt,pe,pl,ptl⟩:=qz o.aV he h3 gI;obtain⟨qo,qs⟩:=zT o.aV he h3 gI;dsimp only at po pt pe qo qs;have iq:((r.drop 4).take (jX r)).length=jX r:=by rw [zLt,zLd];omega
 have dc:a+((r.drop 4).take (jX r)).length<=(bP out (r.getD 0 0,(a:Int),bz r 2 2,r.getD 1 0)).length:=by rw [iq,pl];omega
 obtain⟨lf,ll,le,lo⟩:=nX pf BP.1 dc;have uR:ai (yD r a out) (r.getD 0 0)=(r.getD 0 0,(a:Int),bz r 2 2,r.getD 1 0):=(le _ hh.1 hh.2).2.trans pe;have Xh:aq (yD r a out) (r.getD 0 0)≠0:=by unfold yD;rw [(le _ hh.1 hh.2).1];exact pt
 have JH:∀ k,1<=k->k<=40->k≠r.getD 0 0->aq (yD r a out) k=aq out k/\ai (yD r a out) k=ai out k:=fun k k1 k2 hk=>⟨(le k k1 k2).1.trans (po k k1 k2 hk).1,(le k k1 k2).2.trans (po k k1 k2 hk).2⟩
 have XA:(yD r a out).length=6400:=ll.trans (pl.trans hlen);refine⟨⟨lf,XA,?_,by omega,fun k k1 k2 hk=>?_,fun i hi=>?_⟩,?_,fun k k1 k2 hk=>⟨?_,(JH k k1 k2 hk).1⟩,Xh⟩
 ·unfold yD;refine bN ?_ (fun z hz=>hb z (List.mem_of_mem_drop (List.mem_of_mem_take hz)));unfold bP;rw [if_pos he];exact bN o.kV (oE _)
 ·by_cases gO:k=r.getD 0 0
  ·subst gO;rw [uR];dsimp only;omega
  ·obtain⟨t1,t2⟩:=JH k k1 k2 gO;rw [t1] at hk;rw [t2];have:=o.ends k k1 k2 hk;omega
 ·have:rowAt (yD r a out) i=rowAt out i:=by
   apply bQ
   ·rw [aS (by omega),aS (by omega)]
   ·intro j hj;rw [aS (by omega)] at hj;rw [bH hj,bH hj];unfold yD;rw [aY dc (.inl (by omega))];exact ptl _ (by omega)
  rw [this];exact o.none_ i hi
 ·unfold aD gu;rw [if_neg Xh,uR];dsimp only
  congr 1
  rw [h8];unfold cP yD;rw [zTn,zTn];apply bQ
  ·rw [zLt,zLd,length_splice dc,pl,iq];omega
  ·intro j hj;rw [zLt,zLd,length_splice dc,pl] at hj;have e5:=bY dc (show j<((r.drop 4).take (jX r)).length by omega);have e6:((splice (bP out (r.getD 0 0,(a:Int),bz r 2 2,r.getD 1 0)) a ((r.drop 4).take (jX r))).drop a |>.take (jX r)).getD j 0=(splice (bP out (r.getD 0 0,(a:Int),bz r 2 2,r.getD 1 0)) a ((r.drop 4).take (jX r))).getD (a+j) 0:=by simp [List.getD,List.getElem?_drop,show j<jX r by omega]
   rw [e6,e5]
 ·have e1:=lo k k1 k2 (fun BQ=>by rw [(po k k1 k2 hk).1] at BQ;rw [(po k k1 k2 hk).2];left;exact o.ends k k1 k2 BQ);exact e1.trans (qo k k1 k2 hk)
structure Ros (out:List Int) (i:Nat):Prop where
 aV:aB out
 len:out.length=6400
 kV:bj out
 none_:∀ j,i<=j->j<8->isRoot (rowAt out j)=false
theorem zO{r out:List Int}(h:ZU r out=0):9<=r.length/\(aT (r.take 8)).2=0/\aU (ak out 8) (aT (r.take 8)).1=0/\aP out (r.getD 8 0)=0:=by
 unfold ZU at h;by_cases h1:r.length<8
 ·rw [if_pos h1] at h;exact absurd h (by decide)
 rw [if_neg h1] at h;by_cases h2:(aT (r.take 8)).2≠0
 ·rw [if_pos h2] at h;exact absurd h (by decide)
 rw [if_neg h2] at h;by_cases h3:aU (ak out 8) (aT (r.take 8)).1≠0
 ·rw [if_pos h3] at h;exact absurd h (by decide)
 rw [if_neg h3] at h;by_cases h4:r.length<9
 ·rw [if_pos h4] at h;exact absurd h (by decide)
 rw [if_neg h4] at h;exact⟨by omega,Decidable.not_not.1 h2,Decidable.not_not.1 h3,h⟩
theorem Ros.next{r out:List Int}{i:Nat}(o:Ros out i)(hi:i<8)(hb:bj r)(h:ZU r out=0) :
  Ros (roO r i out) (i+1)/\ak (roO r i out) 8=ak out 8++[((aT (r.take 8)).1,r.getD 8 0)]/\∀ k,1<=k->k<=40->aD (roO r i out) k=aD out k/\aP (roO r i out) k=aP out k:=by
 obtain⟨h1,h2,h3,h4⟩:=zO h;obtain⟨_,dy,_⟩:=iM (fun z hz=>hb z (List.mem_of_mem_take hz)) h2;unfold roO;generalize (aT (r.take 8)).1=s at *;generalize r.getD 8 0=g at *;have hnB:=bZ.2 dy;obtain⟨q1,q2,q3⟩:=aJ.1 h4;have hg:=aF.1 q2;have Na:¬ gv (s,g)=true:=fun hx=>by have:=(eX.1 hx).2;dsimp only at this;omega
 have F6:eF (s,g)=0:=by unfold eF;rw [if_neg Na,if_neg (by rw [q2];simp),if_pos hnB]
 have hpr:BI out i (s,g)=0:=gB.2 ⟨o.aV.cW,by omega,by omega,F6⟩;have e:je out i (s,g)=splice out (200+11 * i) (fX (s,g)):=by unfold je;rw [if_pos hpr,zTn]
 have bn:Row1 out (je out i (s,g)) i (fX (s,g)):=by rw [e];exact mV o.aV.len.1 hi (kC F6)
 have pM:=(Dy o.aV s).1 h3;obtain⟨f,_⟩:=bn.wU o.aV hnB h4 (fun j hj _ hr=>zhi o.aV pM j hj hr);obtain⟨hrp,hrn⟩:=C0 hpr (fun j hj hj8=>o.none_ j hj hj8);rw [if_neg Na] at hrp;have tl:=o.aV.cW;unfold roots at hrp;rw [if_pos f.cW,if_pos tl] at hrp;refine⟨⟨f,bn.len.trans o.len,?_,hrn⟩,hrp,fun k k1 k2=>?_⟩
 ·rw [e];exact bN o.kV (vi _)
 ·have:=bn.tc o.aV k k1 k2;exact⟨this.1,this.2.1⟩
def rX(L:List Int)(e:(Int×Int×Int×Int)):List Int:=[e.1,e.2.2.2,e.2.2.1 % 256,e.2.2.1 / 256]++(aD L e.1).2
def pF(r:(ByteArray×Int)):List Int:=bf r.1++[r.2]
def dnB(E:List (Int×Int×Int×Int))(R:List (ByteArray×Int))(L:List Int):List Int:=[79,76,68,49,(E.length:Int)]++(E.flatMap (rX L)++([(R.length:Int)]++R.flatMap pF))
def Ut(L:List Int):List Int:=dnB (entsK L 40) (ak L 8) L
theorem zdo{b rest o1 o2:List Int}{n m a1:Nat}(hd:Ck b=true)(h5:5<=b.length)(hn:b.getD 4 0=n)(zlc:n<=40)(tG:obR n (b.drop 5) 288 (ag 6400)=(0,[(m:Int)]++rest,a1,o1))(hm8:m<=8)(DU:roR m 0 rest o1=(0,[],o2)):Ui b=(0,o2):=by unfold Ui;rw [hd,if_neg (by simp),hn,if_neg (by omega),zTn,tG];dsimp only;rw [if_neg (by simp),if_neg (by simp;omega)];have e1:([(m:Int)]++rest).getD 0 0=(m:Int):=rfl;have e2:([(m:Int)]++rest).drop 1=rest:=rfl;rw [e1,e2,zTn,DU];dsimp only;rw [if_neg (by simp),if_neg (by simp)]
theorem YE(E:List (Int×Int×Int×Int))(R:List (ByteArray×Int))(L:List Int):Ck (dnB E R L)=true/\5<=(dnB E R L).length/\(dnB E R L).getD 4 0=(E.length:Int)/\(dnB E R L).drop 5=E.flatMap (rX L)++([(R.length:Int)]++R.flatMap pF):=by refine⟨by unfold Ck dnB;simp,by unfold dnB;simp,rfl,rfl⟩
theorem rW{L:List Int}(hf:aB L){e:(Int×Int×Int×Int)}(he:e∈entsK L 40)(rest:List Int) :
  (rX L e++rest).getD 0 0=e.1/\(rX L e++rest).getD 1 0=e.2.2.2/\bz (rX L e++rest) 2 2=e.2.2.1/\jX (rX L e++rest)=e.2.2.1.toNat/\(aD L e.1).2.length=e.2.2.1.toNat/\(rX L e++rest).drop (4+jX (rX L e++rest))=rest/\((rX L e++rest).drop 4).take (jX (rX L e++rest))=(aD L e.1).2/\(rX L e++rest).length=4+e.2.2.1.toNat+rest.length/\(aD L e.1).1=e.2.2.2:=by
 obtain⟨ee,e1,e2,et,e3,e4,e5,e6⟩:=cR hf he;have tG:aD L e.1=(e.2.2.2,cP L e.2.1 e.2.2.1):=by unfold aD gu;rw [if_neg et,<- ee]
 have Cg:(aD L e.1).2.length=e.2.2.1.toNat:=by
  rw [tG]
  show(cP L e.2.1 e.2.2.1).length=_
  unfold cP;rw [zLt,zLd];omega
 have PC:rX L e++rest=e.1 :: e.2.2.2 :: (e.2.2.1 % 256) :: (e.2.2.1 / 256) :: ((aD L e.1).2++rest):=by unfold rX;simp
 have hv:bz (rX L e++rest) 2 2=e.2.2.1:=by
  rw [dI _ _ (by rw [PC];simp),PC]
  show e.2.2.1 % 256+256 * (e.2.2.1 / 256)=e.2.2.1
  omega
 have hN:jX (rX L e++rest)=e.2.2.1.toNat:=by unfold jX;rw [hv]
 refine⟨by rw [PC];rfl,by rw [PC];rfl,hv,hN,Cg,?_,?_,?_,by rw [tG]⟩
 ·rw [hN,PC,<- Cg,Nat.add_comm 4];simp
 ·rw [hN,PC,<- Cg];simp
 ·rw [PC];simp only [zLc,zLa];omega
theorem P9{L:List Int}(hf:aB L)(hb:bj L){e:(Int×Int×Int×Int)}(he:e∈entsK L 40):bj (rX L e):=by
 obtain⟨ee,e1,e2,et,e3,e4,e5,e6⟩:=cR hf he;have ht:=hf.jB e1 e2 et;rw [<- ee] at ht;unfold rX;intro z hz;rcases zMa hz with hz | hz
 ·rcases zMc hz with rfl | hz
  ·omega
  rcases zMc hz with rfl | hz
  ·omega
  rcases zMc hz with rfl | hz
  ·omega
  rw [zMs hz];omega
 ·unfold aD gu cP at hz;split at hz
  ·cases hz
  ·exact hb z (List.mem_of_mem_drop (List.mem_of_mem_take hz))
theorem OO{L:List Int}(hf:aB L)(hb:bj L):∀ (E:List (Int×Int×Int×Int)) (a:Nat) (out rest:List Int),Oo out a->(∀ e∈E,e∈entsK L 40)->(E.map (·.1)).Nodup->(∀ e∈E,aq out e.1=0)->bj rest->(a:Int)+dr E<=6400 ->∃ out' a',obR E.length (E.flatMap (rX L)++rest) a out=(0,rest,a',out')/\Oo out' a'/\(a':Int)=a+dr E/\(∀ e∈E,aD out' e.1=aD L e.1/\aq out' e.1≠0)/\∀ k,1<=k->k<=40->(∀ e∈E,e.1≠k)->aD out' k=aD out k/\aq out' k=aq out k
 | [],a,out,rest,o,_,_,_,_,_=>⟨out,a,rfl,o,by simp [dr],fun e he=>(by cases he),fun k _ _ _=>⟨rfl,rfl⟩⟩
 | e :: E,a,out,rest,o,eQ,sC,gI,AO,zkU=>by
  have he:=eQ e (by simp);have JD:bj (E.flatMap (rX L)++rest):=fun z hz=>by
   rcases zMa hz with hz | hz
   ·obtain⟨x,hx,hzx⟩:=List.mem_flatMap.1 hz;exact P9 hf hb (eQ x (by simp [hx])) z hzx
   ·exact AO z hz
  obtain⟨d1,d2,d3,d4,d5,d6,d7,d8,d9⟩:=rW hf he (E.flatMap (rX L)++rest);obtain⟨ee,e1,e2,et,e3,e4,e5,e6⟩:=cR hf he;have ht:=hf.jB e1 e2 et;rw [<- ee] at ht;have hsE:dr (e :: E)=e.2.2.1+dr E:=rfl;have jf:0<=dr E:=by
   have:∀ F:List (Int×Int×Int×Int),(∀ x∈F,x∈entsK L 40)->0<=dr F:=by
    intro F;induction F with
    | nil=>intro _;exact Int.le_refl _
    | cons x F ih =>
     intro h;have h1:=(cR hf (h x (by simp))).2.2.2.2.2.1;have h2:=ih (fun y hy=>h y (by simp [hy]))
     show 0<=x.2.2.1+dr F
     omega
   exact this E (fun x hx=>eQ x (by simp [hx]))
  rw [List.flatMap_cons,List.append_assoc];have fS:bj (rX L e++(E.flatMap (rX L)++rest)):=fun z hz=>by
   rcases zMa hz with hz | hz
   ·exact P9 hf hb he z hz
   ·exact JD z hz
  have h0:VY (rX L e++(E.flatMap (rX L)++rest)) a out=0:=by unfold VY;rw [d1,d2,d3,d4,d8,if_neg (by omega),if_neg (by rw [aF.2 ⟨e1,e2⟩];simp),if_neg (fun h=>h (gI e (by simp))),if_neg (by omega),if_neg (by omega),if_neg (by omega),if_neg (by omega),if_neg (by omega),if_neg (by omega)]
  obtain⟨o2,oo,ot,og⟩:=o.next fS h0;rw [zLc];unfold obR;rw [if_neg (fun h=>h h0),d6];rw [d1] at oo ot og;rw [d2,d7] at oo;rw [d4] at o2;rw [List.map_cons,List.nodup_cons] at sC;have hoe:∀ x∈E,x.1≠e.1:=fun x hx h=>sC.1 (by rw [<- h];exact List.mem_map.2 ⟨x,hx,rfl⟩)
  obtain⟨out',a',r1,r2,r3,r4,r5⟩:=OO hf hb E (a+e.2.2.1.toNat) (yD (rX L e++(E.flatMap (rX L)++rest)) a out) rest o2 (fun x hx=>eQ x (by simp [hx])) sC.2 (fun x hx=>by obtain⟨_,x1,x2,_⟩:=cR hf (eQ x (by simp [hx]));rw [(ot x.1 x1 x2 (hoe x hx)).2];exact gI x (by simp [hx])) AO (by omega);rw [d4];refine⟨out',a',r1,r2,by omega,fun x hx=>?_,fun k k1 k2 hk=>?_⟩
  ·rcases zMc hx with rfl | hx
   ·obtain⟨p1,p2⟩:=r5 x.1 e1 e2 hoe;refine⟨p1.trans (oo.trans ?_),by rw [p2];exact og⟩;exact Prod.ext d9.symm rfl
   ·exact r4 x hx
  ·obtain⟨p1,p2⟩:=r5 k k1 k2 (fun x hx=>hk x (by simp [hx]));obtain⟨p3,p4⟩:=ot k k1 k2 (fun h=>hk e (by simp) h.symm);exact⟨p1.trans p3,p2.trans p4⟩
theorem Hl:∀ (l:List (ByteArray×Int)) (i:Nat) (out:List Int),Ros out i->i+l.length<=8->(∀ r∈l,gA r.1/\aP out r.2=0)->vw (ak out 8++l) ->∃ out',roR l.length i (l.flatMap pF) out=(0,[],out')/\Ros out' (i+l.length)/\ak out' 8=ak out 8++l/\∀ k,1<=k->k<=40->aD out' k=aD out k
 | [],i,out,o,_,_,_=>⟨out,rfl,o,by simp,fun k _ _=>rfl⟩
 | x :: l,i,out,o,hi,dy,rS=>by
  obtain⟨GK,k7⟩:=dy x (by simp);rw [zLc] at hi;have PI:=bD x.1 GK.2.1;have PC:(x :: l).flatMap pF=bf x.1++(x.2 :: l.flatMap pF):=by rw [List.flatMap_cons];unfold pF;simp
  have ht:((x :: l).flatMap pF).take 8=bf x.1:=by rw [PC,List.take_append_of_le_length (by omega),List.take_of_length_le (by omega)]
  have hg:((x :: l).flatMap pF).getD 8 0=x.2:=by rw [PC,List.getD,List.getElem?_append_right (by omega),PI];rfl
  have hd:((x :: l).flatMap pF).drop 9=l.flatMap pF:=by rw [PC,List.drop_append,List.drop_of_length_le (by omega),PI];rfl
  have hlen:9<=((x :: l).flatMap pF).length:=by rw [PC,zLa,PI,zLc];omega
  have DU:=ub GK;have wH:aU (ak out 8) x.1=0:=by unfold aU;have:(ak out 8).find? (fun r=>r.1 == x.1)=none:=List.find?_eq_none.2 (fun r hr h=>by have sC:=rS.nodup;rw [List.map_append,List.nodup_append] at sC;exact sC.2.2 r.1 (List.mem_map.2 ⟨r,hr,rfl⟩) x.1 (by simp) (fF.1 h));rw [this];rfl
  have h0:ZU ((x :: l).flatMap pF) out=0:=by unfold ZU;rw [ht,DU,hg,if_neg (by omega),if_neg (by simp),if_neg (fun h=>h wH),if_neg (by omega)];exact k7
  have K7:∀ r∈(x :: l),1<=r.2/\r.2<=40:=fun r hr=>rS.pos r (List.mem_append.2 (.inr hr))
  have fS:bj ((x :: l).flatMap pF):=fun z hz=>by
   obtain⟨r,hr,hzr⟩:=List.mem_flatMap.1 hz;unfold pF at hzr;rcases zMa hzr with hz | hz
   ·exact jc _ z hz
   ·rw [zMs hz];have:=K7 r hr;omega
  obtain⟨o2,vB,tG⟩:=o.next (by omega) fS h0;rw [ht,DU,hg] at vB;obtain⟨out',r1,r2,r3,r4⟩:=Hl l (i+1) (roO ((x :: l).flatMap pF) i out) o2 (by omega) (fun r hr=>by obtain⟨g1,g2⟩:=dy r (by simp [hr]);have hb:=K7 r (by simp [hr]);exact⟨g1,by rw [(tG r.2 hb.1 hb.2).2];exact g2⟩) (by rw [vB,List.append_assoc];exact rS);rw [zLc];unfold roR;rw [if_neg (fun h=>h h0),hd];refine⟨out',r1,by rw [show i+(l.length+1)=i+1+l.length by omega];exact r2,?_,fun k k1 k2=>(r4 k k1 k2).trans (tG k k1 k2).1⟩;rw [r3,vB,List.append_assoc];rfl
theorem up_down{L:List Int}(hf:aB L)(hb:bj L):∃ out,Ui (Ut L)=(0,out)/\aB out/\bj out/\out.length=6400/\(∀ k,1<=k->k<=40->aD out k=aD L k)/\ak out 8=ak L 8:=by
 have zlf:=b8 L 40;have hr8:=eA L 8;have rS:=dN hf.ok;have zkU:dr (entsK L 40)<=6112:=by have h1:=j3 (entsK L 40);have h2:=zq hf;have hg:=fh hf;have hl:=hf.len;have h3:=hg.kB.sum hg (by omega);have h4:=(wu (fun r hr=>(hg.kB.ts hg (by omega) r hr).2.1)).1;have h5:dG (cU L)=dr (entsK L 40):=h1;omega
 have hbR:bj ([((ak L 8).length:Int)]++(ak L 8).flatMap pF):=fun z hz=>by
  rcases zMa hz with hz | hz
  ·rw [zMs hz];omega
  ·obtain⟨r,hr,hzr⟩:=List.mem_flatMap.1 hz;unfold pF at hzr;rcases zMa hzr with hz | hz
   ·exact jc _ z hz
   ·rw [zMs hz];have:=rS.pos r hr;omega
 have sC:((entsK L 40).map (·.1)).Nodup:=by have h1:=(mx (L:=L) 40).1;generalize entsK L 40=E at h1 ⊢;exact h1.imp (fun h e=>by omega)
 obtain⟨z1,z2,z3⟩:=dV (n:=6400) (by decide) (by decide);obtain⟨o1,a1,p1,p2,p3,p4,p5⟩:=OO hf hb (entsK L 40) 288 (ag 6400) ([((ak L 8).length:Int)]++(ak L 8).flatMap pF) Oo.start (fun e he=>he) sC (fun e _=>z2 e.1) hbR (by omega);have zk3:∀ k,1<=k->k<=40->aD o1 k=aD L k:=fun k k1 k2=>by
  by_cases ht:aq L k=0
  ·rw [dF ht,(p5 k k1 k2 (fun e he h=>?_)).1,dF (z2 k)];have:=(cR hf he).2.2.2.1;rw [h] at this;exact this ht
  ·exact(p4 _ (u0 k1 k2 ht)).1
 have DU:ak o1 8=[]:=by rw [gS (k:=0) 8 (by decide) (fun j _ hj=>p2.none_ j hj)];rfl
 have JB:∀ r∈ak L 8,gA r.1/\aP o1 r.2=0:=fun r hr=>by
  obtain⟨i,hi,hq,rfl⟩:=cy.1 hr;obtain⟨g1,g2,g3⟩:=mg hf hi hq;have hZ:=fu.1 ((eB.1 (bV.1 hf.ok).2).1 i hi hq);have hrb:bj ((rowAt L i).take 8):=fun z hz=>hb z (List.mem_of_mem_drop (List.mem_of_mem_take (List.mem_of_mem_take hz)))
  refine⟨(iM hrb hZ.1).2.1,aJ.2 ⟨p2.aV.cW,aF.2 ⟨g1,g2⟩,(p4 _ (u0 g1 g2 g3)).2⟩⟩
 obtain⟨o2,q1,q2,q3,q4⟩:=Hl (ak L 8) 0 o1 ⟨p2.aV,p2.len,p2.kV,fun j _ hj=>p2.none_ j hj⟩ (by omega) JB (by rw [DU];exact rS);refine⟨o2,?_,q2.aV,q2.kV,q2.len,fun k k1 k2=>(q4 k k1 k2).trans (zk3 k k1 k2),by rw [q3,DU];rfl⟩;unfold Ut;obtain⟨d1,d2,d3,d4⟩:=YE (entsK L 40) (ak L 8) L;generalize entsK L 40=E at *;generalize ak L 8=R at *;exact zdo d1 d2 d3 zlf (by rw [d4];exact p1) hr8 q1
section
variable {b:List Int}
theorem sZ{c:List Int}(hf:aB b)(hc:aB c):nP b c=0:=by unfold nP;rw [if_neg (by rw [hf.cW];simp),if_neg (by rw [hc.cW];simp),if_pos ⟨hf.ok,hc.ok⟩]
theorem sY(hf:aB b):lW (ak b 8) (ak b 8)=true:=(vP (dN hf.ok) (dN hf.ok)).2 ⟨rfl,fun r hr=>hr⟩
end
end Go.Proofs.YtcimhnnendlblaaGreat
