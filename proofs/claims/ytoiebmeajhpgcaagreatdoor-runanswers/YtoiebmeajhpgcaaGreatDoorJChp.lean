import Derived.Test.YtoiebmeajhpgcaaGreatDoorJImp
set_option maxRecDepth 100000
set_option maxHeartbeats 16000000
set_option linter.all false
namespace Go.Proofs.YtoiebmeajhpgcaaGreatDoor
variable {b c r:LI}{h n size:Int}{f:I2}{i x:Nat}{e:(Int×I3)}{s l:List (Int×Int)}
section
open Go.RowKit
def okE(b:LI)(h:Int):Bool:=decide (aw b h≠0)&&decide (dJ b (ao b h)=0)
def uz(e f:(Int×I3)):Bool:=decide (e.2.1<f.2.1+f.2.2.1)&&decide (f.2.1<e.2.1+e.2.2.1)
def lapK(b:LI)(h:Int):Nat->Bool
 | 0=>false
 | k+1=>lapK b h k || (okE b ((k:Int)+1)&&uz (ao b h) (ao b ((k:Int)+1)))
theorem sc:∀ {k:Nat},lapK b h k=true ↔ ∃j:Nat,j<k/\okE b ((j:Int)+1)=true/\uz (ao b h) (ao b ((j:Int)+1))=true
 | 0=>by simp[lapK]
 | k+1=>by unfold lapK;rw[Bool.or_eq_true,qAa,sc];exact qA
def sQ(b:LI)(h:Int):Int:=if aw b h=0 then 0 else if dJ b (ao b h)≠0 then 3 else if lapK b h (h-1).toNat=true then 2 else 1
def gg(b:LI)(h:Int):List (I2) :=if sQ b h=0 then (if (ao b h).2.1=0/\(ao b h).2.2.1=0 then []else [(3,h)])else if sQ b h=3 then [(1,h)]else if sQ b h=2 then [(2,h)]else []
def AW(b:LI):Nat->List (I2)
 | 0=>[]
 | k+1=>AW b k++gg b ((k:Int)+1)
def ua(b:LI)(i:Nat):Bool :=decide ((bI ((rowAt b i).take 8)).2≠0) || (decide ((rowAt b i).getD 8 0≠0) || (decide ((rowAt b i).getD 9 0≠0) || (!eC ((rowAt b i).getD 10 0) || decide (sQ b ((rowAt b i).getD 10 0)≠1))))
def nameAt(b:LI)(i:Nat):BA:=(bI ((rowAt b i).take 8)).1
def eM(b:LI)(i:Nat)(ns:List BA):Bool:=isRoot (rowAt b i)&&(!ua b i && !ns.contains (nameAt b i))
def dD(b:LI):Nat->List BA
 | 0=>[]
 | k+1=>dD b k++if eM b k (dD b k)=true then [nameAt b k]else []
def fa(b:LI)(i:Nat):List (I2) :=if isRoot (rowAt b i)=false then []else if ua b i=true then [(4,i)]else if (dD b i).contains (nameAt b i)=true then [(5,i)]else []
def AS(b:LI):Nat->List (I2)
 | 0=>[]
 | k+1=>AS b k++fa b k
def da(b:LI):List (I2):=AW b 40++AS b 8
theorem nu:∀ {k:Nat},f∈AW b k ↔ ∃j:Nat,j<k/\f∈gg b ((j:Int)+1)
 | 0=>by simp[AW]
 | k+1=>by unfold AW;rw[List.mem_append,nu];exact qA
theorem nr:∀ {k:Nat},f∈AS b k ↔ ∃j:Nat,j<k/\f∈fa b j
 | 0=>by simp[AS]
 | k+1=>by unfold AS;rw[List.mem_append,nr];exact qA
theorem Uj b h:(gg b h).length<=1:=by grind[gg]
theorem S5 b i:(fa b i).length<=1:=by grind[fa]
theorem Ai b k:(AW b k).length<=k:=by
 induction k with
 | zero=>exact zNr
 | succ k ih=>unfold AW;rw[zLa];have:=Uj b ((k:Int)+1);omega
theorem zD b k:(AS b k).length<=k:=by
 induction k with
 | zero=>exact zNr
 | succ k ih=>unfold AS;rw[zLa];have:=S5 b k;omega
theorem rL n j:(af n).getD j 0=0:=by grind[af]
section
variable {b:LI}
theorem wj(h1:1<=h)(h2:h<=40)(hf:f∈gg b h):f∈da b:=by
 refine List.mem_append.2 (.inl (nu.2 ⟨(h-1).toNat,Sg,?_⟩))
 grind
theorem wh(hi:i<8)(hf:f∈fa b i):f∈da b:=by grind[fa,da,nr]
theorem yP(hlen:c.length=b.length)(hb:288<=b.length)(h1:1<=h)(h2:h<=40)(hs:∀j,j<5->c.getD (bT h+j) 0=b.getD (bT h+j) 0):aw c h=aw b h/\ao c h=ao b h:=by
 have hp:=du h1 h2;have e0:=hs 0 Sg;have ht:aw c h=aw b h:=e0;unfold ao;rw[ht,eY _ _ Sg,eY _ _ Sg,eY b _ Sg,eY b _ Sg];have e1:=hs 1 Sg;have e2:=hs 2 Sg;have e3:=hs 3 Sg;have e4:=hs 4 Sg
 grind
theorem kg(hlen:c.length=b.length):dJ c e=dJ b e:=by unfold dJ;rw[hlen]
theorem DM b h:sQ b h=0\/sQ b h=1\/sQ b h=2\/sQ b h=3:=by grind[sQ]
theorem tl:sQ b h=0 ↔ aw b h=0:=by grind[sQ,aw]
theorem ff:gg b h=[] ↔ (sQ b h=1\/(aw b h=0/\(ao b h).2.1=0/\(ao b h).2.2.1=0)):=by grind[gg,sQ,aw,ao]
theorem lM:sQ b h=1 ↔ aw b h≠0/\dJ b (ao b h)=0/\lapK b h (h-1).toNat=false:=by
 unfold sQ aw dJ ao
 grind
theorem As(hb:288<=c.length)(h1:1<=h)(h2:h<=40)(hz:∀j,j<5->c.getD (bT h+j) 0=0):aw c h=0/\(ao c h).2.1=0/\(ao c h).2.2.1=0:=by
 have e0:=hz 0 Sg;have e1:=hz 1 Sg;have e2:=hz 2 Sg;have e3:=hz 3 Sg;have e4:=hz 4 Sg
 grind[bT,aw,ao,dm,du,eY]
theorem km:ua b i=false ↔ (bI ((rowAt b i).take 8)).2=0/\(rowAt b i).getD 8 0=0/\(rowAt b i).getD 9 0=0/\eC ((rowAt b i).getD 10 0)=true/\sQ b ((rowAt b i).getD 10 0)=1:=by
 unfold ua bI rowAt eC
 grind
theorem eG:fa b i=[] ↔ isRoot (rowAt b i)=false\/eM b i (dD b i)=true:=by grind[fa,isRoot,rowAt,eM,dD,ua,nameAt]
theorem IB(hb:288<=b.length)(hi:i<8)(hz:∀j,j<11->b.getD (200+11*i+j) 0=0):isRoot (rowAt b i)=false:=by
 unfold isRoot;rw[qBz];intro x hx;obtain⟨j,hj,rfl⟩:=qAm hx;have hj':=hj;rw[aY Sg]at hj'
 grind[isRoot,rowAt]
end
def ju(b:LI)(x n:Int):LI:=(b.drop x.toNat).take n.toNat
def nQ(b:LI)(e:(Int×I3)):Int×LI:=(e.2.2.2,ju b e.2.1 e.2.2.1)
def bw(b:LI)(h:Int):Int×LI:=if aw b h=0 then (-1,[])else nQ b (ao b h)
theorem mM(ht:aw b h=0):bw b h=(-1,[]):=by grind[aw,bw]
theorem ng{a b:BA}:(a == b)=true ↔ a=b:=by
 cases a with|mk x=>cases b with|mk y =>
 constructor
 ·intro h;have h':(x == y)=true:=h;rw[eq_of_beq h']
 ·intro h
  injection h with h
  subst h;exact beq_self_eq_true x
theorem B4:LawfulBEq BA:={ eq_of_beq:=fun h=>ng.1 h,rfl:=ng.2 rfl }
def bP(l:List (BA×Int))(s:BA):Int:=((l.find? (fun r=>r.1 == s)).map (·.2)).getD 0
structure Xe (l:List (BA×Int)):Prop where
 nodup:(l.map (·.1)).Nodup
 pos:∀r∈l,1<=r.2/\r.2<=40
theorem CL(hf:da b=[]):Xe (aE b 8):=by
 have hn:∀i,i<8->fa b i=[]:=fun i hi=>by
  refine qAM fun h=>?_
  obtain⟨f,hm⟩:=qCm _ h;have:=wh hi hm;rw[hf]at this;cases this
 have hk:∀k,k<=8->dD b k=(aE b k).map (·.1)/\(dD b k).Nodup/\∀r∈aE b k,1<=r.2/\r.2<=40:=by
  intro k;induction k with
  | zero=>intro _;exact⟨rfl,List.nodup_nil,fun r hr=>by cases hr⟩
  | succ k ih =>
   intro hk;obtain⟨h1,h2,h3⟩:=ih Sg;rcases eG.1 (hn k Sg)with h|h
   ·grind[da,aE,fa,dD,eM,nameAt,rootOf,rowAt]
   ·have e1:dD b (k+1)=dD b k++[nameAt b k]:=by
     show dD b k++_=_
     rw[zy h]
    have Rp:=h;unfold eM at Rp;rw[qAa,qAa]at Rp;obtain⟨f1,f2,f3⟩:=Rp;have e2:aE b (k+1)=aE b k++[rootOf (rowAt b k)]:=by
     show aE b k++_=_
     rw[f1,zy rfl]
    have f2':ua b k=false:=by simpa using f2
    have f3':nameAt b k ∉ dD b k:=by
     intro hm;haveI:=B4
     rw[qDD.2 hm]at f3;cases f3
    obtain⟨_,_,_,g4,_⟩:=km.1 f2';have g4':=aN.1 g4;refine⟨?_,?_,?_⟩
    ·rw[e1,e2,qAc,h1];rfl
    ·grind
    ·rw[e2];intro r hr;rcases zMa hr with hr|hr
     ·exact h3 r hr
     ·rw[zMs hr];exact g4'
 obtain⟨h1,h2,h3⟩:=hk 8 zNr;exact⟨by rw[<-h1];exact h2,h3⟩
theorem E4{m}(hm:Xe m){s}(hh:1<=h):bP m s=h ↔ (s,h)∈m:=by
 unfold bP;constructor
 ·intro e;cases hf:m.find? (fun r=>r.1 == s)with
  | none=>rw[hf]at e;simp at e;omega
  | some r =>rw[hf]at e;have h1:=qBg hf;have h2:=qCo hf;have e':=e;have my:=ng.1 h2;have:r=(s,h):=Prod.ext my e';rw[<-this];exact h1
 ·intro o6;cases hf:m.find? (fun r=>r.1 == s)with
  | none =>exact absurd (ng.2 rfl) (qCk.1 hf (s,h) o6)
  | some r =>
   have h1:=qBg hf;have h2:=ng.1 (qCo (p:=fun(r:(BA×Int))=>r.1 == s) hf);have:r=(s,h):=by
    have ZC:∀ (l:List (BA×Int)),(l.map (·.1)).Nodup->∀x∈l,∀y∈l,x.1=y.1->x=y:=by
     intro l;induction l with
     | nil=>intro _ x hx;cases hx
     | cons z l ih =>
      intro hn x hx y hy e;rw[qAn,qCQ]at hn;rcases zMc hx with hx|hx <;> rcases zMc hy with hy|hy
      ·rw[hx,hy]
      ·grind
      ·grind
      ·exact ih hn.2 x hx y hy e
    exact ZC m hm.nodup r h1 (s,h) o6 h2
   rw[this];rfl
theorem dy:da b=[] ↔ (∀h,1<=h->h<=40->gg b h=[])/\∀i,i<8->fa b i=[]:=by
 constructor
 ·intro hf;refine⟨fun h h1 h2=>?_,fun i hi=>?_⟩
  ·refine qBm.2 (fun f hm=>?_);have:=wj h1 h2 hm;rw[hf]at this;cases this
  ·refine qBm.2 (fun f hm=>?_);have:=wh hi hm;rw[hf]at this;cases this
 ·rintro ⟨h1,h2⟩;refine qBm.2 (fun f hf=>?_);unfold da at hf;rcases zMa hf with hf | hf
  ·obtain⟨j,hj,hf⟩:=nu.1 hf;rw[h1 _ Sg Sg]at hf;cases hf
  ·obtain⟨j,hj,hf⟩:=nr.1 hf;rw[h2 j hj]at hf;cases hf
section
variable {b c:LI}
theorem Vh(hlen:c.length=b.length)(hs:∀h,1<=h->h<=40->aw c h=aw b h/\ao c h=ao b h):∀h,1<=h->h<=40->sQ c h=sQ b h:=by
 intro h h1 h2;have jB:∀j:Nat,j<40->okE c ((j:Int)+1)=okE b ((j:Int)+1):=fun j hj=>by obtain⟨e1,e2⟩:=hs ((j:Int)+1) Sg Sg;unfold okE;rw[e1,e2,kg hlen]
 have ZA:∀k:Nat,k<=40->lapK c h k=lapK b h k:=by
  intro k;induction k with
  | zero=>intro _;rfl
  | succ k ih =>intro hk;unfold lapK;rw[ih Sg,jB k Sg,(hs h h1 h2).2,(hs ((k:Int)+1) Sg Sg).2]
 unfold sQ;rw[(hs h h1 h2).1,(hs h h1 h2).2,kg hlen,ZA _ Sg]
theorem BM(hlen:c.length=b.length)(hb:288<=b.length)(hs:∀j,j<288->c.getD j 0=b.getD j 0):∀h,1<=h->h<=40->aw c h=aw b h/\ao c h=ao b h:=fun h h1 h2 =>yP hlen hb h1 h2 (fun j hj=>hs _ (by have:=du h1 h2;omega))
theorem Jq(hlen:c.length=b.length)(hb:288<=b.length)(hs:∀j,j<288->c.getD j 0=b.getD j 0):∀i,i<8->rowAt c i=rowAt b i:=fun i hi=>by
 apply cr
 ·exact zii
 ·intro j hj;rw[aY Sg]at hj;rw[cw hj,cw hj];exact hs _ Sg
theorem tt(bK:∀i,i<8->rowAt c i=rowAt b i)(hw:∀i,i<8->eC ((rowAt b i).getD 10 0)=true->isRoot (rowAt b i)=true->sQ b ((rowAt b i).getD 10 0)=1->sQ c ((rowAt b i).getD 10 0)=1)(hf:∀i,i<8->fa b i=[]) :
  ∀k,k<=8->dD c k=dD b k/\∀i,i<k->fa c i=[]:=by
 intro k;induction k with
 | zero=>intro _;exact⟨by simp only[dD],fun i hi=>absurd hi (qAX i)⟩
 | succ k ih =>
  intro hk;obtain⟨ih1,ih2⟩:=ih Sg;have hr:=bK k Sg;have xV:nameAt c k=nameAt b k:=by unfold nameAt;rw[hr]
  have key:eM c k (dD b k)=eM b k (dD b k)/\fa c k=[]:=by
   rcases eG.1 (hf k Sg)with h0|h0
   ·have h1:isRoot (rowAt c k)=false:=by rw[hr];exact h0
    have e1:eM c k (dD b k)=false:=by unfold eM;rw[h1];rfl
    have e2:eM b k (dD b k)=false:=by unfold eM;rw[h0];rfl
    exact⟨by rw[e1,e2],eG.2 (.inl h1)⟩
   ·have C5:=h0;unfold eM at C5;rw[qAa,qAa,qCs,qCs]at C5;have eQ:ua c k=false:=by obtain⟨q1,q2,q3,q4,q5⟩:=km.1 C5.2.1;refine km.2 ?_;rw[hr];exact⟨q1,q2,q3,q4,hw k Sg q4 C5.1 q5⟩
    have e1:eM c k (dD b k)=true:=by unfold eM;rw[hr,eQ,xV,C5.1,C5.2.2];rfl
    exact⟨by rw[e1,h0],eG.2 (.inr (by rw[ih1];exact e1))⟩
  refine⟨?_,fun i hi=>?_⟩
  ·simp only[dD];rw[ih1,key.1,xV]
  ·by_cases e:i=k
   ·subst e;exact key.2
   ·exact ih2 i Sg
theorem ZI(hlen:c.length=b.length)(hb:288<=b.length)(hs:∀j,j<288->c.getD j 0=b.getD j 0)(hf:da b=[]):da c=[]:=by
 obtain⟨f1,f2⟩:=dy.1 hf;have he:=BM hlen hb hs;have hwh:=Vh hlen he;refine dy.2 ⟨fun h h1 h2=>?_,fun i hi=>?_⟩
 ·rw[ff,hwh h h1 h2,(he h h1 h2).1,(he h h1 h2).2];exact ff.1 (f1 h h1 h2)
 ·refine(tt (Jq hlen hb hs) (fun j hj hq _ h1=>?_) f2 8 Sg).2 i hi;have hh:=aN.1 hq;rw[hwh _ hh.1 hh.2];exact h1
end
section
variable {b:LI}
structure aD (b:LI):Prop where
 len:288<=b.length/\b.length<=6400
 ok:da b=[]
theorem aD.gR(hf:aD b):ef b.length=true:=cm.2 (by have:=hf.len;omega)
theorem aD.hand(hf:aD b)(h1:1<=h)(h2:h<=40)(ht:aw b h≠0):sQ b h=1/\dJ b (ao b h)=0:=by
 rcases ff.1 ((dy.1 hf.ok).1 h h1 h2)with hw|hw
 ·exact⟨hw,(lM.1 hw).2.1⟩
 ·exact absurd hw.1 ht
theorem aD.nE(hf:aD b)(h1:1<=h)(h2:h<=40)(ht:aw b h≠0):288<=(ao b h).2.1/\1<=(ao b h).2.2.1/\(ao b h).2.2.1<=1000/\(ao b h).2.1+(ao b h).2.2.1<=b.length/\0<=(ao b h).2.2.2/\(ao b h).2.2.2<=15:=by have:=df.1 (hf.hand h1 h2 ht).2;obtain⟨_,_,q1,q2,q3,q4,q5,q6⟩:=this;exact⟨q5,q3,q4,q6,q1,q2⟩
theorem zjT(hw:sQ b h=1):okE b h=true:=by grind[sQ,okE]
theorem Bz e f:uz e f=uz f e:=by grind[uz]
theorem Dt{f:(Int×I3)}:uz e f=false ↔ f.2.1+f.2.2.1<=e.2.1\/e.2.1+e.2.2.1<=f.2.1:=by grind[uz]
theorem aD.apart(hf:aD b){k:Int}(h1:1<=h)(h2:h<=40)(k1:1<=k)(k2:k<=40)(hk:h≠k)(ht:aw b h≠0)(kt:aw b k≠0):uz (ao b h) (ao b k)=false:=by
 have key:∀ {h k:Int},1<=h->h<=40->1<=k->k<h->aw b h≠0->aw b k≠0->uz (ao b h) (ao b k)=false:=by
  intro h k h1 h2 k1 aB ht kt;have hw:=(hf.hand h1 h2 ht).1;have kw:=(hf.hand k1 Sg kt).1;cases hl:uz (ao b h) (ao b k)with
  | false=>rfl
  | true =>have ig:=(lM.1 hw).2.2;have:lapK b h (h-1).toNat=true:=sc.2 ⟨(k-1).toNat,Sg,by rw[show(((k-1).toNat:Nat):Int)+1=k by omega];exact⟨zjT kw,hl⟩⟩;rw[ig]at this;cases this
 rcases Int.lt_or_gt_of_ne hk with h'|h'
 ·rw[Bz];exact key k1 k2 h1 h' kt ht
 ·exact key h1 h2 k1 h' ht kt
theorem Dy(hl:ef c.length=true)(hh:∀h,1<=h->h<=40->aw c h≠0->dJ c (ao c h)=0)(ha:∀h k,1<=h->h<=40->1<=k->k<h->aw c h≠0->aw c k≠0->uz (ao c h) (ao c k)=false)(hz:∀h,1<=h->h<=40->aw c h=0->(ao c h).2.1=0/\(ao c h).2.2.1=0)(hr:(∀h,1<=h->h<=40->aw c h≠0->sQ c h=1)->∀i,i<8->fa c i=[]):aD c:=by
 have hw:∀h,1<=h->h<=40->aw c h≠0->sQ c h=1:=fun h h1 h2 ht=>by
  refine lM.2 ⟨ht,hh h h1 h2 ht,?_⟩;cases hq:lapK c h (h-1).toNat with
  | false=>rfl
  | true =>obtain⟨j,hj,ho,G9⟩:=sc.1 hq;unfold okE at ho;rw[qAa,qAK]at ho;rw[ha h ((j:Int)+1) h1 h2 Sg Sg ht ho.1]at G9;cases G9
 have hlen:=cm.1 hl;refine⟨Sg,dy.2 ⟨fun h h1 h2=>ff.2 ?_,hr hw⟩⟩;by_cases ht:aw c h=0
 ·exact .inr ⟨ht,hz h h1 h2 ht⟩
 ·exact .inl (hw h h1 h2 ht)
theorem N8(hf:aD b)(he:dJ b e=0)(h0:aw b e.1=0)(ig:∀k,1<=k->k<=40->aw b k≠0->uz e (ao b k)=false) :
  aD (cR b e)/\(∀k,1<=k->k<=40->k≠e.1->aw (cR b e) k=aw b k/\ao (cR b e) k=ao b k)/\aw (cR b e) e.1≠0/\ao (cR b e) e.1=e/\(cR b e).length=b.length/\(∀j,200<=j->(cR b e).getD j 0=b.getD j 0):=by
 have hb:=hf.len;have hlen:=nP he;obtain⟨_,hh,_⟩:=df.1 he;have Ro:=aN.1 hh;have hp:=du Ro.1 Ro.2;have uP:(fg e).length=5:=rfl;have hL:cR b e=splice b (bT e.1) (fg e):=zlg;obtain⟨Mu,um⟩:=Ez he;have mw:=(aV.1 Mu).2.2;have gD:∀k,1<=k->k<=40->k≠e.1->aw (cR b e) k=aw b k/\ao (cR b e) k=ao b k:=fun k k1 k2 hk=>zi4
 have vL:∀j,200<=j->(cR b e).getD j 0=b.getD j 0:=fun j hj=>zl9
 have bK:∀i,i<8->rowAt (cR b e) i=rowAt b i:=fun i hi=>by exact CF
 refine⟨Dy zlh (fun h h1 h2 ht=>?_) (fun h k h1 h2 k1 aB ht kt=>?_) (fun h h1 h2 ht=>?_) (fun hw=>?_),gD,mw,um,hlen,vL⟩
 ·exact I5
 ·by_cases hq:h=e.1
  ·subst hq;obtain⟨e1,e2⟩:=gD k k1 Sg Sg;rw[e1]at kt;rw[um,e2];exact ig k k1 Sg kt
  ·obtain⟨e1,e2⟩:=gD h h1 h2 hq;rw[e1]at ht;by_cases qT:k=e.1
   ·subst qT;rw[e2,um,Bz];exact ig h h1 h2 ht
   ·exact zpj
 ·exact Et
 ·refine(tt bK (fun i hi hq _ fM=>?_) (dy.1 hf.ok).2 8 Sg).2;have hx:=aN.1 hq;have ht:=(lM.1 fM).1;refine hw _ hx.1 hx.2 ?_;rw[(gD _ hx.1 hx.2 (fun e'=>ht (by rw[e'];exact h0))).1];exact ht
theorem sD(hf:aD b)(he:aX b h=0)(ig:∀i,i<8->isRoot (rowAt b i)=true->(rowAt b i).getD 10 0≠h) :
  aD (cK b h)/\(∀k,1<=k->k<=40->k≠h->aw (cK b h) k=aw b k/\ao (cK b h) k=ao b k)/\aw (cK b h) h=0/\(cK b h).length=b.length/\(∀j,200<=j->(cK b h).getD j 0=b.getD j 0):=by
 have hb:=hf.len;obtain⟨_,hh,_⟩:=aV.1 he;have Ro:=aN.1 hh;have hp:=du Ro.1 Ro.2;have uP:=ag 5;have hL:cK b h=splice b (bT h) (af 5):=by unfold cK;rw[zy he]
 have hlen:(cK b h).length=b.length:=by rw[hL,length_splice zaB]
 have hzero:∀j,j<5->(cK b h).getD (bT h+j) 0=0:=fun j hj=>by rw[hL,cC zaB (by rw[uP];exact hj)];exact rL 5 j
 have mw:=As (c:=cK b h) Sg Ro.1 Ro.2 hzero;have gD:∀k,1<=k->k<=40->k≠h->aw (cK b h) k=aw b k/\ao (cK b h) k=ao b k:=fun k k1 k2 hk=>zi4
 have vL:∀j,200<=j->(cK b h).getD j 0=b.getD j 0:=fun j hj=>zl9
 have bK:∀i,i<8->rowAt (cK b h) i=rowAt b i:=fun i hi=>by exact CF
 have aG:∀k,aw (cK b h) k≠0->k≠h:=fun k hk e=>by subst e;exact hk mw.1
 refine⟨Dy zlh (fun k k1 k2 ht=>?_) (fun k j k1 k2 j1 aB ht jt=>?_) (fun k k1 k2 ht=>?_) (fun hw=>?_),gD,mw.1,hlen,vL⟩
 ·obtain⟨e1,e2⟩:=gD k k1 k2 (aG k ht);rw[e1]at ht;rw[e2,kg hlen];exact(hf.hand k1 k2 ht).2
 ·obtain⟨e1,e2⟩:=gD k k1 k2 (aG k ht);obtain⟨e3,e4⟩:=gD j j1 Sg (aG j jt);rw[e1]at ht;rw[e3]at jt;rw[e2,e4];exact hf.apart k1 k2 j1 Sg Sg ht jt
 ·by_cases hq:k=h
  ·subst hq;exact mw.2
  ·obtain⟨e1,e2⟩:=gD k k1 k2 hq;rw[e1]at ht;rw[e2];rcases ff.1 ((dy.1 hf.ok).1 k k1 k2)with hw|hw
   ·exact absurd ht (lM.1 hw).1
   ·exact hw.2
 ·refine(tt bK (fun i hi hq hr fM=>?_) (dy.1 hf.ok).2 8 Sg).2;have hx:=aN.1 hq;refine hw _ hx.1 hx.2 ?_;rw[(gD _ hx.1 hx.2 (ig i hi hr)).1];exact(lM.1 fM).1
theorem IM{x:Int}(hlen:c.length=b.length)(h:∀j:Nat,x.toNat<=j->j<x.toNat+n.toNat->c.getD j 0=b.getD j 0):ju c x n=ju b x n:=by
 unfold ju;apply cr
 ·rw[zLt,zLt,zLd,zLd,hlen]
 ·intro j hj;rw[zLt,zLd]at hj;have Hd:j<n.toNat:=by omega
  have:=h (x.toNat+j) Sg Sg;exact zjf
theorem rV(hlen:c.length=b.length)(h1:aw c h=aw b h)(h2:ao c h=ao b h)(hp:aw b h≠0->∀j:Nat,(ao b h).2.1.toNat<=j->j<(ao b h).2.1.toNat+(ao b h).2.2.1.toNat->c.getD j 0=b.getD j 0):bw c h=bw b h:=by grind[aw,ao,bw,nQ,IM]
theorem zce(hf:aD b)(he:dJ b e=0)(h0:aw b e.1=0)(ig:∀k,1<=k->k<=40->aw b k≠0->uz e (ao b k)=false) :
  (∀k,1<=k->k<=40->k≠e.1->bw (cR b e) k=bw b k)/\bw (cR b e) e.1=(e.2.2.2,ju b e.2.1 e.2.2.1):=by
 obtain⟨_,ho,ht,hE,hlen,vL⟩:=N8 hf he h0 ig;refine⟨fun k k1 k2 hk=>?_,?_⟩
 ·obtain⟨e1,e2⟩:=ho k k1 k2 hk;refine rV hlen e1 e2 (fun Hb j hj _=>vL j ?_);have:=(hf.nE k1 k2 Hb).1;omega
 ·unfold bw;rw[zn ht,hE];unfold nQ;rw[IM hlen (fun j hj _=>vL j (by obtain⟨_,_,_,_,_,_,q,_⟩:=df.1 he;omega))]
theorem E5(hf:aD b)(hx:288<=x)(mh:x+r.length<=b.length) :
  aD (splice b x r)/\(splice b x r).length=b.length/\(∀k,1<=k->k<=40->aw (splice b x r) k=aw b k/\ao (splice b x r) k=ao b k) /\
  ∀k,1<=k->k<=40->(aw b k≠0->(ao b k).2.1+(ao b k).2.2.1<=x\/(x:Int)+r.length<=(ao b k).2.1)->bw (splice b x r) k=bw b k:=by
 have hb:=hf.len;have hlen:=length_splice mh;have hs:∀j,j<288->(splice b x r).getD j 0=b.getD j 0:=fun j hj=>bh mh (.inl Sg)
 have he:=BM hlen hb.1 hs;refine⟨⟨by rw[hlen];exact hb,ZI hlen hb.1 hs hf.ok⟩,hlen,he,fun k k1 k2 Uf=>?_⟩;obtain⟨e1,e2⟩:=he k k1 k2;refine rV hlen e1 e2 (fun Hb j hj1 Hd=>bh mh ?_);have gj:=hf.nE k1 k2 Hb;have:=Uf Hb;omega
end
end
def there(n:Int)(e:(Int×Int)):Bool:=decide (0<=e.1)&&(decide (1<=e.2)&&decide (e.2<=n-e.1))
def over(a b:(Int×Int)):Bool:=decide (a.1<b.1+b.2)&&decide (b.1<a.1+a.2)
theorem wK{e}:there n e=true ↔ 0<=e.1/\1<=e.2/\e.1+e.2<=n:=by grind[there]
theorem np{a b}:over a b=false ↔ b.1+b.2<=a.1\/a.1+a.2<=b.1:=by grind[over]
theorem wW a b:over a b=over b a:=by grind[over]
def chkL(n:Int):List (Int×Int)->List (Int×Int)->Int
 | _,[]=>0
 | ah,e::r=>if there n e=false then 1 else if ah.any (over e)=true then 7 else chkL n (ah++[e]) r
def nY(n:Int)(l:List (Int×Int)):Int:=if n<0\/6400<n then 1 else if 200<l.length then 4 else chkL n [] l
structure Good (n:Int) (l:List (Int×Int)):Prop where
 all:∀e∈l,0<=e.1/\1<=e.2/\e.1+e.2<=n
 apart:l.Pairwise (fun a b=>over a b=false)
theorem JO:∀ {ah l:List (Int×Int)},chkL n ah l=0 ↔ (∀e∈l,there n e=true)/\l.Pairwise (fun a b=>over a b=false)/\∀e∈l,∀a∈ah,over e a=false
 | ah,[]=>by simp[chkL]
 | ah,e::r=>by
  unfold chkL;by_cases h1:there n e=false
  ·rw[if_pos h1];constructor
   ·intro h;cases h
   ·intro h;have:=h.1 e Sk;rw[h1]at this;cases this
  ·rw[if_neg h1];have vS:there n e=true:=by cases h:there n e <;> simp_all
   by_cases h2:ah.any (over e)=true
   ·rw[if_pos h2];constructor
    ·intro h;cases h
    ·intro h;obtain⟨a,ha,hoa⟩:=List.any_eq_true.1 h2;have:=h.2.2 e Sk a ha;rw[hoa]at this;cases this
   ·rw[if_neg h2,JO];have my:∀a∈ah,over e a=false:=fun a ha=>by
     cases h:over e a with
     | false=>rfl
     | true=>exact absurd (List.any_eq_true.2 ⟨a,ha,h⟩) h2
    constructor
    ·rintro ⟨g1,g2,g3⟩;refine⟨fun x hx=>?_,List.pairwise_cons.2 ⟨fun x hx=>?_,g2⟩,fun x hx a ha=>?_⟩
     ·rcases List.mem_cons.1 hx with rfl|hx
      ·exact vS
      ·exact g1 x hx
     ·rw[wW];exact g3 x hx e Sk
     ·rcases List.mem_cons.1 hx with rfl|hx
      ·exact my a ha
      ·exact g3 x hx a (by simp[ha])
    ·rintro ⟨g1,g2,g3⟩;obtain⟨p1,p2⟩:=List.pairwise_cons.1 g2;refine⟨fun x hx=>g1 x UD,p2,fun x hx a ha=>?_⟩;rcases List.mem_append.1 ha with ha | ha
     ·exact g3 x UD a ha
     ·obtain rfl:=List.mem_singleton.1 ha;rw[wW];exact p1 x hx
theorem eZ:nY n l=0 ↔ 0<=n/\n<=6400/\l.length<=200/\Good n l:=by
 unfold nY;by_cases h1:n<0\/6400<n
 ·grind
 ·rw[if_neg h1];by_cases h2:200<l.length
  ·grind
  ·rw[if_neg h2,JO];constructor
   ·rintro ⟨g1,g2,_⟩;exact⟨Sg,Sg,Sg,⟨fun e he=>wK.1 (g1 e he),g2⟩⟩
   ·rintro ⟨_,_,_,g⟩;exact⟨fun e he=>wK.2 (g.all e he),g.apart,fun e he a ha=>by cases ha⟩
theorem Good.perm(h:Good n l)(hp:s.Perm l):Good n s :=⟨fun e he=>h.all e (hp.mem_iff.1 he),(hp.pairwise_iff (fun {x y} Gv=>by rw[wW];exact Gv)).2 h.apart⟩
def runsOf:Int->List (Int×Int)->List (Int×Int)
 | _,[]=>[]
 | f,e::r=>(if f<e.1 then [(f,e.1-f)]else [])++runsOf (e.1+e.2) r
def dj:Int->List (Int×Int)->Int
 | f,[]=>f
 | _,e::r=>dj (e.1+e.2) r
def fG:Int->List (Int×Int)->Prop
 | _,[]=>True
 | f,e::r=>f<=e.1/\0<=e.2/\fG (e.1+e.2) r
def aR(l:List (Int×Int)):Int:=(l.map (·.2)).sum
theorem iJ e l:aR (e::l)=e.2+aR l:=by simp[aR]
theorem nA a b:aR (a++b)=aR a+aR b:=by simp[aR]
theorem Cm{a b}(h:a.Perm b):aR a=aR b:=by
 unfold aR;induction h with
 | nil=>rfl
 | cons x _ ih=>simp only[List.map_cons,List.sum_cons,ih]
 | swap x y l=>simp only[List.map_cons,List.sum_cons];omega
 | trans _ _ ih1 ih2=>rw[ih1,ih2]
theorem gP:∀ (f:Int) (a b:List (Int×Int)),runsOf f (a++b)=runsOf f a++runsOf (dj f a) b
 | f,[],b=>rfl
 | f,e::r,b=>by simp only[List.cons_append,runsOf,dj];rw[gP,List.append_assoc]
theorem pa:∀ (f:Int) (a b:List (Int×Int)),dj f (a++b)=dj (dj f a) b
 | f,[],b=>rfl
 | f,e::r,b=>by simp only[List.cons_append,dj];exact pa _ _ _
theorem ph:∀ {f:Int} {a b:List (Int×Int)},fG f (a++b) ↔ fG f a/\fG (dj f a) b
 | f,[],b=>by simp[fG,dj]
 | f,e::r,b=>by simp only[List.cons_append,fG,dj];rw[ph];exact⟨fun⟨a,b,c,d⟩=>⟨⟨a,b,c⟩,d⟩,fun⟨⟨a,b,c⟩,d⟩=>⟨a,b,c,d⟩⟩
theorem fG.P9:∀ {f:Int} {s:List (Int×Int)},fG f s->f<=dj f s
 | f,[],_=>Int.le_refl _
 | f,e::r,h=>by
  have:=fG.P9 h.2.2;have h1:=h.1;have h2:=h.2.1
  show f<=dj (e.1+e.2) r
  omega
theorem fG.mem:∀ {f:Int} {s:List (Int×Int)},fG f s->∀e∈s,f<=e.1/\0<=e.2/\e.1+e.2<=dj f s
 | f,[],_,e,he=>by cases he
 | f,x::r,h,e,he=>by
  have h1:=h.1;have h2:=h.2.1;have h3:=fG.P9 h.2.2
  show f<=e.1/\0<=e.2/\e.1+e.2<=dj (x.1+x.2) r
  rcases List.mem_cons.1 he with rfl|he
  ·omega
  ·have:=fG.mem h.2.2 e he;omega
theorem fG.sum:∀ {f:Int} {s:List (Int×Int)},fG f s->aR (runsOf f s)+aR s=dj f s-f
 | f,[],_=>by simp[runsOf,dj,aR]
 | f,e::r,h=>by
  have ih:=fG.sum h.2.2;have h1:=h.1;simp only[runsOf,dj,nA,iJ];by_cases hf:f<e.1
  ·rw[if_pos hf,iJ];have:aR []=0:=rfl;exact Tu
  ·rw[if_neg hf];have:aR []=0:=rfl;omega
theorem fG.run:∀ {f:Int} {s:List (Int×Int)},fG f s->∀x∈runsOf f s,f<=x.1/\1<=x.2/\x.1+x.2<=dj f s/\∀e∈s,over x e=false
 | f,[],_,x,hx=>TG
 | f,e::r,h,x,hx=>by
  obtain⟨h1,h2,h3⟩:=h;have he:=fG.P9 h3;simp only[runsOf,List.mem_append]at hx
  show f<=x.1/\1<=x.2/\x.1+x.2<=dj (e.1+e.2) r/\_
  rcases hx with hx|hx
  ·by_cases hf:f<e.1
   ·rw[if_pos hf]at hx;obtain rfl:=List.mem_singleton.1 hx;refine⟨Int.le_refl _,Tu,Tu,fun y hy=>np.2 ?_⟩;rcases List.mem_cons.1 hy with rfl | hy
    ·right;exact Tu
    ·have:=fG.mem h3 y hy;right;exact Tu
   ·rw[if_neg hf]at hx;cases hx
  ·obtain⟨g1,g2,g3,g4⟩:=fG.run h3 x hx;refine⟨Sg,g2,g3,fun y hy=>?_⟩;rcases List.mem_cons.1 hy with rfl | hy
   ·exact np.2 (.inl g1)
   ·exact g4 y hy
def Ge(l s:List (Int×Int)):Prop:=s.Perm l/\s.Pairwise (fun a b=>a.1<b.1)
theorem tq:∀ {s t:List (Int×Int)},s.Perm t->s.Pairwise (fun a b=>a.1<b.1)->t.Pairwise (fun a b=>a.1<b.1)->s=t
 | [],t,hp,_,_=>(List.nil_perm.1 hp).symm
 | x::s,[],hp,_,_=>absurd hp.length_eq Sk
 | x::s,y::t,hp,hs,ht=>by
  obtain⟨fQ,gN⟩:=List.pairwise_cons.1 hs;obtain⟨mS,gw⟩:=List.pairwise_cons.1 ht;have e:x=y:=by
   have hx:x∈y::t:=hp.mem_iff.1 Sk;have hy:y∈x::s:=hp.mem_iff.2 Sk;rcases List.mem_cons.1 hx with h|h
   ·exact h
   ·rcases List.mem_cons.1 hy with h'|h'
    ·exact h'.symm
    ·have:=mS x h;have:=fQ y h';omega
  subst e;rw[tq (List.Perm.cons_inv hp) gN gw]
theorem ur:∀ {n f:Int} {s:List (Int×Int)},(∀e∈s,f<=e.1/\1<=e.2)->s.Pairwise (fun a b=>over a b=false)->s.Pairwise (fun a b=>a.1<b.1)->fG f s
 | n,f,[],_,_,_=>trivial
 | n,f,e::r,h,ho,hs=>by obtain⟨ru,nU⟩:=List.pairwise_cons.1 ho;obtain⟨fQ,gN⟩:=List.pairwise_cons.1 hs;have he:=h e Sk;refine⟨he.1,Sg,ur (n:=n) (fun x hx=>?_) nU gN⟩;have h1:=np.1 (ru x hx);have h2:=fQ x hx;have h3:=h x UD;omega
theorem Ge.chain(hs:Ge l s)(hg:Good n l)(hn:0<=n):fG 0 (s++[(n,0)])/\dj 0 (s++[(n,0)])=n/\dj 0 s<=n:=by
 have Jm:=hg.perm hs.1;have hc:=ur (n:=n) (fun e he=>⟨(Jm.all e he).1,(Jm.all e he).2.1⟩) Jm.apart hs.2;have hle:dj 0 s<=n:=by
  have:∀ (s:List (Int×Int)) (f:Int),f<=n->(∀e∈s,e.1+e.2<=n)->dj f s<=n:=by
   intro s;induction s with
   | nil=>intro f h _;exact h
   | cons e r ih=>intro f _ h;exact ih _ (h e Sk) (fun x hx=>h x UD)
  exact this s 0 hn (fun e he=>(Jm.all e he).2.2)
 refine⟨ph.2 ⟨hc,hle,Int.le_refl _,trivial⟩,?_,hle⟩;rw[pa]
 show n+0=n
 omega
def dh(n:Int)(s:List (Int×Int)):List (Int×Int):=runsOf 0 (s++[(n,0)])
theorem Ge.sum(hs:Ge l s)(hg:Good n l)(hn:0<=n):aR l+aR (dh n s)=n:=by
 obtain⟨hc,he,_⟩:=hs.chain hg hn;have:=hc.sum;rw[he,nA,Cm hs.1]at this
 grind[Ge,aR,dh]
theorem Ge.Fw(hs:Ge l s)(hg:Good n l)(hn:0<=n):∀x∈dh n s,0<=x.1/\1<=x.2/\x.1+x.2<=n/\∀e∈l,over x e=false:=by
 obtain⟨hc,he,_⟩:=hs.chain hg hn;intro x hx;obtain⟨h1,h2,h3,h4⟩:=hc.run x hx
 grind[Ge,dh,over]
def gq(size:Int)(nf r:(Int×Int)):(Int×Int):=if size<=r.2/\(nf.2=0\/r.2<nf.2)then r else nf
def fN(size:Int)(h:List (Int×Int)):(Int×Int):=h.foldl (gq size) (0,0)
theorem FF(hs:1<=size):∀ (h:List (Int×Int)) (b:(Int×Int)),(∀r∈h,1<=r.2)->0<=b.2 ->
  ((h.foldl (gq size) b).2=0/\b.2=0/\∀r∈h,r.2<size) \/
  (1<=(h.foldl (gq size) b).2/\((h.foldl (gq size) b)=b\/((h.foldl (gq size) b)∈h/\size<=(h.foldl (gq size) b).2))/\(1<=b.2->(h.foldl (gq size) b).2<=b.2)/\∀r∈h,size<=r.2->(h.foldl (gq size) b).2<=r.2)
 | [],b,_,hb=>by
  by_cases h0:b.2=0
  ·exact .inl ⟨h0,h0,fun r hr=>by cases hr⟩
  ·exact .inr ⟨by show 1<=b.2;omega,.inl rfl,fun _=>Int.le_refl _,fun r hr=>by cases hr⟩
 | x::h,b,hr,hb=>by
  have hx:=hr x (by simp);have hr':∀r∈h,1<=r.2:=fun r hh=>hr r (by simp[hh])
  rw[List.foldl_cons];by_cases hc:size<=x.2/\(b.2=0\/x.2<b.2)
  ·have e:gq size b x=x:=if_pos hc;rw[e];rcases FF hs h x hr' (by omega)with ⟨_,h2,_⟩|⟨h1,h2,h3,h4⟩
   ·omega
   ·have h5:=h3 hx;refine .inr ⟨h1,.inr ?_,fun ay=>by omega,fun r hh hsr=>?_⟩
    ·rcases h2 with h2|⟨h2,my⟩
     ·exact⟨by rw[h2];simp,by rw[h2];exact hc.1⟩
     ·exact⟨by simp[h2],my⟩
    ·rcases List.mem_cons.1 hh with rfl|hh
     ·exact h5
     ·exact h4 r hh hsr
  ·have e:gq size b x=b:=if_neg hc;rw[e];rcases FF hs h b hr' hb with ⟨h1,h2,h3⟩|⟨h1,h2,h3,h4⟩
   ·refine .inl ⟨h1,h2,fun r hh=>?_⟩;rcases List.mem_cons.1 hh with rfl | hh
    ·omega
    ·exact h3 r hh
   ·refine .inr ⟨h1,?_,h3,fun r hh hsr=>?_⟩
    ·rcases h2 with h2|⟨h2,my⟩
     ·exact .inl h2
     ·exact .inr ⟨by simp[h2],my⟩
    ·rcases List.mem_cons.1 hh with rfl|hh
     ·have:=h3 (by omega);omega
     ·exact h4 r hh hsr
theorem wg(hs:1<=size){h}(hr:∀r∈h,1<=r.2) :
  ((fN size h).2=0/\∀r∈h,r.2<size)\/(1<=(fN size h).2/\fN size h∈h/\size<=(fN size h).2/\∀r∈h,size<=r.2->(fN size h).2<=r.2):=by
 grind[fN,FF]
def cM(m:Int)(h:List (Int×Int)):Int:=h.foldl (fun m r=>max m r.2) m
theorem qR:∀ {h:List (Int×Int)} {m M:Int},cM m h<=M ↔ m<=M/\∀r∈h,r.2<=M
 | [],m,M=>by simp[cM]
 | x::h,m,M=>by
  have:cM m (x::h)=cM (max m x.2) h:=rfl;rw[this,qR];constructor
  ·rintro ⟨h1,h2⟩;refine⟨Sg,fun r hr=>?_⟩;rcases List.mem_cons.1 hr with rfl | hr
   ·omega
   ·exact h2 r hr
  ·rintro ⟨h1,h2⟩;have:=h2 x Sk;exact⟨Sg,fun r hr=>h2 r (by simp[hr])⟩
theorem mO:∀ {h:List (Int×Int)},(∀r∈h,1<=r.2)->0<=aR h/\∀r∈h,r.2<=aR h
 | [],_=>⟨by simp[aR],fun r hr=>by cases hr⟩
 | x::h,hr=>by
  obtain⟨h1,h2⟩:=mO (h:=h) (fun r hh=>hr r (by simp[hh]));have hx:=hr x Sk;rw[iJ];refine⟨Sg,fun r hh=>?_⟩;rcases List.mem_cons.1 hh with rfl | hh
  ·omega
  ·have:=h2 r hh;omega
section
open Go.RowKit
section
variable {b:LI}
theorem kj{x}:∀ {k:Nat},x∈entsK b k ↔ ∃j:Nat,j<k/\aw b ((j:Int)+1)≠0/\x=ao b ((j:Int)+1)
 | 0=>by simp[entsK]
 | k+1=>by
  unfold entsK;rw[List.mem_append,kj];by_cases ht:aw b ((k:Int)+1)=0
  ·exact Em
  ·exact BX
def jL(e:(Int×I3)):I2:=(e.2.1-288,e.2.2.1)
def aA(b:LI):List (I2):=(entsK b 40).map jL
theorem zgu e f:over (jL e) (jL f)=uz e f:=by grind[over,jL,uz]
theorem iz{x}:x∈aA b ↔ ∃h:Int,1<=h/\h<=40/\aw b h≠0/\x=jL (ao b h):=by
 unfold aA;rw[qAT];constructor
 ·grind[aA,aw,jL,ao,kj]
 ·rintro ⟨h,h1,h2,ht,rfl⟩;refine⟨ao b h,kj.2 ⟨(h-1).toNat,Sg,?_⟩,rfl⟩;rw[show(((h-1).toNat:Nat):Int)+1=h by omega];exact⟨ht,rfl⟩
theorem lh b:(aA b).length<=40:=by grind[aA,dt]
theorem jc(hf:aD b):Good ((b.length:Int)-288) (aA b):=by
 refine⟨fun e he=>?_,?_⟩
 ·obtain⟨h,h1,h2,ht,rfl⟩:=iz.1 he;have:=hf.nE h1 h2 ht
  show 0<=(ao b h).2.1-288/\1<=(ao b h).2.2.1/\(ao b h).2.1-288+(ao b h).2.2.1<=_
  omega
 ·unfold aA;rw[qBc];have key:∀k:Nat,k<=40->(entsK b k).Pairwise (fun x y=>over (jL x) (jL y)=false):=by
   intro k;induction k with
   | zero=>intro _;exact List.Pairwise.nil
   | succ k ih =>
    intro hk;unfold entsK;rw[qBR];refine⟨ih Sg,?_,?_⟩
    ·split
     ·exact List.Pairwise.nil
     ·grind
    ·intro x hx y hy;obtain⟨j,h1,h2,rfl⟩:=kj.1 hx;by_cases ht:aw b ((k:Int)+1)=0
     ·grind
     ·rw[zn ht]at hy;rw[zMs hy,zgu];exact hf.apart Sg Sg Sg Sg Sg h2 ht
  exact key 40 zNr
theorem zd4{l s}(hs:Ge l s)(hg:Good n l)(hn:0<=n){z}(hz:1<=z)(hf:(fN z (dh n s)).2≠0) :
  0<=(fN z (dh n s)).1/\(fN z (dh n s)).1+z<=n/\∀e∈l,e.1+e.2<=(fN z (dh n s)).1\/(fN z (dh n s)).1+z<=e.1:=by
 have fu:=hs.Fw hg hn
 grind[Ge,fN,dh,wg,np]
def eA(b:LI):Nat:=tU (fun j=>decide (aw b ((j:Int)+1)=0)) 40
theorem fY b:cd (fun j=>decide (aw b ((j:Int)+1)=0)) 40 (eA b):=bS _ _
def Ru(b:LI)(h:Int)(x n:Nat)(t:Int):LI:=cR (splice b x (af n)) (h,(x:Int),(n:Int),t)
theorem Ga(hf:aD b){t:Int}{n:Nat}(h1:1<=h)(h2:h<=40)(ht0:aw b h=0)(hn:1<=n)(xj:n<=1000)(hx:288<=x)(mh:x+n<=b.length)(t1:0<=t)(t2:t<=15)(ig:∀k,1<=k->k<=40->aw b k≠0->(ao b k).2.1+(ao b k).2.2.1<=x\/(x:Int)+n<=(ao b k).2.1) :
  aD (Ru b h x n t)/\(Ru b h x n t).length=b.length/\bw (Ru b h x n t) h=(t,af n)/\ao (Ru b h x n t) h=(h,(x:Int),(n:Int),t)/\aw (Ru b h x n t) h≠0 /\
   (∀k,1<=k->k<=40->k≠h->bw (Ru b h x n t) k=bw b k/\aw (Ru b h x n t) k=aw b k/\ao (Ru b h x n t) k=ao b k):=by
 have hz:=ag n;obtain⟨Fl,jC,he1,ru⟩:=E5 hf (r:=af n) hx (by rw[hz];exact mh);have hp:dJ (splice b x (af n)) (h,(x:Int),(n:Int),t)=0:=df.2 ⟨Fl.gR,aN.2 ⟨h1,h2⟩,t1,t2,by show 1<=(n:Int);omega,by show(n:Int)<=1000;omega,by show 288<=(x:Int);omega,by rw[jC];show(x:Int)+n<=_;omega⟩;have h0:aw (splice b x (af n)) h=0:=by rw[(he1 h h1 h2).1];exact ht0
 have znF:∀k,1<=k->k<=40->aw (splice b x (af n)) k≠0->uz (h,(x:Int),(n:Int),t) (ao (splice b x (af n)) k)=false:=fun k k1 k2 kt=>by grind[aw,ao,Ru,bw,af,dJ,uz,ju]
 obtain⟨p1,p2,p3,p4,p5,p6⟩:=N8 Fl hp h0 znF;obtain⟨o1,o2⟩:=zce Fl hp h0 znF;refine⟨p1,p5.trans jC,?_,p4,p3,fun k k1 k2 hk=>⟨?_,?_,?_⟩⟩
 ·refine o2.trans ?_
  congr 1
  unfold ju;rw[zTn,zTn];apply cr
  ·grind
  ·intro j hj;rw[zLt,zLd]at hj;have Hd:j<n:=by omega
   have:=cC (z:=b) (l:=af n) (off:=x) (j:=j) (by rw[hz];exact mh) (by rw[hz];exact Hd);exact zjf
 ·exact(o1 k k1 k2 hk).trans (ru k k1 k2 (fun kt=>by rw[hz];exact ig k k1 k2 kt))
 ·exact(p2 k k1 k2 hk).1.trans (he1 k k1 k2).1
 ·exact(p2 k k1 k2 hk).2.trans (he1 k k1 k2).2
theorem zaE(hf:aD b){s}(hs:Ge (aA b) s){n:Nat}(hn:1<=n)(fc:(fN n (dh ((b.length:Int)-288) s)).2≠0) :
  ∃x:Nat,(x:Int)=288+(fN n (dh ((b.length:Int)-288) s)).1/\288<=x/\x+n<=b.length/\∀k,1<=k->k<=40->aw b k≠0->(ao b k).2.1+(ao b k).2.2.1<=x\/(x:Int)+n<=(ao b k).2.1:=by
 have hl:=hf.len;obtain⟨r1,r2,r3⟩:=zd4 hs (jc hf) Sg (z:=(n:Int)) Sg fc;generalize (fN n (dh ((b.length:Int)-288) s)).1=y at*;refine⟨(288+y).toNat,Sg,Sg,Sg,fun k k1 k2 kt=>?_⟩;have:=r3 (jL (ao b k)) (iz.2 ⟨k,k1,k2,kt,rfl⟩);unfold jL at this
 grind
theorem yg(hf:aD b)(h1:1<=h)(h2:h<=40)(ht:aw b h≠0){p:Nat}(hr:(p:Int)+r.length<=(ao b h).2.2.1) :
  aD (splice b ((ao b h).2.1.toNat+p) r)/\(splice b ((ao b h).2.1.toNat+p) r).length=b.length/\(∀k,1<=k->k<=40->k≠h->bw (splice b ((ao b h).2.1.toNat+p) r) k=bw b k) /\
   (∀k,1<=k->k<=40->aw (splice b ((ao b h).2.1.toNat+p) r) k=aw b k/\ao (splice b ((ao b h).2.1.toNat+p) r) k=ao b k)/\ju (splice b ((ao b h).2.1.toNat+p) r) ((ao b h).2.1+p) r.length=r:=by
 have he:=hf.nE h1 h2 ht;have mh:(ao b h).2.1.toNat+p+r.length<=b.length:=Sg;obtain⟨q1,q2,q3,q4⟩:=E5 hf (x:=(ao b h).2.1.toNat+p) (r:=r) Sg mh;refine⟨q1,q2,fun k k1 k2 hk=>q4 k k1 k2 (fun kt=>?_),q3,?_⟩
 ·have:=Dt.1 (hf.apart h1 h2 k1 k2 (fun e=>hk e.symm) ht kt);omega
 ·unfold ju;rw[show((ao b h).2.1+(p:Int)).toNat=(ao b h).2.1.toNat+p by omega,zTn];apply cr
  ·grind
  ·intro j hj;rw[zLt,zLd]at hj;have Hd:j<r.length:=by omega
   have:=cC (z:=b) (l:=r) (off:=(ao b h).2.1.toNat+p) (j:=j) mh Hd;exact zjf
end
def p7(l:List (Int×I3)):Int:=l.foldl (fun h e=>if e.1=h then h+1 else h) 1
theorem I0 l e:p7 (l++[e])=if e.1=p7 l then p7 l+1 else p7 l:=by grind[p7]
theorem I1 b:∀k:Nat,p7 (entsK b k)=(tU (fun j=>decide (aw b ((j:Int)+1)=0)) k:Int)+1
 | 0=>by have h:=(bS (fun j=>decide (aw b ((j:Int)+1)=0)) 0).1;have:tU (fun j=>decide (aw b ((j:Int)+1)=0)) 0=0:=Sg;rw[this];rfl
 | k+1=>by
  have ih:=I1 b k;have h1:=bS (fun j=>decide (aw b ((j:Int)+1)=0)) k;have h2:=bS (fun j=>decide (aw b ((j:Int)+1)=0)) (k+1);generalize tU (fun j=>decide (aw b ((j:Int)+1)=0)) k=p at*;have hp:=h1.1;unfold entsK;by_cases ht:aw b ((k:Int)+1)=0
  ·rw[zy ht,qAh,ih];have h3:cd (fun j=>decide (aw b ((j:Int)+1)=0)) (k+1) p:=⟨Sg,h1.2.1,fun aB=>by
    by_cases e:p=k
    ·rw[e];exact qAE ht
    ·exact h1.2.2 Sg⟩
   rw[cd.unique h2 h3]
  ·rw[zn ht,I0,ih];by_cases e:p=k
   ·subst e;rw[zy (by show(p:Int)+1=p+1;rfl)];have h3:cd (fun j=>decide (aw b ((j:Int)+1)=0)) (p+1) (p+1):=⟨zNr,fun j hj=>by
     by_cases ej:j=p
     ·rw[ej];exact qAG ht
     ·exact h1.2.1 j Sg,fun h=>absurd h (qBd _)⟩
    rw[cd.unique h2 h3];omega
   ·rw[zn (by show ¬(k:Int)+1=p+1;omega)];have h3:cd (fun j=>decide (aw b ((j:Int)+1)=0)) (k+1) p:=⟨Sg,h1.2.1,fun _=>h1.2.2 Sg⟩;rw[cd.unique h2 h3]
theorem EV b:p7 (entsK b 40)=(eA b:Int)+1:=I1 b 40
theorem xe b:eA b<=40:=(fY b).1
theorem YZ{l:List (Int×I3)}{k}(h:l[k]?=some e):p7 (l.take (k+1))=if e.1=p7 (l.take k)then p7 (l.take k)+1 else p7 (l.take k):=by
 rw[qAv,h]
 grind[p7]
theorem zgS:∀ (l:List (Int×I3)),1<=p7 l/\p7 l<=l.length+1:=by
 have key:∀ (l:List (Int×I3)) (h:Int),h<=l.foldl (fun h e=>if e.1=h then h+1 else h) h/\l.foldl (fun h e=>if e.1=h then h+1 else h) h<=h+l.length:=by
  intro l;induction l with
  | nil=>intro h;simp
  | cons e r ih =>
   intro h;have:=ih (if e.1=h then h+1 else h);split at this
   ·grind
   ·grind
 grind[p7]
theorem zgr(he:dJ b e=0)(hx:288<=x)(mh:x+r.length<=b.length):dJ (splice b x r) e=0/\splice (cR b e) x r=cR (splice b x r) e:=by
 have hl:=length_splice mh;obtain⟨q1,q2,q3⟩:=df.1 he;have hh:=aN.1 q2;have hp:=du hh.1 hh.2;have uP:(fg e).length=5:=rfl;have he2:=df.2 (by rw[hl];exact⟨q1,q2,q3⟩);refine⟨he2,?_⟩;have ay:bT e.1+(fg e).length<=b.length:=zaB;have aK:bT e.1+(fg e).length<=(splice b x r).length:=by rw[hl];exact ay
 have jC:=length_splice ay;have bD:x+r.length<=(splice b (bT e.1) (fg e)).length:=UB;unfold cR;rw[zy he,zy he2];apply cr
 ·rw[length_splice bD,jC,length_splice aK,hl]
 ·intro j hj;by_cases c1:j<bT e.1
  ·grind[dJ,cR,fg,bT,length_splice,df,aN,du,cr,bh,cC]
  ·by_cases c2:j<bT e.1+5
   ·obtain⟨i,rfl⟩:∃i,j=bT e.1+i:=⟨j-bT e.1,Sg⟩;rw[bh bD (.inl Sg),cC ay zaB,cC aK zaB]
   ·have c3:bT e.1+(fg e).length<=j:=by rw[uP];omega
    rw[bh aK (.inr c3)];by_cases c4:j<x
    ·rw[bh bD (.inl c4),bh mh (.inl c4),bh ay (.inr c3)]
    ·by_cases c5:j<x+r.length
     ·obtain⟨i,rfl⟩:∃i,j=x+i:=⟨j-x,Sg⟩;rw[cC bD Sg,cC mh Sg]
     ·rw[bh bD (.inr Sg),bh mh (.inr Sg),bh ay (.inr c3)]
theorem jG{n}(h1:288<=n)(h2:n<=6400):aD (af n)/\(∀h:Int,aw (af n) h=0)/\∀i,i<8->isRoot (rowAt (af n) i)=false:=by
 have hl:=ag n;have ht:∀h:Int,aw (af n) h=0:=fun h=>by unfold aw;exact rL n _
 have hr:∀i,i<8->isRoot (rowAt (af n) i)=false:=fun i hi=>IB Sg hi (fun j _=>rL n _)
 refine⟨Dy (cm.2 (by rw[hl];omega)) (fun h _ _ q=>absurd (ht h) q) (fun h _ _ _ _ _ q _=>absurd (ht h) q) (fun h a1 a2 _=>(As Sg a1 a2 (fun j _=>rL n _)).2) (fun _ i hi=>eG.2 (.inl (hr i hi))),ht,hr⟩
