import Derived.Test.YtoiebmeajhpgcaaGreatDoorJRef
set_option maxRecDepth 100000
set_option maxHeartbeats 16000000
set_option linter.all false
namespace Go.Proofs.YtoiebmeajhpgcaaGreatDoor
variable {z l b:LI}{off j i:Nat}{n h k:Int}{e:(Int×I3)}{r:BA×Int}
open Go.RowKit
theorem length_splice(h:off+l.length<=z.length):(splice z off l).length=z.length:=by simp[splice];omega
theorem cC(h:off+l.length<=z.length)(hj:j<l.length):(splice z off l).getD (off+j) 0=l.getD j 0:=by
 unfold splice
 grind
theorem bh(h:off+l.length<=z.length)(hj:j<off\/off+l.length<=j):(splice z off l).getD j 0=z.getD j 0:=by
 unfold splice
 grind
theorem eY l p(h:p+2<=l.length):dm l p 2=l.getD p 0+256*l.getD (p+1) 0:=by
 rw[xk l p 1 Sg,xk l p 0 Sg]
 grind[dm,numOf]
def ef(n:Int):Bool:=decide (288<=n)&&decide (n<=6400)
def eC(h:Int):Bool:=decide (1<=h)&&decide (h<=40)
theorem cm:ef n=true ↔ 288<=n/\n<=6400:=by simp[ef]
theorem aN:eC n=true ↔ 1<=n/\n<=40:=by simp[eC]
def bT(h:Int):Nat:=(5*(h-1)).toNat
def aw(b:LI)(h:Int):Int:=b.getD (bT h) 0
def aX(b:LI)(h:Int):Int:=if ef b.length=false then 3 else if eC h=false then 1 else if aw b h=0 then 5 else 0
def ao(b:LI)(h:Int):(Int×I3):=(h,dm b (bT h+1) 2,dm b (bT h+3) 2,aw b h-1)
def zed:(Int×I3):=(0,0,0,0)
def gU(b:LI)(h:Int):(Int×I3):=if aX b h=0 then ao b h else zed
def entsK(b:LI):Nat->List (Int×I3)
 | 0=>[]
 | k+1=>entsK b k++if aw b ((k:Int)+1)=0 then []else [ao b ((k:Int)+1)]
theorem dt b k:(entsK b k).length<=k:=by
 induction k with
 | zero=>exact zNr
 | succ k ih=>unfold entsK;rw[zLa];split <;> simp <;> omega
def dJ(b:LI)(e:(Int×I3)):Int :=
 if ef b.length=false then 3
 else if eC e.1=false\/e.2.2.2<0\/15<e.2.2.2\/e.2.2.1<1\/1000<e.2.2.1 then 1
 else if e.2.1<288\/b.length-e.2.1<e.2.2.1 then 3 else 0
def fg(e:(Int×I3)):LI:=[(e.2.2.2+1)%256,e.2.1%256,e.2.1 / 256%256,e.2.2.1%256,e.2.2.1 / 256%256]
def cR(b:LI)(e:(Int×I3)):LI:=if dJ b e=0 then splice b (bT e.1) (fg e)else []
def cK(b:LI)(h:Int):LI:=if aX b h=0 then splice b (bT h) (af 5)else []
theorem Qv e:bZ (fg e):=by grind[bZ,fg]
theorem du(h1:1<=h)(h2:h<=40):bT h+5<=200:=XM
theorem zjN(h1:1<=h)(k1:1<=k)(hk:h≠k):bT h+5<=bT k\/bT k+5<=bT h:=XM
theorem aV:aX b h=0 ↔ ef b.length=true/\eC h=true/\aw b h≠0:=by grind[aX,ef,eC,aw]
theorem df:dJ b e=0 ↔ ef b.length=true/\eC e.1=true/\0<=e.2.2.2/\e.2.2.2<=15/\1<=e.2.2.1/\e.2.2.1<=1000/\288<=e.2.1/\e.2.1+e.2.2.1<=b.length:=by grind[dJ,ef,eC]
theorem nP(h:dJ b e=0):(cR b e).length=b.length:=by obtain⟨h1,h2,_⟩:=df.1 h;have my:=aN.1 h2;have:=du my.1 my.2;unfold cR;rw[zy h];exact length_splice (by show bT e.1+5<=_;omega)
theorem Ez(h:dJ b e=0):aX (cR b e) e.1=0/\ao (cR b e) e.1=e:=by
 obtain⟨h1,h2,h3⟩:=df.1 h;have vS:=cm.1 h1;have my:=aN.1 h2;have hp:=du my.1 my.2;have hlen:=nP h;have fu:∀j,j<5->(cR b e).getD (bT e.1+j) 0=(fg e).getD j 0:=fun j hj=>by unfold cR;rw[zy h];exact cC (by show bT e.1+5<=_;omega) hj
 have t0:=fu 0 Sg;have t1:=fu 1 Sg;have t2:=fu 2 Sg;have t3:=fu 3 Sg;have t4:=fu 4 Sg;obtain⟨x,a,l,t⟩:=e;dsimp only at*;have e0:(fg (x,a,l,t)).getD 0 0=(t+1)%256:=rfl;have e1:(fg (x,a,l,t)).getD 1 0=a%256:=rfl;have e2:(fg (x,a,l,t)).getD 2 0=a / 256%256:=rfl;have e3:(fg (x,a,l,t)).getD 3 0=l%256:=rfl;have e4:(fg (x,a,l,t)).getD 4 0=l / 256%256:=rfl;rw[e0,qAq]at t0;rw[e2]at t2;rw[e3]at t3;refine⟨aV.2 ⟨by rw[hlen];exact h1,h2,?_⟩,?_⟩
 ·unfold aw;rw[t0];omega
 ·unfold ao aw;rw[eY _ _ (by rw[hlen];omega),eY _ _ (by rw[hlen];omega),t0,t1,t2,t3,t4];simp only[qBs,qBL];omega
theorem pW{r:LI}(hr:r.length=5)(hb:288<=b.length)(h1:1<=h)(h2:h<=40)(k1:1<=k)(k2:k<=40)(hk:k≠h):aw (splice b (bT h) r) k=aw b k/\ao (splice b (bT h) r) k=ao b k:=by grind[aw,bT,ao,du,zjN,length_splice,bh,eY]
def rowAt(b:LI)(i:Nat):LI:=(b.drop (200+11*i)).take 11
def isRoot(r:LI):Bool:=r.any (fun c=>c != 0)
def rootOf(r:LI):BA×Int:=((bI (r.take 8)).1,r.getD 10 0)
def aE(b:LI):Nat->List (BA×Int)
 | 0=>[]
 | k+1=>aE b k++if isRoot (rowAt b k)=true then [rootOf (rowAt b k)]else []
theorem iO b k:(aE b k).length<=k:=by
 induction k with
 | zero=>exact zNr
 | succ k ih=>unfold aE;rw[zLa];split <;> simp <;> omega
def kp(r:BA×Int):Bool:=decide (r.1.size=0)&&decide (r.2=0)
theorem iP:kp r=true ↔ r.1.size=0/\r.2=0:=by simp[kp]
def dG(s:BA):Bool:=decide (1<=s.size)&&(decide (s.size<=8)&&decide (tU (fun j=>(!nR ((c7 s).getD j 0))) s.size=s.size))
theorem cL{s}:dG s=true ↔ iW s:=by
 unfold dG;rw[qAa,qAa,qAK,qAK,qAK];have hf:=bS (fun j=>(!nR ((c7 s).getD j 0))) s.size;constructor
 ·grind[dG,iW,nR,c7]
 ·rintro ⟨h1,h2,h3⟩;exact⟨h1,h2,hf.unique h3⟩
def fA(r:BA×Int):Int:=if kp r=true then 0 else if eC r.2=false then 1 else if dG r.1=true then 0 else 2
def gu(r:BA×Int):LI:=if kp r=true then af 11 else bH r.1++[0,0,r.2%256]
def EA(b:LI)(i:Int)(r:BA×Int):Int:=if ef b.length=false then 3 else if i<0\/7<i then 1 else fA r
def rn(b:LI)(i:Int)(r:BA×Int):LI:=if EA b i r=0 then splice b (200+11*i.toNat) (gu r)else []
theorem vo(h:fA r=0):(gu r).length=11:=by grind[fA,gu,kp,eC,dG,ag,cE,cL]
theorem FW r:bZ (gu r):=by grind[bZ,gu,kp,cI,xy]
theorem rT{i}:EA b i r=0 ↔ ef b.length=true/\0<=i/\i<=7/\fA r=0:=by grind[EA,ef,fA]
theorem wU{i}(h:EA b i r=0):(rn b i r).length=b.length:=by grind[EA,rn,rT,cm,length_splice,vo]
theorem cw(hj:j<11):(rowAt b i).getD j 0=b.getD (200+11*i+j) 0:=by grind[rowAt]
theorem aY(h:200+11*i+11<=b.length):(rowAt b i).length=11:=by grind[rowAt]
theorem Iz(h:off+l.length<=b.length)(hi:200+11*i+11<=b.length)(ho:off+l.length<=200+11*i\/200+11*i+11<=off):rowAt (splice b off l) i=rowAt b i:=by grind[rowAt,length_splice,cr,aY,cw,bh]
theorem Ns(hl:l.length=11)(hi:200+11*i+11<=b.length):rowAt (splice b (200+11*i) l) i=l:=by
 have h:200+11*i+l.length<=b.length:=Sg;have hs:=length_splice h;apply cr
 ·grind[rowAt]
 ·intro j hj;rw[aY Sg]at hj;rw[cw hj];exact cC h Sg
theorem lX:isRoot (af 11)=false:=Tq
theorem vr(h:fA r=0)(hn:¬kp r=true):isRoot (gu r)=true/\rootOf (gu r)=r:=by
 unfold fA at h;unfold gu;rw[zn hn]at h ⊢;by_cases h1:eC r.2=false
 ·rw[zy h1]at h;cases h
 have vS:=aN.1 (show eC r.2=true by simpa using h1);by_cases my:dG r.1=true
 ·have h2:=cL.1 my;have hl:=cE r.1 h2.2.1;have hm:r.2%256=r.2:=by omega
  refine⟨?_,?_⟩
  ·unfold isRoot;refine qBH.2 ⟨r.2%256,Sk,?_⟩;exact qBZ.2 Sg
  ·unfold rootOf;have ht:(bH r.1++[0,0,r.2%256]).take 8=bH r.1:=by grind
   have hg:(bH r.1++[0,0,r.2%256]).getD 10 0=r.2%256:=UB;rw[ht,hg,hm];have hf:=qQ r.1 h2;have hz:=qP r.1 h2.2.1;have e1:aW (bH r.1)=r.1.size:=(bS _ _).unique hf;have e2:iL (bH r.1) r.1.size=8-r.1.size:=(bS _ _).unique hz;have hr:(bI (bH r.1)).1=r.1:=by unfold bI;rw[zn (fun h=>h hl),e1,e2,hl,zn (by have:=h2.1;omega)];exact yy r.1
   rw[hr]
 grind
theorem qK{c:LI}:∀m,(∀j,j<m->rowAt c j=rowAt b j)->aE c m=aE b m:=by
 intro m;induction m with
 | zero=>intro _;rfl
 | succ m ih =>intro h;unfold aE;rw[h m Sg,ih (fun j hj=>h j Sg)]
