import Derived.Test.YtoiebmeajhpgcaaGreatDoorJNum
import Derived.OwnWalk
import Derived.Deep.RegionLaw
import Derived.Laws.Strings
set_option maxRecDepth 100000
set_option maxHeartbeats 16000000
set_option linter.all false
namespace Go.Proofs.YtoiebmeajhpgcaaGreatDoor
section
variable {n:Int}
open Tryz
open Go.RowKit
def side(n:Int):LI:=putK (af 4) 0 n 4
theorem db n:(side n).length=4:=by unfold side;rw[cg,ag]
theorem FV n:bZ (side n):=sE (cI 4) 0 n 4
def cD(n:Int)(b:LI):LI:=splice (splice (splice (af 32) 0 (side n)) 4 b) 28 (side n)
theorem dK n b(h:b.length<=24):(cD n b).length=32:=by
 have h1:(splice (af 32) 0 (side n)).length=32:=by rw[length_splice _ _ _ (by rw[db,ag];decide),ag]
 have h2:(splice (splice (af 32) 0 (side n)) 4 b).length=32:=by rw[length_splice _ _ _ (by rw[h1];omega),h1]
 unfold cD;rw[length_splice _ _ _ (by rw[db,h2];decide),h2]
theorem nZ n b(hb:bZ b):bZ (cD n b):=dB (dB (dB (cI 32) (FV n)) hb) (FV n)
theorem OP n a cap b w(hb:Bs w a cap b)(h1:¬n<1)(h2:¬4294967295<n)(h3:b.length<=24) :
  zC 163 #[zi n,.slice a b.length cap] w fun e w'=>∃g,e=zt #[.slice (zo g) 32 32,.nilIface]/\w.heap.size<=g/\gz w' g (cD n b)/\zB w w':=by
 obtain⟨i0,dU,cO,cU,cV⟩:=qAO dw;have HB:=ae hb;go_enter func163,ntmps163
 go_wp2_with (at_make;refine bV rfl _ _ 29 rfl i0 underlying29 dU cO cU cV _ _ _ _ 4 rfl rfl rfl rfl Sg ?_)
 intro w1 kF fQ ay;have Ff:=Dp (some (zp w.heap.size)) 4 (af 4) 0 4 n w1 (by have:=kF.bs (cI 4) YG;rwa[ag]at this) Si Si Sg (by show ¬(4294967295:Int)<n;omega) YG;rw[ag,show((0:Nat):Int)=0 from rfl,show((4:Nat):Int)=4 from rfl]at Ff;have HP:=ae Ff;have pQ:=ae ay;go_wp2_with fail
 refine HP.mono ?_;rintro e w2 ⟨gs,rfl,Jm,hks,aK⟩;have ai:=zTs pQ aK;have hBs:Bs w2 (zo gs) 4 (side n):=by have:=gz.bs (l:=side n) hks (FV n) Z7;rwa[db]at this
 have qp:=ae hBs;have CO:=ae ai;go_wp2_with (at_make;refine bV rfl _ _ 29 rfl i0 underlying29 dU cO cU cV _ _ _ _ 32 rfl rfl rfl rfl Sg ?_)
 intro w3 Af xF bD;have qw:=zTs CO bD;have hg:=CO.size;have q0:=qp.below bD;have gl:gs<w2.heap.size:=by obtain⟨b',o',e',hc⟩:=qp.2.2.2.2 (by intro e;have:=db n;rw[e]at this;cases this);have:=qAA (hc 0 Z7);simp at e';obtain⟨rfl,rfl⟩:=e';exact this
 obtain⟨X1,Mw⟩:∃X1,X1=splice (af 32) 0 (side n):=⟨_,rfl⟩;obtain⟨X2,PJ⟩:∃X2,X2=splice X1 4 b:=⟨_,rfl⟩;obtain⟨X3,hX3⟩:∃X3,X3=splice X2 28 (side n):=⟨_,rfl⟩;have l1:X1.length=32:=by rw[Mw,length_splice _ _ _ (by rw[db,ag];decide),ag]
 have l2:X2.length=32:=by rw[PJ,length_splice _ _ _ (by rw[l1];omega),l1]
 have k1:=kr Af X1;have k2:=kr k1 X2;have k3:=kr k2 X3;have b1:zB w2 (fj w3 w2.heap.size X1):=e8 _ bD zNr;have b2:zB w2 (fj (fj w3 w2.heap.size X1) w2.heap.size X2):=e8 _ b1 zNr;have b3:zB w2 (fj (fj (fj w3 w2.heap.size X1) w2.heap.size X2) w2.heap.size X3):=e8 _ b2 zNr;obtain⟨d4,e4,f4⟩:=WM (P:=prog) (t:=29) underlying29 aT w2.heap.size 4 28 rfl;obtain⟨d28,e28,f28⟩:=WM (P:=prog) (t:=29) underlying29 aT w2.heap.size 28 4 rfl;have c1:=qJ (P:=prog) w3 29 29 3 underlying29 aT w2.heap.size 0 32 32 (some (zp w2.heap.size)) _ 4 (af 32) (side n) Z7 (fun _=>rfl) (by rw[db,ag];decide) Af q0;have c2:=qJ (P:=prog) (fj w3 w2.heap.size X1) 29 29 3 underlying29 aT w2.heap.size 4 28 28 d4 a cap X1 b Sg (fun _=>f4 Si) (by rw[l1];omega) k1 (HB.below (CO.trans (b1.mono hg)));have c3:=qJ (P:=prog) (fj (fj w3 w2.heap.size X1) w2.heap.size X2) 29 29 3 underlying29 aT w2.heap.size 28 4 4 d28 _ 4 X2 (side n) Z7 (fun _=>f28 Si) (by rw[db,l2];decide) k2 (qp.below b2);rw[<-Mw]at c1;rw[<-PJ]at c2;rw[<-hX3]at c3;rw[db,show((4:Nat):Int)=4 from rfl]at c1 c3;rw[show((4:Nat):Int)=4 from rfl]at e4;rw[show((28:Nat):Int)=28 from rfl]at e28;have kP:X3=cD n b:=by rw[hX3,PJ,Mw];rfl
 have HF:=ae kP;have JW:=ae k3;have dF:=ae (CO.trans (b3.mono hg));have hgg:=hg;clear kP k1 k2 k3 b1 b2 b3 l1 l2 Mw PJ hX3 q0 gl bD Af qw CO qp f4 f28 xF fQ;go_wp2;go_ret2;exact⟨_,rfl,hgg,by rw[<-aa HF];exact JW,dF⟩
def dH(n:Int)(b:LI):LI×Int:=if n<1\/4294967295<n then ([],1)else if 24<b.length then ([],4)else (cD n b,0)
theorem Tj a len cap w(h:len≠32) :
  zC 325 #[.slice a len cap] w (zr (.tuple #[zi 0,.slice none 0 0,bc 3]) fun w'=>w=w'):=by
 go_enter func325,ntmps325
 go_wp2;go_ret3;exact Uq
theorem Yw a cap l w(hb:Bs w a cap l)(hl:l.length=32)(h1:dm l 0 4=0)(h2:dm l 28 4=0) :
  zC 325 #[.slice a l.length cap] w (zr (.tuple #[zi 0,.slice none 0 0,bc 5]) fun w'=>w=w'):=by
 have g1:=nB a cap l 0 4 w hb Si Si Si Sg;have g2:=nB a cap l 28 4 w hb Si Si Si Sg;rw[show(28:Int).toNat=28 from rfl,show(4:Int).toNat=4 from rfl,h2]at g2;rw[show(0:Int).toNat=0 from rfl,show(4:Int).toNat=4 from rfl,h1]at g1;rw[hl]at g1 g2 ⊢;have G1:=ae g1;have G2:=ae g2;exact uW
theorem Ti a cap l w(hb:Bs w a cap l)(hl:l.length=32)(h:dm l 0 4≠dm l 28 4) :
  zC 325 #[.slice a l.length cap] w (zr (.tuple #[zi 0,.slice none 0 0,bc 6]) fun w'=>w=w'):=by
 have g1:=nB a cap l 0 4 w hb Si Si Si Sg;have g2:=nB a cap l 28 4 w hb Si Si Si Sg;rw[show(28:Int).toNat=28 from rfl,show(4:Int).toNat=4 from rfl]at g2;rw[show(0:Int).toNat=0 from rfl,show(4:Int).toNat=4 from rfl]at g1;rw[hl]at g1 g2 ⊢;have G1:=ae g1;have G2:=ae g2;generalize dm l 0 4=x,dm l 28 4=y at*;by_cases h0:x=0
 ·have h9:¬y=0:=fun e=>h (by rw[h0,e])
  have h8:¬(0:Int)=y:=fun e=>h9 e.symm
  subst h0;clear h;exact uW
 ·exact uW
theorem zcn a cap l w(hb:Bs w a cap l)(hl:l.length=32)(h:dm l 0 4=dm l 28 4)(h0:¬dm l 0 4=0) :
  zC 325 #[.slice a l.length cap] w fun e w'=>∃g,e=zt #[zi (dm l 0 4),.slice (zo g) 24 24,.nilIface]/\w.heap.size<=g/\gz w' g ((l.drop 4).take 24)/\zB w w':=by
 obtain⟨i0,dU,cO,cU,cV⟩:=qAO dw;have g1:=nB a cap l 0 4 w hb Si Si Si Sg;have g2:=nB a cap l 28 4 w hb Si Si Si Sg;rw[show(28:Int).toNat=28 from rfl,show(4:Int).toNat=4 from rfl,<-h]at g2;rw[show(0:Int).toNat=0 from rfl,show(4:Int).toNat=4 from rfl]at g1;obtain⟨a4,hcut,aH⟩:=dP (P:=prog) (t:=29) underlying29 aT hb 4 28 Si Sg;rw[hl]at g1 g2 hcut ⊢;rw[show((4:Nat):Int)=4 from rfl,show((28:Nat):Int)=28 from rfl,show 28-4=24 from rfl]at hcut;rw[show 28-4=24 from rfl]at aH;have gS:((l.drop 4).take 24).length=24:=Tb;generalize dm l 0 4=x,(l.drop 4).take 24=L at*;have l9:=fun w1 h5 h6=>by have:=qI (P:=prog) w1 29 29 3 underlying29 aT w.heap.size 24 a4 (cap-4) (af 24) L (by rw[ag,gS]) h5 h6;rw[gS]at this;exact this
 have G1:=ae g1;have G2:=ae g2;have qp:=ae aH;clear g1 g2 hl hb h aH gS;go_enter func325,ntmps325
 go_wp2_with fail
 refine G1.m ?_;rintro w1 rfl;go_wp2_with fail
 refine G2.m ?_;rintro w1 rfl;go_wp2_with (at_make;refine bV rfl _ _ 29 rfl i0 underlying29 dU cO cU cV _ _ _ _ 24 rfl rfl rfl rfl Sg ?_)
 intro w1 kF fQ ay;have hc:=l9 w1 kF (qp.below ay);have HK:=ae (kr kF L);have pQ:=ae (e8 L ay zNr);go_wp2;go_ret3;exact⟨_,rfl,zNr,HK,pQ⟩
def bL(l:LI):Int×LI×Int :=if l.length≠32 then (0,[],3)else if dm l 0 4≠dm l 28 4 then (0,[],6)else if dm l 0 4=0 then (0,[],5)else (dm l 0 4,(l.drop 4).take 24,0)
def zfm(w:World)(n:Int)(L:LI)(x:Value)(e:Ending)(w':World):Prop :=∃a cap,e=zt #[zi n,.slice a L.length cap,x]/\Bs w' a cap L/\zB w w'
theorem pN{w}{x}{e}{w'}(he:e=zt #[zi n,.slice none 0 0,x])(hw:w=w'):zfm w n [] x e w' :=⟨none,0,he,eu _,Xd⟩
theorem zco a cap l w(hb:Bs w a cap l) :
  zC 325 #[.slice a l.length cap] w (zfm w (bL l).1 (bL l).2.1 (bc (bL l).2.2)):=by
 unfold bL;by_cases h:l.length≠32
 ·rw[zy h];exact(Tj a l.length cap w h).mono fun e w' ⟨he,hw⟩=>pN he hw
 ·rw[zn h];have hl:l.length=32:=by omega
  by_cases h2:dm l 0 4≠dm l 28 4
  ·rw[zy h2];exact(Ti a cap l w hb hl h2).mono fun e w' ⟨he,hw⟩=>pN he hw
  ·rw[zn h2];have h3:dm l 0 4=dm l 28 4:=by omega
   by_cases h4:dm l 0 4=0
   ·rw[zy h4];exact(Yw a cap l w hb hl h4 Sg).mono fun e w' ⟨he,hw⟩=>pN he hw
   ·rw[zn h4];have gS:((l.drop 4).take 24).length=24:=by simp;omega
    refine(zcn a cap l w hb hl h3 h4).mono fun e w' ⟨g,he,_,hk,ai⟩=>⟨some (zp g),24,?_,?_,ai⟩
    ·rw[he,gS];rfl
    ·have:=gz.bs hk (hb.1.sub 4 24) (by rw[gS];decide);rwa[gS]at this
def jk(l m:LI)(c:Nat):LI:=l.take c++m.drop c
theorem B9 n k:(af n).drop k=af (n-k):=by simp[af]
theorem MH n k(h:k<=n):(af n).take k=af k:=by simp[af,qBr h]
theorem Di n b(h:b.length<=24):cD n b=side n++((b++af (24-b.length))++side n):=by
 have hs:=db n;have e1:splice (af 32) 0 (side n)=side n++af 28:=by unfold splice;rw[hs,B9];rfl
 have e2:splice (side n++af 28) 4 b=side n++(b++af (28-b.length)):=by
  unfold splice;rw[qAy Sg,qAP Sg,qCK,hs,qAr Sg,qAg,B9]
  congr 3
  omega
 have l3:(side n++(b++af (28-b.length))).length=32:=by simp[hs,af];omega
 unfold cD;rw[e1,e2];unfold splice;rw[qAr (by rw[l3,hs];decide),qAh];have e3:(side n++(b++af (28-b.length))).take 28=side n++(b++af (24-b.length)):=by rw[List.take_append,hs,qAP Sg,List.take_append,qAP Sg,MH _ _ Sg]
 rw[e3,qBO]
theorem kL n(h1:1<=n)(h2:n<=4294967295):numOf (side n)=n:=by have h:=vT (af 4) 0 n 4 Si Si Sg (by show n<=4294967295;exact h2) YG;unfold dm at h;rw[qCE,qAP (by rw[cg,ag];decide)]at h;exact h
theorem yq n b(h:b.length<=24):(cD n b).take 4=side n:=by rw[Di n b h,qAy Z7,qAP Z7]
theorem Bi n b(h:b.length<=24):(cD n b).drop 28=side n:=by
 have hs:=db n;have l1:(b++af (24-b.length)).length=24:=by simp[af];omega
 rw[Di n b h,qCK,hs,qAr Sg,qAg,qCK,l1,qAr Sg,qAg];rfl
theorem XL n b(h:b.length<=24):((cD n b).drop 4).take 24=b++af (24-b.length):=by
 have hs:=db n;have l1:(b++af (24-b.length)).length=24:=by simp[af];omega
 rw[Di n b h,qCK,hs,qAr Sg,qAg]
 show(List.take 24 ((b++af (24-b.length))++side n))=_
 rw[qAy Sg,qAP Sg]
theorem qg l:dm l 0 4=numOf (l.take 4):=by unfold dm;rw[qCE]
theorem xl l(h:l.length=32):dm l 28 4=numOf (l.drop 28):=by unfold dm;rw[qAP Tb]
theorem oV n b(h1:1<=n)(h2:n<=4294967295)(h:b.length<=24):bL (cD n b)=(n,b++af (24-b.length),0):=by
 have hl:=dK n b h;have e1:dm (cD n b) 0 4=n:=by rw[qg,yq n b h,kL n h1 h2]
 have e2:dm (cD n b) 28 4=n:=by rw[xl _ hl,Bi n b h,kL n h1 h2]
 unfold bL;rw[zn Sg,e1,e2,zn Sg,zn Sg,XL n b h]
theorem Bv:∀ {l m:LI},l.length=m.length->bZ l->bZ m->numOf l=numOf m->l=m
 | [],[],_,_,_,_=>rfl
 | x::l,y::m,hlen,hl,hm,h=>by have h':x+256*numOf l=y+256*numOf m:=h;have hx:=hl x (qCZ ..);have hy:=hm y (qCZ ..);have e1:x=y:=Sg;have e2:numOf l=numOf m:=Sg;rw[e1,Bv (by simpa using hlen) (fun z hz=>hl z (qCI _ hz)) (fun z hz=>hm z (qCI _ hz)) e2]
theorem Ku(h1:1<=n)(h2:n<=4294967295):side n≠(af 32).take 4:=fun e=>by have:=kL n h1 h2;rw[e]at this;have h0:numOf ((af 32).take 4)=0:=rfl;omega
end
variable {m i k j n L a:Nat}{b K:LI}{l:List (Int×LI)}{s:Int}{W:Nat->Prop}{C v P:Nat->LI}
def kC(l:LI):Prop:=l.length=32/\bZ l
structure DS where
 secs:List (LI)
 mem:List (Nat×LI)
 left:Int
 down:Bool
variable {x:DS×Int}{D E:DS}
structure DS.Ok (D:DS):Prop where
 len:D.secs.length<=300
 sec:∀s∈D.secs,kC s
 mem:∀p∈D.mem,p.1<D.secs.length/\kC p.2
 apart:(D.mem.map (·.1)).Nodup
 left:-9223372036854775808<=D.left/\D.left<=9223372036854775807
def memPut:List (Nat×LI)->Nat->LI->List (Nat×LI)
 | [],i,b=>[(i,b)]
 | (j,c)::r,i,b=>if j=i then (i,b)::r else (j,c)::memPut r i b
def DS.rd(D:DS)(i:Nat):LI:=(D.mem.lookup i).getD (D.secs.getD i [])
theorem gQ{m:List (Nat×LI)}(h:m.lookup i=some b):(i,b)∈m:=by
 induction m with
 | nil=>simp at h
 | cons p r ih =>
  obtain⟨j,c⟩:=p;simp only[qDN]at h;split at h
  ·rename_i e
   simp at e h;subst e;subst h;simp
  ·exact qCI _ (ih h)
theorem fJ{m:List (Nat×LI)}:m.lookup i=none ↔ i ∉ m.map (·.1):=by
 induction m with
 | nil=>simp
 | cons p r ih =>
  obtain⟨j,c⟩:=p;simp only[qDN];split
  ·rename_i e
   simp at e;subst e;simp
  ·rename_i e
   have e':¬i=j:=WI;rw[ih];simp[e']
theorem xf{m:List (Nat×LI)}(hn:(m.map (·.1)).Nodup)(hk:k<m.length):m.lookup (m.getD k (0,[])).1=some (m.getD k (0,[])).2:=by
 induction m generalizing k with
 | nil=>simp at hk
 | cons p r ih =>
  obtain⟨j,c⟩:=p;simp only[qAn,qCQ]at hn;cases k with
  | zero=>simp
  | succ k =>
   have Hc:k<r.length:=zeN;have:=ih hn.2 Hc;have hm:(r.getD k (0,[])).1∈r.map (·.1):=by
    have:r.getD k (0,[])=r[k]:=by simp[List.getD,Hc]
    rw[this];exact qAT.2 ⟨_,qAf Hc,rfl⟩
   have aG:¬(r.getD k (0,[])).1=j:=fun e=>hn.1 (e▸hm)
   have e2:((j,c)::r).getD (k+1) (0,[])=r.getD k (0,[]):=UU;rw[e2,qDN];simp only[show((r.getD k (0,[])).1 == j)=false from by simpa using aG];exact this
theorem kM m i b j:(memPut m i b).lookup j=if j=i then some b else m.lookup j:=by
 induction m with
 | nil =>
  simp only[memPut,qDN,List.lookup_nil];by_cases h:j=i
  ·simp[h]
  ·have h':(j == i)=false:=by simpa using h
   simp[h,h']
 | cons p r ih =>
  obtain⟨k,c⟩:=p;unfold memPut;by_cases Pw:k=i
  ·subst Pw;simp only[if_true,qDN];by_cases h:j=k
   ·simp[h]
   ·have h':(j == k)=false:=by simpa using h
    simp[h,h']
  ·simp only[Pw,if_false,qDN,ih];by_cases h:j=k
   ·subst h;simp[Pw]
   ·have h':(j == k)=false:=by simpa using h
    simp[h']
theorem nT m i b:(memPut m i b).map (·.1)=if i∈m.map (·.1)then m.map (·.1)else m.map (·.1)++[i]:=by
 induction m with
 | nil=>simp[memPut]
 | cons p r ih =>
  obtain⟨k,c⟩:=p;unfold memPut;by_cases Pw:k=i
  ·subst Pw;simp
  ·simp only[Pw,if_false,qAn,ih];have:¬i=k:=fun e=>Pw e.symm
   by_cases hm:i∈r.map (·.1)
   ·simp[hm]
   ·simp[hm,this]
theorem zgO{m}{p}(h:p∈memPut m i b):p=(i,b)\/p∈m:=by
 induction m with
 | nil=>simp[memPut]at h;exact .inl h
 | cons q r ih =>
  obtain⟨k,c⟩:=q;unfold memPut at h;by_cases Pw:k=i
  ·simp[Pw]at h;rcases h with h|h
   ·exact .inl h
   ·exact .inr (by simp[h])
  ·simp[Pw]at h;rcases h with h|h
   ·exact .inr (by simp[h])
   ·rcases ih h with h|h
    ·exact .inl h
    ·exact .inr (by simp[h])
def flushK(secs:List (LI))(mem:List (Nat×LI)):Nat->List (LI)
 | 0=>secs
 | k+1=>(flushK secs mem k).set (mem.getD k (0,[])).1 (mem.getD k (0,[])).2
def nH(s b:LI)(cut:Nat):LI:=b.take cut++s.drop cut
def one(keep:List Bool)(aZ:Int)(cut k:Nat)(s b:LI):LI :=if (k:Int)=aZ then nH s b cut else if keep.getD k false then b else s
def dA(secs:List (LI))(mem:List (Nat×LI))(keep:List Bool)(aZ:Int)(cut:Nat):Nat->List (LI)
 | 0=>secs
 | k+1=>(dA secs mem keep aZ cut k).set (mem.getD k (0,[])).1 (one keep aZ cut k ((dA secs mem keep aZ cut k).getD (mem.getD k (0,[])).1 []) (mem.getD k (0,[])).2)
theorem jg(secs mem k):(flushK secs mem k).length=secs.length:=by
 induction k with
 | zero=>rfl
 | succ k ih=>simp[flushK,ih]
theorem fK(secs mem keep aZ cut k):(dA secs mem keep aZ cut k).length=secs.length:=by
 induction k with
 | zero=>rfl
 | succ k ih=>simp[dA,ih]
theorem rz(l:List (LI)) i x(h:i<l.length):(l.set i x).getD i []=x:=XZ
theorem getD_set_ne(l:List (LI)) x(h:i≠j):(l.set i x).getD j []=l.getD j []:=XZ
theorem Du{m:List (Nat×LI)}(hk:k<m.length):(m.getD k (0,[])).1∈m.map (·.1):=by have:m.getD k (0,[])=m[k]:=UR;rw[this];exact qAT.2 ⟨_,qAf hk,rfl⟩
theorem jN{m:List (Nat×LI)}(hk:k<m.length):m.getD k (0,[])∈m:=by have:m.getD k (0,[])=m[k]:=UR;rw[this];exact qAf hk
theorem key_inj{m:List (Nat×LI)}(hn:(m.map (·.1)).Nodup)(hj:j<m.length)(hk:k<m.length)(h:(m.getD j (0,[])).1=(m.getD k (0,[])).1):j=k:=by have e1:(m.getD j (0,[])).1=(m.map (·.1))[j]'(zbh):=zay;have e2:(m.getD k (0,[])).1=(m.map (·.1))[k]'(zeN):=UR;rw[e1,e2]at h;exact(List.getElem_inj hn).1 h
theorem tX(secs mem keep aZ cut)(i:Nat):∀k,(∀j,j<k->(mem.getD j (0,[])).1≠i)->(dA secs mem keep aZ cut k).getD i []=secs.getD i []
 | 0,_=>rfl
 | k+1,h=>by unfold dA;rw[getD_set_ne _ _ (h k (qBu k))];exact tX secs mem keep aZ cut i k (fun j hj=>h j Sg)
theorem JM{secs mem}(keep aZ cut)(hn:(mem.map (·.1)).Nodup)(hl:∀p∈mem,p.1<secs.length){k:Nat}(hk:k<mem.length):∀n,k<n->n<=mem.length ->(dA secs mem keep aZ cut n).getD (mem.getD k (0,[])).1 []=one keep aZ cut k (secs.getD (mem.getD k (0,[])).1 []) (mem.getD k (0,[])).2
 | 0,h,_=>Sg
 | n+1,h,hn'=>by
  unfold dA;by_cases e:k=n
  ·subst e;rw[rz _ _ _ (by rw[fK];exact hl _ (jN hk))];rw[tX secs mem keep aZ cut _ k (fun j hj e2=>by have:=key_inj hn Sg hk e2;omega)]
  ·rw[getD_set_ne _ _ (fun e2=>e (key_inj hn hk Sg e2.symm))];exact JM keep aZ cut hn hl hk n Sg Sg
theorem Ao(secs mem)(i:Nat):∀k,(∀j,j<k->(mem.getD j (0,[])).1≠i)->(flushK secs mem k).getD i []=secs.getD i []
 | 0,_=>rfl
 | k+1,h=>by unfold flushK;rw[getD_set_ne _ _ (h k (qBu k))];exact Ao secs mem i k (fun j hj=>h j Sg)
theorem JG{secs mem}(hn:(mem.map (·.1)).Nodup)(hl:∀p∈mem,p.1<secs.length)(hk:k<mem.length):∀n,k<n->n<=mem.length ->(flushK secs mem n).getD (mem.getD k (0,[])).1 []=(mem.getD k (0,[])).2
 | 0,h,_=>Sg
 | n+1,h,hn'=>by
  unfold flushK;by_cases e:k=n
  ·subst e;rw[rz _ _ _ (by rw[jg];exact hl _ (jN hk))]
  ·rw[getD_set_ne _ _ (fun e2=>e (key_inj hn hk Sg e2.symm))];exact JG hn hl hk n Sg Sg
theorem tF{l:List (LI)}{x s}(h:s∈l.set i x):s∈l\/s=x:=List.mem_or_eq_of_mem_set h
theorem cZ{l:List (LI)}(h:∀s∈l,kC s)(hi:i<l.length):kC (l.getD i []):=by have:l.getD i []=l[i]:=zdQ;rw[this];exact h _ (qAf hi)
theorem zk{s:LI}(hs:kC s)(hb:kC b) cut:kC (nH s b cut):=by
 refine⟨by simp[nH,hs.1,hb.1];omega,fun z hz=>?_⟩;rcases zMa hz with h | h
 ·exact hb.2 z (qAj h)
 ·exact hs.2 z (qBF h)
theorem zf3{s b:LI}(hs:kC s)(hb:kC b)(keep aZ cut k):kC (one keep aZ cut k s b):=by
 unfold one;split
 ·exact zk hs hb cut
 ·split
  ·exact hb
  ·exact hs
theorem Ei{secs mem}(hs:∀s∈secs,kC s)(hm:∀p∈mem,p.1<secs.length/\kC p.2):∀k,k<=mem.length->∀s∈flushK secs mem k,kC s
 | 0,_=>hs
 | k+1,h=>fun s h'=>by
  rcases tF h' with h1|h1
  ·exact Ei hs hm k Sg s h1
  ·rw[h1];exact(hm _ (jN Sg)).2
theorem yp{secs mem}(hs:∀s∈secs,kC s)(hm:∀p∈mem,p.1<secs.length/\kC p.2)(keep aZ cut):∀k,k<=mem.length->∀s∈dA secs mem keep aZ cut k,kC s
 | 0,_=>hs
 | k+1,h=>fun s h'=>by
  rcases tF h' with h1|h1
  ·exact yp hs hm keep aZ cut k Sg s h1
  ·rw[h1];refine zf3 (cZ (yp hs hm keep aZ cut k Sg) ?_) (hm _ (jN Sg)).2 _ _ _ _;rw[fK];exact(hm _ (jN Sg)).1
def DS.new(n:Nat):DS:=⟨List.replicate n (List.replicate 32 0),[],-1,false⟩
def DS.put(D:DS)(i:Nat)(b:LI):DS:={ D with mem:=memPut D.mem i b }
def DS.step(D:DS):DS:=if D.left=0 then { D with down:=true } else if 0<D.left then { D with left:=D.left-1 } else D
def DS.flush(D:DS):DS:={ D with secs:=flushK D.secs D.mem D.mem.length,mem:=[]}
def DS.bX(D:DS)(keep:List Bool)(aZ:Int)(cut:Nat):DS:=⟨dA D.secs D.mem keep aZ cut D.mem.length,[],-1,false⟩
def DS.ue(D:DS)(i:Int):Int:=if i<0\/(D.secs.length:Int)<=i then 1 else if D.down then 9 else 0
def DS.bN(D:DS)(i:Int)(b:LI):Int:=if i<0\/(D.secs.length:Int)<=i then 1 else if b.length≠32 then 3 else if D.down then 9 else if D.left=0 then 9 else 0
def DS.write(D:DS)(i:Int)(b:LI):DS:=if i<0\/(D.secs.length:Int)<=i\/b.length≠32\/D.down=true then D else (D.put i.toNat b).step
def DS.cG(D:DS):Int:=if D.down then 9 else if D.left=0 then 9 else 0
def DS.ba(D:DS):DS:=if D.down then D else if D.left=0 then { D with down:=true } else D.step.flush
theorem DS.KU(n:Nat)(h:n<=300):(DS.new n).Ok where
 len:=by simp[DS.new];exact h
 sec:=fun s hs=>by have:s=List.replicate 32 0:=List.eq_of_mem_replicate hs;subst this;exact⟨Sk,fun z hz=>by rw[List.eq_of_mem_replicate hz];omega⟩
 mem:=fun p hp=>by simp[DS.new]at hp
 apart:=zdZ
 left:=zdZ
theorem DS.Ok.put{D:DS}(h:D.Ok){i:Nat}{b:LI}(hi:i<D.secs.length)(hb:kC b):(D.put i b).Ok where
 len:=h.len
 sec:=h.sec
 mem:=fun p hp=>by
  rcases zgO hp with rfl|h1
  ·exact⟨hi,hb⟩
  ·exact h.mem p h1
 apart:=by
  show((memPut D.mem i b).map (·.1)).Nodup
  rw[nT];split
  ·exact h.apart
  ·rename_i hn
   rw[qCt];refine⟨h.apart,Sk,fun a ha c hc e=>?_⟩;simp at hc;subst hc;subst e;exact hn ha
 left:=h.left
theorem DS.Ok.step(h:D.Ok):D.step.Ok:=by
 unfold DS.step;split
 ·exact⟨h.len,h.sec,h.mem,h.apart,h.left⟩
 ·split
  ·refine⟨h.len,h.sec,h.mem,h.apart,?_⟩;have:=h.left
   show -9223372036854775808<=D.left-1/\D.left-1<=9223372036854775807
   omega
  ·exact h
theorem DS.Ok.flush{D:DS}(h:D.Ok):D.flush.Ok where
 len:=by show(flushK D.secs D.mem D.mem.length).length<=300;rw[jg];exact h.len
 sec:=Ei h.sec h.mem _ zNr
 mem:=fun p hp=>by simp[DS.flush]at hp
 apart:=by simp[DS.flush]
 left:=h.left
theorem DS.Ok.bX{D:DS}(h:D.Ok)(keep aZ cut):(D.bX keep aZ cut).Ok where
 len:=by show(dA D.secs D.mem keep aZ cut D.mem.length).length<=300;rw[fK];exact h.len
 sec:=yp h.sec h.mem _ _ _ _ zNr
 mem:=fun p hp=>by simp[DS.bX]at hp
 apart:=by simp[DS.bX]
 left:=by simp[DS.bX]
theorem DS.Ok.write(h:D.Ok){i}(hb:bZ b):(D.write i b).Ok:=by
 unfold DS.write;split
 ·exact h
 ·rename_i hn
  have h1:0<=i/\i<D.secs.length/\b.length=32:=by
   refine⟨?_,?_,?_⟩
   ·rcases Int.lt_or_le i 0 with h1|h1
    ·exact absurd (.inl h1) hn
    ·exact h1
   ·rcases Int.lt_or_le i D.secs.length with h1|h1
    ·exact h1
    ·exact absurd (.inr (.inl h1)) hn
   ·rcases Nat.decEq b.length 32 with h1|h1
    ·exact absurd (.inr (.inr (.inl h1))) hn
    ·exact h1
  exact(h.put Sg ⟨h1.2.2,hb⟩).step
theorem DS.Ok.fail(h:D.Ok){n}(hn:-9223372036854775808<=n/\n<=9223372036854775807):DS.Ok { D with left:=n }:=⟨h.len,h.sec,h.mem,h.apart,hn⟩
theorem DS.Ok.ba(h:D.Ok):D.ba.Ok:=by
 unfold DS.ba;split
 ·exact h
 ·split
  ·exact⟨h.len,h.sec,h.mem,h.apart,h.left⟩
  ·exact h.step.flush
theorem DS.Ok.rd(h:D.Ok)(hi:i<D.secs.length):kC (D.rd i):=by
 unfold DS.rd;cases e:D.mem.lookup i with
 | none=>exact cZ h.sec hi
 | some b=>exact(h.mem _ (gQ e)).2
theorem DS.Ok.ki(h:D.Ok):D.mem.length<=300:=by
 have h1:(D.mem.map (·.1)).length<=D.secs.length:=by have:=List.Nodup.length_le_of_subset h.apart (l₂:=List.range D.secs.length) (fun x hx=>by obtain⟨p,hp,rfl⟩:=qAT.1 hx;exact qAw.2 (h.mem p hp).1);simpa using this
 have:=h.len;simp at h1;omega
section
open Go.RowKit
def dq(x:DS×Int)(i:Int)(b:LI):DS×Int:=if x.2=0 then (x.1.write i b,x.1.bN i b)else x
def di(x:DS×Int):DS×Int:=if x.2=0 then (x.1.ba,x.1.cG)else x
def iY(x:DS×Int)(f:Nat->Int×LI):Nat->DS×Int
 | 0=>x
 | k+1=>dq (iY x f k) (f k).1 (f k).2
theorem A9(D:DS):D.step.secs=D.secs:=by exact PM
theorem ze(D:DS):D.step.mem=D.mem:=by exact PM
theorem fS(D:DS) i b:(D.write i b).secs=D.secs:=by
 unfold DS.write;split
 ·rfl
 ·rw[A9];rfl
theorem th(D:DS) i b(k:Nat)(h:(k:Int)≠i):(D.write i b).mem.lookup k=D.mem.lookup k:=by
 unfold DS.write;split
 ·rfl
 ·rename_i hn
  rw[ze]
  show(memPut D.mem i.toNat b).lookup k=_
  rw[kM,zn (fun e=>h Sg)]
theorem J3{i:Int}(h1:0<=i)(h2:i<D.secs.length)(h3:b.length=32):(D.bN i b=0/\D.down=false/\D.left≠0)\/(D.bN i b=9):=by unfold DS.bN;rw[zn Sg,zn Sg];exact F6
theorem jH{i}(h:D.bN i b=0):0<=i/\i<D.secs.length/\b.length=32/\D.down=false/\D.left≠0:=by
 unfold DS.bN at h;by_cases h1:i<0\/(D.secs.length:Int)<=i
 ·rw[zy h1]at h;cases h
 ·rw[zn h1]at h;by_cases h2:b.length≠32
  ·rw[zy h2]at h;cases h
  ·rw[zn h2]at h;by_cases hd:D.down=true
   ·rw[zy hd]at h;cases h
   ·rw[zn hd]at h;by_cases hl:D.left=0
    ·rw[zy hl]at h;cases h
    ·exact⟨Sg,Sg,Sg,by simpa using hd,hl⟩
theorem pR{i}(h:D.bN i b=0):D.write i b=(D.put i.toNat b).step:=by
 obtain⟨h1,h2,h3,h4,_⟩:=jH h;unfold DS.write;rw[zn];rintro (h|h|h|h)
 ·omega
 ·omega
 ·exact h h3
 ·rw[h4]at h;cases h
theorem y6{i}(h:D.bN i b=0):(D.write i b).mem.lookup i.toNat=some b:=by
 rw[pR h,ze]
 show(memPut D.mem i.toNat b).lookup i.toNat=_
 rw[kM,zy rfl]
theorem tj{i}(h:D.bN i b=0):(D.write i b).down=false:=by obtain⟨h1,h2,h3,h4,h5⟩:=jH h;rw[pR h];unfold DS.step;rw[zn (show ¬(D.put i.toNat b).left=0 from h5)];split <;> exact h4
theorem nO{i}(h:D.bN i b=0) k:(D.write i b).rd k=if (k:Int)=i then b else D.rd k:=by
 obtain⟨h1,_⟩:=jH h;unfold DS.rd;by_cases hk:(k:Int)=i
 ·rw[zy hk];have:k=i.toNat:=by omega
  rw[this,y6 h];rfl
 ·rw[zn hk,th D i b k hk,fS]
theorem o9(D:DS):(D.cG=0/\D.down=false/\D.left≠0)\/D.cG=9:=by unfold DS.cG;exact F6
theorem vY(h:D.cG=0):D.ba=D.step.flush/\D.step.down=false:=by
 rcases o9 D with ⟨_,h1,h2⟩|h1
 ·unfold DS.ba;rw[zn (by rw[h1];exact qAo),zn h2];refine⟨rfl,?_⟩;unfold DS.step;rw[zn h2];split <;> exact h1
 ·rw[h1]at h;cases h
theorem gV(h:D.cG=9):D.ba.secs=D.secs/\D.ba.mem=D.mem:=by
 unfold DS.ba;by_cases hd:D.down=true
 ·rw[zy hd];exact Uq
 ·rw[zn hd];by_cases hl:D.left=0
  ·rw[zy hl];exact Uq
  ·exfalso
   unfold DS.cG at h;rw[zn hd,zn hl]at h;cases h
theorem zS{m:List (Nat×LI)}(h:m.lookup k=some b):∃q,q<m.length/\m.getD q (0,[])=(k,b):=by obtain⟨q,hq,e⟩:=qAm (gQ h);exact⟨q,hq,by simp[List.getD,hq,e]⟩
theorem EF{m:List (Nat×LI)}(h:m.lookup k=none):∀j,j<m.length->(m.getD j (0,[])).1≠k:=fun j hj e=>fJ.1 h (e▸Du hj)
theorem Uo(h:D.Ok) k:D.flush.secs.getD k []=D.rd k:=by
 show(flushK D.secs D.mem D.mem.length).getD k []=_
 unfold DS.rd;cases e:D.mem.lookup k with
 | none=>exact Ao _ _ k _ (EF e)
 | some b =>obtain⟨q,hq,e2⟩:=zS e;have:=JG h.apart (fun p hp=>(h.mem p hp).1) hq D.mem.length hq zNr;rw[e2]at this;exact this
theorem zfL(D:DS) k:D.step.rd k=D.rd k:=by unfold DS.rd;rw[ze,A9]
theorem dc(h:D.Ok)(he:D.cG=0) k:D.ba.secs.getD k []=D.rd k/\D.ba.mem=[]/\D.ba.down=false:=by obtain⟨h1,h2⟩:=vY he;rw[h1];exact⟨by rw[Uo h.step,zfL],rfl,h2⟩
theorem CB(D:DS):D.ba.secs.length=D.secs.length:=by
 unfold DS.ba;split
 ·rfl
 ·split
  ·rfl
  ·show(flushK D.step.secs D.step.mem D.step.mem.length).length=_
   rw[jg,A9]
def QL(D:DS)(k:Nat)(v:LI):Prop:=v=D.secs.getD k []\/∃b,D.mem.lookup k=some b/\(v=b\/∃c,c<=32/\v=jk b (D.secs.getD k []) c)
theorem tW(h:D.Ok) keep aZ c(hc:c<=32) k:QL D k ((D.bX keep aZ c).secs.getD k []):=by
 show QL D k ((dA D.secs D.mem keep aZ c D.mem.length).getD k [])
 cases e:D.mem.lookup k with
 | none=>exact .inl (tX _ _ _ _ _ k _ (EF e))
 | some b =>
  obtain⟨q,hq,e2⟩:=zS e;have:=JM keep aZ c h.apart (fun p hp=>(h.mem p hp).1) hq D.mem.length hq zNr;rw[e2]at this;rw[this];unfold one;split
  ·exact .inr ⟨b,e,.inr ⟨c,hc,rfl⟩⟩
  ·split
   ·exact .inr ⟨b,e,.inl rfl⟩
   ·exact .inl rfl
def ub(W:Nat->Prop)(D:DS)(C:Nat->LI):Prop:=∀k,¬W k->D.mem.lookup k=none/\D.secs.getD k []=C k
theorem ub.Oa(h:ub W D C)(hk:¬W k){v}(hp:QL D k v):v=C k:=by
 obtain⟨h1,h2⟩:=h k hk;rcases hp with hp|⟨b,hb,_⟩
 ·rw[hp,h2]
 ·rw[h1]at hb;cases hb
theorem ub.write(h:ub W D C) i b(hi:∀k:Nat,(k:Int)=i->W k):ub W (D.write i b) C:=fun k hk=>by rw[th D i b k (fun e=>hk (hi k e)),fS];exact h k hk
theorem ub.rd(h:ub W D C)(hk:¬W k):D.rd k=C k:=by unfold DS.rd;rw[(h k hk).1,(h k hk).2];rfl
theorem ub.flush(h:ub W D C)(ho:D.Ok):ub W D.ba C:=fun k hk=>by
 rcases o9 D with ⟨he,_⟩|he
 ·obtain⟨h1,h2,_⟩:=dc ho he k;rw[h1,h2];exact⟨rfl,h.rd hk⟩
 ·rw[(gV he).1,(gV he).2];exact h k hk
structure xH (W:Nat->Prop) (C:Nat->LI) (n:Nat) (x:DS×Int):Prop where
 ok:x.1.Ok
 only:ub W x.1 C
 len:x.1.secs.length=n
 err:(x.2=0/\x.1.down=false)\/x.2=9
theorem xH.w(h:xH W C n x){i:Int}(h1:0<=i)(h2:i<n)(hb:kC b)(hi:W i.toNat):xH W C n (dq x i b):=by
 unfold dq;split
 ·rename_i hx
  refine⟨h.ok.write hb.2,h.only.write i b (fun k hk=>by rw[show k=i.toNat by omega];exact hi),by show(x.1.write i b).secs.length=n;rw[fS];exact h.len,?_⟩;rcases J3 (D:=x.1) h1 (by rw[h.len];exact h2) hb.1 with ⟨he,_⟩ | he
  ·exact .inl ⟨he,tj he⟩
  ·exact .inr he
 ·exact h
theorem xH.f(h:xH W C n x):xH W C n (di x):=by
 unfold di;split
 ·rename_i hx
  refine⟨h.ok.ba,h.only.flush h.ok,by show x.1.ba.secs.length=n;rw[CB];exact h.len,?_⟩;rcases o9 x.1 with ⟨he,_⟩|he
  ·exact .inl ⟨he,(dc h.ok he 0).2.2⟩
  ·exact .inr he
 ·exact h
theorem xH.ws{W:Nat->Prop}{C:Nat->LI}{n:Nat}{x:DS×Int}(h:xH W C n x){f:Nat->Int×LI}:∀m,(∀j,j<m->0<=(f j).1/\(f j).1<n/\kC (f j).2/\W (f j).1.toNat)->xH W C n (iY x f m)
 | 0,_=>h
 | m+1,hf=>(xH.ws h m (fun j hj=>hf j Sg)).w (hf m Sg).1 (hf m Sg).2.1 (hf m Sg).2.2.1 (hf m Sg).2.2.2
theorem jj{i}(h:(dq x i b).2=0):x.2=0/\x.1.bN i b=0/\(dq x i b).1=x.1.write i b:=by unfold dq at*;exact OY
theorem dV(h:(di x).2=0):x.2=0/\x.1.cG=0/\(di x).1=x.1.ba:=by unfold di at*;exact OY
theorem yf{x:DS×Int}{f:Nat->Int×LI}:∀m,(iY x f m).2=0->(∀i j,i<m->j<m->(f i).1=(f j).1->(f i).2=(f j).2) ->x.2=0/\(∀j,j<m->(iY x f m).1.rd (f j).1.toNat=(f j).2)/\∀k:Nat,(∀j,j<m->(f j).1≠k)->(iY x f m).1.rd k=x.1.rd k
 | 0,h,_=>⟨h,fun j hj=>Sg,fun k _=>rfl⟩
 | m+1,h,ZC=>by
  obtain⟨h1,h2,h3⟩:=jj (show(dq (iY x f m) (f m).1 (f m).2).2=0 from h);obtain⟨g1,g2,g3⟩:=yf m h1 (fun i j hi hj=>ZC i j Sg Sg);have ew:=(jH h2).1;refine⟨g1,fun j hj=>?_,fun k hk=>?_⟩
  ·show(dq (iY x f m) (f m).1 (f m).2).1.rd _=_
   rw[h3,nO h2];by_cases e:j=m
   ·subst e;rw[zy Sg]
   ·have hj':j<m:=by omega
    by_cases hz:0<=(f j).1
    ·by_cases e2:(f j).1=(f m).1
     ·rw[zy Sg];exact(ZC j m Sg Sg e2).symm
     ·rw[zn Sg,g2 j hj']
    ·exfalso
     have:∀q,j<q->(iY x f q).2=0->0<=(f j).1:=by
      intro q;induction q with
      | zero=>intro h;omega
      | succ q ih =>
       intro hq AT;obtain⟨a1,a2,_⟩:=jj (show(dq (iY x f q) (f q).1 (f q).2).2=0 from AT);by_cases e3:j=q
       ·subst e3;exact(jH a2).1
       ·exact ih Sg a1
     exact hz (this m hj' h1)
  ·show(dq (iY x f m) (f m).1 (f m).2).1.rd _=_
   rw[h3,nO h2,zn (fun e=>hk m Sg e.symm),g3 k (fun j hj=>hk j Sg)]
def fp(body:LI):LI:=(body.drop 1).take (body.getD 0 0).toNat
def mark(L:Nat)(b:LI):Option (Int×LI) :=if (bL b).2.2=0/\(bL b).2.1.getD 0 0<=23/\(∀z∈fp (bL b).2.1,z<L)then some ((bL b).1,fp (bL b).2.1)else none
def pick(x:Int×Nat×LI)(i:Nat)(m:Option (Int×LI)):Int×Nat×LI :=
 match m with
 | some (s,l)=>if x.1<s then (s,i,l)else x
 | none=>x
def nf(L:Nat)(a b:LI):Int×Nat×LI:=pick (pick (0,0,[]) 0 (mark L a)) 1 (mark L b)
theorem WX(ha:a=0\/a=1){l}(hm:mark L (v a)=some (s,l))(ho:∀t l',mark L (v (1-a))=some (t,l')->t<s)(hs:0<s):nf L (v 0) (v 1)=(s,a,l):=by grind[mark,nf,pick]
theorem dE{l}(hb:bZ b)(h:mark L b=some (s,l)):0<s/\l.length<=23/\(∀z∈l,0<=z/\z<L)/\b.take 4=b.drop 28/\numOf (b.take 4)=s/\b.length=32:=by
 unfold mark at h;split at h
 ·rename_i hc
  obtain⟨h1,h2,h3⟩:=hc;simp only[qAQ,qBs]at h;obtain⟨hs,hl⟩:=h;have hlen:b.length=32:=by
   by_cases e:b.length≠32
   ·unfold bL at h1;rw[zy e]at h1;cases h1
   ·omega
  have he:dm b 0 4=dm b 28 4:=by grind[bZ,mark,numOf,bL,dm,fp]
  have h0:¬dm b 0 4=0:=by intro e;unfold bL at h1;rw[zn Sg,zn Sg,zy e]at h1;cases h1
  have ho:bL b=(dm b 0 4,(b.drop 4).take 24,0):=by unfold bL;rw[zn Sg,zn Sg,zn h0]
  rw[ho]at hs hl h2 h3;have iT:=Wp b hb 0 4 Sg;refine⟨Sg,?_,?_,?_,by rw[<-qg];exact hs,hlen⟩
  ·rw[<-hl];unfold fp;simp;omega
  ·grind[bZ,mark,numOf,bL,dm,fp]
  ·rw[qg,xl b hlen]at he;exact Bv Tb (fun z hz=>hb z (qAj hz)) (fun z hz=>hb z (qBF hz)) he
 grind
def Rec(L:Nat)(v:Nat->LI)(s:Int)(P:Nat->LI):Prop :=∃a l,(a=0\/a=1)/\mark L (v a)=some (s,l)/\(∀t l',mark L (v (1-a))=some (t,l')->t<s)/\0<s/\(∀k,k<l.length->v (2+23*a+k)=P (l.getD k 0).toNat)/\∀i,i<L->(i:Int) ∉ l->v (48+i)=P i
structure jo (D:DS) (L:Nat) (s:Int) (P:Nat->LI) (a:Nat) (l:LI):Prop where
 ok:D.Ok
 mem:D.mem=[]
 down:D.down=false
 len:48+L<=D.secs.length
 lt:L<=200
 two:a=0\/a=1
 even:s%2=(a:Int)
 s1:1<=s
 s2:s<=1000
 Cw:mark L (D.secs.getD a [])=some (s,l)
 zx:∀k,k<l.length->D.secs.getD (2+23*a+k) []=P (l.getD k 0).toNat
 eH:∀i,i<L->D.secs.getD (48+i) []=P i
 other:(D.secs.getD (1-a) []).take 4=(D.secs.getD (1-a) []).drop 28
 Av:(D.secs.getD (1-a) []).take 4≠side (s+1)
 less:∀t l',mark L (D.secs.getD (1-a) [])=some (t,l')->t<s
def ik(L:Int)(l:List (Int×LI))(k:Nat):Int :=if (l.getD k (0,[])).1<0\/L<=(l.getD k (0,[])).1 then 1 else if (l.getD k (0,[])).2.length≠32 then 3 else if (List.range k).any (fun j=>(l.getD j (0,[])).1 == (l.getD k (0,[])).1)then 7 else 0
def chkK(L:Int)(l:List (Int×LI)):Nat->Int
 | 0=>0
 | k+1=>if chkK L l k=0 then ik L l k else chkK L l k
def cH(L:Int)(l:List (Int×LI)):Int:=if 23<l.length then 4 else chkK L l l.length
structure Valid (L:Nat) (l:List (Int×LI)):Prop where
 len:l.length<=23
 num:∀k,k<l.length->0<=(l.getD k (0,[])).1/\(l.getD k (0,[])).1<L
 body:∀k,k<l.length->(l.getD k (0,[])).2.length=32
 apart:∀j k,j<k->k<l.length->(l.getD j (0,[])).1≠(l.getD k (0,[])).1
theorem JP:∀n,chkK L l n=0->∀k,k<n->ik L l k=0
 | 0,_,k,hk=>Sg
 | n+1,h,k,hk=>by
  unfold chkK at h;by_cases h0:chkK L l n=0
  ·rw[zy h0]at h;by_cases e:k=n
   ·subst e;exact h
   ·exact JP n h0 k Sg
  ·rw[zn h0]at h;exact absurd h h0
theorem lO(h:cH L l=0):Valid L l:=by
 unfold cH at h;by_cases h1:23<l.length
 ·grind
 ·rw[zn h1]at h;have hp:=JP l.length h;have bQ:∀k,k<l.length->(0<=(l.getD k (0,[])).1/\(l.getD k (0,[])).1<L)/\(l.getD k (0,[])).2.length=32/\∀j,j<k->(l.getD j (0,[])).1≠(l.getD k (0,[])).1:=by grind[cH,ik]
  exact⟨Sg,fun k hk=>(bQ k hk).1,fun k hk=>(bQ k hk).2.1,fun j k hj hk=>(bQ k hk).2.2 j hj⟩
def bM(l:List (Int×LI)):LI:=(l.length:Int)::l.map (·.1)
def bR(D:DS)(a:Int)(l:List (Int×LI)):DS×Int:=di (iY (D,0) (fun i=>(2+23*a+i,(l.getD i (0,[])).2)) l.length)
def bE(x:DS×Int)(a s:Int)(l:List (Int×LI)):DS×Int :=di (if x.2=0 then (if (dH s (bM l)).2=0 then dq x a (dH s (bM l)).1 else (x.1,(dH s (bM l)).2))else x)
def iU(x:DS×Int)(l:List (Int×LI)):DS×Int:=di (iY x (fun i=>(48+(l.getD i (0,[])).1,(l.getD i (0,[])).2)) l.length)
def aM(D:DS)(s:Int)(l:List (Int×LI)):DS×Int:=iU (bE (bR D ((s+1)%2) l) ((s+1)%2) (s+1) l) l
def GG(P:Nat->LI)(l:List (Int×LI))(i:Nat):LI :=
 match l.find? (fun q=>q.1 == (i:Int))with
 | some q=>q.2
 | none=>P i
theorem pA(h:(i:Int) ∉ l.map (·.1)):GG P l i=P i:=by grind[GG]
theorem yj(hv:Valid L l)(hk:k<l.length):GG P l (l.getD k (0,[])).1.toNat=(l.getD k (0,[])).2:=by
 unfold GG;have h0:=hv.num k hk;have hq:(((l.getD k (0,[])).1.toNat:Nat):Int)=(l.getD k (0,[])).1:=Sg;rw[hq];cases e:l.find? (fun q=>q.1 == (l.getD k (0,[])).1)with
 | none =>have:=qCk.1 e (l.getD k (0,[])) UR;simp at this
 | some q =>
  have h1:q.1=(l.getD k (0,[])).1:=UB;obtain⟨j,hj,Cu⟩:=qAm (qBg e);have hg:l.getD j (0,[])=q:=UB;have:j=k:=by
   rcases qCq j k with h|h|h
   ·exact absurd (by rw[hg];exact h1) (hv.apart j k h hk)
   ·exact h
   ·exact absurd (by rw[hg];exact h1.symm) (hv.apart k j h hj)
  subst this;rw[hg]
theorem iQ l:(bM l).length=l.length+1:=by simp[bM]
theorem lA(hv:Valid L l)(h1:1<=s)(h2:s<=4294967295):dH s (bM l)=(cD s (bM l),0)/\mark L (cD s (bM l))=some (s,l.map (·.1)):=by
 have hl:=hv.len;have hm:=iQ l;refine⟨by unfold dH;rw[zn Sg,zn Sg],?_⟩;have ho:=oV s (bM l) h1 h2 Sg;have hn:fp (bM l++af (24-(bM l).length))=l.map (·.1):=by simp_all[dH,bM,cD,mark,fp,af]
 unfold mark;rw[ho];rw[hn,zy];refine⟨rfl,?_,fun z hz=>?_⟩
 ·show(l.length:Int)<=23
  omega
 ·obtain⟨q,hq,rfl⟩:=qAT.1 hz;obtain⟨j,hj,Cu⟩:=qAm hq;have:=hv.num j hj;have hg:l.getD j (0,[])=q:=by grind
  rw[hg]at this;exact this.2
theorem pJ(l:List (Int×LI))(hk:k<l.length):(l.map (·.1)).getD k 0=(l.getD k (0,[])).1:=UR
theorem QF{i}(h:x.2≠0):dq x i b=x:=by grind[dq]
theorem wv(h:x.2≠0):di x=x:=by grind[di]
theorem Vf{x:DS×Int}{f:Nat->Int×LI}(h:x.2≠0):∀m,iY x f m=x
 | 0=>rfl
 | m+1=>by
  show dq (iY x f m) (f m).1 (f m).2=x
  rw[Vf h m,QF h]
theorem nX(h:x.2≠0):iU x l=x:=by grind[iU,Vf,wv]
theorem wm{a:Int}(h:x.2≠0):bE x a s l=x:=by grind[bE,wv]
theorem uf{i}{b':LI}(h:(D.write i b).mem.lookup k=some b'):D.mem.lookup k=some b'\/b'=b:=by
 by_cases hk:(k:Int)=i
 ·unfold DS.write at h;split at h
  ·exact .inl h
  ·rw[ze]at h;have h':(memPut D.mem i.toNat b).lookup k=some b':=h;rw[kM]at h';split at h'
   ·grind
   ·omega
 ·rw[th D i b k hk]at h;exact .inl h
def dY(D:DS)(k:Nat):LI:=D.secs.getD k []
theorem gI(h:D.mem=[]) W:ub W D (dY D):=by grind[ub,dY]
section
variable {D:DS} {L:Nat} {s:Int} {P:Nat->LI} {a:Nat} {nl:LI} {l:List (Int×LI)}
def sS(a:Nat)(k:Nat):Prop:=2+23*(1-a)<=k/\k<25+23*(1-a)
variable {E:DS}
end
def cP(D:DS)(a:Nat)(l:LI):DS×Int:=di (iY (D,0) (fun i=>(48+l.getD i 0,D.rd (2+23*a+i))) l.length)
structure rD (D E:DS) (L:Nat) (P:Nat->LI):Prop where
  ok:E.Ok
  mem:E.mem=[]
  down:E.down=false
  len:E.secs.length=D.secs.length
  low:∀k,k<48->dY E k=dY D k
  eH:∀i,i<L->dY E (48+i)=P i
theorem kK(h:D.mem=[]) k:D.rd k=dY D k:=by grind[dY,DS.rd]
theorem lW{l:LI}(hk:k<l.length):l.getD k 0∈l:=UB
theorem Oj{D:DS}{L:Nat}{s:Int}{P:Nat->LI}(jB:D.Ok)(hm:D.mem=[])(hd:D.down=false)(hlen:48+L<=D.secs.length)(hr:Rec L (dY D) s P) :
    ∃a l,nf L (dY D 0) (dY D 1)=(s,a,l)/\0<s/\(a=0\/a=1)/\l.length<=23/\(∀z∈l,0<=z/\z<L) /\
      (((cP D a l).2=0/\rD D (cP D a l).1 L P) \/
       ((cP D a l).2=9/\(cP D a l).1.Ok/\(cP D a l).1.secs.length=D.secs.length/\∀v:Nat->LI,(∀k,QL (cP D a l).1 k (v k))->Rec L v s P)):=by
  obtain⟨a,l,h2,hg,Wg,hs,Cp,Fg⟩:=hr;have hf:=dE (cZ jB.sec (show a<D.secs.length by omega)).2 hg;refine⟨a,l,WX h2 hg Wg hs,hs,h2,hf.2.1,hf.2.2.1,?_⟩;have hl:=hf.2.1;have l6:=hf.2.2.1;have r0:xH (fun k=>∃j,j<l.length/\(k:Int)=48+l.getD j 0) (dY D) D.secs.length (D,0):=⟨jB,gI hm _,rfl,.inl ⟨rfl,hd⟩⟩;have r1:=r0.ws (f:=fun i=>(48+l.getD i 0,D.rd (2+23*a+i))) l.length (fun j hj=>by have hn:=l6 _ (lW hj);refine⟨?_,?_,jB.rd Sg,j,hj,?_⟩ <;> (dsimp only;omega));have r2:=r1.f;unfold cP;rcases r2.err with ⟨hz,hdz⟩ | hz
  · left
    obtain⟨f1,f2,f3⟩:=dV hz;have lF:=fun k=>dc r1.ok f2 k
    have hw:=yf l.length f1 (fun i j hi hj e=>by dsimp only at e ⊢;rw[kK hm,kK hm,Cp i hi,Cp j hj,show l.getD i 0=l.getD j 0 by omega]);refine⟨hz,r2.ok,by rw[f3];exact(lF 0).2.1,hdz,r2.len,fun k hk=>(r2.only k (fun⟨j,hj,fR⟩=>zl1)).2,fun i hi=>?_⟩;by_cases fu:(i:Int)∈l
    · obtain⟨j,hj,Cu⟩:=qAm fu
      have hjd:l.getD j 0=(i:Int):=UB
      have e1:=hw.2.1 j hj;dsimp only at e1;rw[hjd,show(48+(i:Int)).toNat=48+i by omega,kK hm,Cp j hj,hjd,zTn]at e1
      show(di _).1.secs.getD (48+i) []=_
      rw[f3,(lF _).1,e1]
    · have ig:¬∃j,j<l.length/\((48+i:Nat):Int)=48+l.getD j 0:=fun⟨j,hj,fR⟩=>fu ziS
      have e1:dY (di (iY (D,0) (fun i=>(48+l.getD i 0,D.rd (2+23*a+i))) l.length)).1 (48+i)=dY D (48+i):=(r2.only _ ig).2;rw[e1];exact Fg i hi fu
  · right
    refine⟨hz,r2.ok,r2.len,fun v hp=>?_⟩;have e:∀k:Nat,¬(∃j,j<l.length/\(k:Int)=48+l.getD j 0)->v k=dY D k:=fun k hk=>r2.only.Oa hk (hp k)
    have low:∀k:Nat,k<48->v k=dY D k:=fun k hk=>e k (fun⟨j,hj,fR⟩=>zl1)
    refine⟨a,l,h2,?_,?_,hs,fun k hk=>?_,fun i hi fu=>?_⟩
    · rw[low a Sg];exact hg
    · grind
    · rw[low _ Sg];exact Cp k hk
    · rw[e (48+i) (fun⟨j,hj,fR⟩=>fu ziS)]
      exact Fg i hi fu
theorem rD.again(h:rD D E L P)(hr:Rec L (dY D) s P)(jB:D.Ok)(hlen:48+L<=D.secs.length):Rec L (dY E) s P:=by
  obtain⟨a,l,h2,hg,Wg,hs,Cp,Fg⟩:=hr;have hf:=dE (cZ jB.sec (show a<D.secs.length by omega)).2 hg;refine⟨a,l,h2,?_,?_,hs,fun k hk=>?_,fun i hi _=>h.eH i hi⟩
  · rw[h.low a Sg];exact hg
  · rw[h.low (1-a) Sg];exact Wg
  · rw[h.low _ (by have:=hf.2.1;omega)];exact Cp k hk
def bG(D:DS):DS×Int:=di (dq (dq (D,0) 0 (cD 2 [])) 1 (af 32))
theorem mF:kC (af 32):=⟨ag 32,cI 32⟩
theorem wO:kC (cD 2 []):=⟨dK 2 [] Si,nZ 2 [] (fun z hz=>Vt)⟩
theorem zcN L:mark L (cD 2 [])=some (2,[]):=Tq
theorem Tz L:mark L (af 32)=none:=Tq
theorem qi n(h:48<n)(hn:n<=300) L(hL:48+L<=n)(Wo:L<=200):(bG (DS.new n)).2=0/\jo (bG (DS.new n)).1 L 2 (fun _=>af 32) 0 []/\(bG (DS.new n)).1.secs.length=n:=by
  have hlen:(DS.new n).secs.length=n:=zdZ;have r0:xH (fun k=>k=0\/k=1) (dY (DS.new n)) n (DS.new n,0):=⟨DS.KU n hn,gI rfl _,hlen,.inl ⟨rfl,rfl⟩⟩;have r1:=r0.w (i:=0) (b:=cD 2 []) Sg Sg wO (.inl rfl);have r2:=r1.w (i:=1) (b:=af 32) Sg Sg mF (.inr rfl);have r3:=r2.f;have e1:(DS.new n).bN 0 (cD 2 [])=0:=by unfold DS.bN;rw[zn (by rw[hlen];omega),zn (by rw[wO.1];decide)];rfl
  have jC:((DS.new n).write 0 (cD 2 [])).left=-1:=by rw[pR e1];rfl
  have T9:=tj e1;have e2:((DS.new n).write 0 (cD 2 [])).bN 1 (af 32)=0:=by unfold DS.bN;rw[zn (by rw[fS,hlen];omega),zn YG,zn (by rw[T9];exact qAo),zn (by rw[jC];decide)]
  have gS:(((DS.new n).write 0 (cD 2 [])).write 1 (af 32)).left=-1:=by rw[pR e2];unfold DS.step;have:(((DS.new n).write 0 (cD 2 [])).put (1:Int).toNat (af 32)).left=-1:=jC;rw[zn (by rw[this];decide),zn (by rw[this];decide)];exact jC
  have Wl:=tj e2;have x1:dq (DS.new n,0) 0 (cD 2 [])=((DS.new n).write 0 (cD 2 []),0):=by unfold dq;rw[zy rfl,e1]
  have x2:dq (dq (DS.new n,0) 0 (cD 2 [])) 1 (af 32)=(((DS.new n).write 0 (cD 2 [])).write 1 (af 32),0):=by rw[x1];unfold dq;rw[zy rfl,e2]
  have e3:(((DS.new n).write 0 (cD 2 [])).write 1 (af 32)).cG=0:=by unfold DS.cG;rw[zn (by rw[Wl];exact qAo),zn (by rw[gS];decide)]
  have x3:bG (DS.new n)=((((DS.new n).write 0 (cD 2 [])).write 1 (af 32)).ba,0):=by unfold bG;rw[x2];unfold di;rw[zy rfl,e3]
  have zkv:(((DS.new n).write 0 (cD 2 [])).write 1 (af 32)).Ok:=by have:=r2.ok;rw[x2]at this;exact this
  have lF:=fun k=>dc zkv e3 k
  have hi:∀k,dY (((DS.new n).write 0 (cD 2 [])).write 1 (af 32)).ba k=if (k:Int)=1 then af 32 else if (k:Int)=0 then cD 2 []else dY (DS.new n) k:=fun k=>by
    show(DS.ba _).secs.getD k []=_
    rw[(lF k).1,nO e2,nO e1];rfl
  have hz:∀k,k<n->dY (DS.new n) k=af 32:=fun k hk=>by grind[bG,DS.new,af,dY,cD,DS.bN,DS.step,dq]
  have h3:=r3.ok;have l7:=r3.len;change (bG (DS.new n)).1.Ok at h3;change (bG (DS.new n)).1.secs.length=n at l7;rw[x3]at h3 l7;rw[x3];have i0:dY (((DS.new n).write 0 (cD 2 [])).write 1 (af 32)).ba 0=cD 2 []:=UB;have i1:dY (((DS.new n).write 0 (cD 2 [])).write 1 (af 32)).ba 1=af 32:=by rw[hi 1,zy Si]
  refine⟨rfl,⟨h3,(lF 0).2.1,(lF 0).2.2,by show 48+L<=(DS.ba _).secs.length;rw[l7];exact hL,Wo,.inl rfl,Si,Si,Si,?_,fun k hk=>?_,fun i hL3=>?_,?_,?_,?_⟩,l7⟩
  · show mark L (dY _ 0)=_
    rw[i0];exact zcN L
  · cases hk
  · show dY _ (48+i)=_
    rw[hi,zn Sg,zn Sg,hz _ Sg]
  · show(dY _ 1).take 4=(dY _ 1).drop 28
    rw[i1];rfl
  · show(dY _ 1).take 4≠_
    rw[i1];exact fun e=>Ku (n:=2+1) Si Si e.symm
  · show ∀t l',mark L (dY _ 1)=some (t,l')->t<2
    rw[i1,Tz];intro t l' ht;cases ht
def aj(D:DS)(s:Int)(L:Nat)(l:List (Int×LI)):DS×Int×Int :=if cH L l≠0 then (D,s,cH L l)else if D.down then (D,s,9)else if l=[]then (D,s,0)else ((aM D s l).1,if (aM D s l).2=0 then s+1 else s,(aM D s l).2)
def cj(D:DS)(L:Nat):DS×Int×Int :=
 if D.down then (D,0,9)else if (nf L (D.rd 0) (D.rd 1)).1=0 then (D,0,5)else
  ((cP D (nf L (D.rd 0) (D.rd 1)).2.1 (nf L (D.rd 0) (D.rd 1)).2.2).1,if (cP D (nf L (D.rd 0) (D.rd 1)).2.1 (nf L (D.rd 0) (D.rd 1)).2.2).2=0 then (nf L (D.rd 0) (D.rd 1)).1 else 0,(cP D (nf L (D.rd 0) (D.rd 1)).2.1 (nf L (D.rd 0) (D.rd 1)).2.2).2)
def ni(x:DS×Int):Prop:=x.1.left<0/\(x.2=0->x.1.down=false)/\x.2≠9
theorem pD(h:D.left<0):D.step=D:=by grind[DS.step]
theorem ni.w(h:ni x) i b:ni (dq x i b):=by
 unfold dq;split
 ·rename_i hx
  have hd:=h.2.1 hx;have he:x.1.bN i b≠9:=by
   unfold DS.bN;split
   ·decide
   ·split
    ·decide
    ·rw[zn zae,zn zgR];decide
  have hl:(x.1.write i b).left<0/\(x.1.write i b).down=false:=by
   unfold DS.write;split
   ·exact⟨h.1,hd⟩
   ·rw[pD (show(x.1.put i.toNat b).left<0 from h.1)];exact⟨h.1,hd⟩
  exact⟨hl.1,fun _=>hl.2,he⟩
 grind
theorem ni.f(h:ni x):ni (di x):=by
 unfold di;split
 ·rename_i hx
  have hd:=h.2.1 hx;have h1:=h.1;have he:x.1.cG=0:=by unfold DS.cG;rw[zn zae,zn Sg]
  obtain⟨e1,e2⟩:=vY he;refine⟨?_,fun _=>?_,by show x.1.cG≠9;rw[he];decide⟩
  ·show x.1.ba.left<0
   rw[e1,pD h.1];exact h.1
  ·show x.1.ba.down=false
   rw[e1];exact e2
 grind
theorem ni.ws(h:ni x) f:∀m,ni (iY x f m)
 | 0=>h
 | m+1=>(ni.ws h f m).w _ _
theorem EU s b:(dH s b).2≠9:=by grind[dH]
theorem ni.open{l}(h:D.left<0)(hd:D.down=false):(cP D a l).2≠9/\(cP D a l).1.left<0:=by have h0:ni (D,0):=⟨h,fun _=>hd,zlf⟩;have h3:ni (cP D a l):=(h0.ws _ _).f;exact⟨h3.2.2,h3.1⟩
structure kD (D:DS) (L:Nat) (s:Int) (P:Nat->LI):Prop where
 ok:D.Ok
 mem:D.mem=[]
 down:D.down=false
 len:48+L<=D.secs.length
 zge:Rec L (dY D) s P
theorem nN(jB:D.Ok)(hlen:48+L<=D.secs.length) keep aZ c(hr:Rec L (dY (D.bX keep aZ c)) s P):kD (D.bX keep aZ c) L s P :=⟨jB.bX keep aZ c,rfl,rfl,zpu,hr⟩
theorem ox(hm:D.mem=[]) keep aZ c:dY (D.bX keep aZ c)=dY D:=by
 funext k
 show(dA D.secs D.mem keep aZ c D.mem.length).getD k []=_
 rw[hm];rfl
theorem yx(h:kD D L s P) :
  ((cj D L).2.2=0/\(cj D L).2.1=s/\rD D (cj D L).1 L P/\kD (cj D L).1 L s P/\(D.left<0->(cj D L).1.left<0)) \/
  ((cj D L).2.2=9/\¬D.left<0/\(cj D L).1.Ok/\48+L<=(cj D L).1.secs.length/\∀keep aZ c,c<=32->kD ((cj D L).1.bX keep aZ c) L s P):=by
 obtain⟨a,l,hb,hs,h2,hl,hn,sg⟩:=Oj h.ok h.mem h.down h.len h.zge;have e0:cj D L=((cP D a l).1,if (cP D a l).2=0 then s else 0,(cP D a l).2):=by unfold cj;rw[kK h.mem,kK h.mem,hb,zn zhz,zn (show ¬s=0 by omega)]
 rw[e0];rcases sg with ⟨r1,r2⟩|⟨r1,r2,r3,r4⟩
 ·left;refine⟨r1,by show(if (cP D a l).2=0 then s else 0)=s;rw[zy r1],r2,⟨r2.ok,r2.mem,r2.down,by rw[r2.len];exact h.len,r2.again h.zge h.ok h.len⟩,fun oz=>(ni.open oz h.down).2⟩
 ·right;refine⟨r1,fun oz=>(ni.open oz h.down).1 r1,r2,by rw[r3];exact h.len,fun keep aZ c hc=>nN r2 (by rw[r3];exact h.len) keep aZ c (r4 _ (tW r2 keep aZ c hc))⟩
def Bk(b:LI)(s:Int):Prop:=numOf (b.drop 28)<s
theorem VZ{l}(hb:bZ b)(h:mark L b=some (s,l)):Bk b (s+1):=by obtain⟨_,_,_,h4,h5,_⟩:=dE hb h;unfold Bk;rw[<-h4,h5];omega
theorem Bk.less(h:Bk b s)(hb:bZ b):∀t l',mark L b=some (t,l')->t<s:=fun t l' ht=>by obtain⟨_,_,_,h4,h5,_⟩:=dE hb ht;unfold Bk at h;rw[<-h4,h5]at h;exact h
theorem Wr{l:LI}(h:l.length=4):∃a b c d,l=[a,b,c,d]:=by
 match l,h with
 | [a,b,c,d],_=>exact⟨a,b,c,d,rfl⟩
theorem zfE{X Y}{n}(hx:X.length=32)(hy:Y.length=32)(bx:bZ X)(by':bZ Y)(hX:numOf (X.drop 28)=n+1)(hY:Bk Y n){c}(hc:c<=32):jk X Y c=X\/Bk (jk X Y c) n:=by
 unfold Bk at hY ⊢;have zkp:jk X Y c=X\/(c<=28/\(jk X Y c).drop 28=Y.drop 28)\/(28<c/\(jk X Y c).take 28=X.take 28/\(jk X Y c).drop 28=(X.drop 28).take (c-28)++(Y.drop 28).drop (c-28)):=by
  right;by_cases h:c<=28
  ·left;refine⟨h,?_⟩;unfold jk;rw[qCK,List.drop_of_length_le Tb,qAg,qCh,zLt];exact Qm
  ·right;refine⟨Sg,?_,?_⟩
   ·unfold jk;rw[qAy Tb,qCO,qBr Sg]
   ·unfold jk;rw[qCX Tb,qCh,List.drop_take,show 28+(c-28)=c by omega]
 rcases zkp with h|⟨_,h⟩|⟨h1,h2,h3⟩
 ·exact .inl h
 ·right;rw[h];exact hY
 ·obtain⟨x0,x1,x2,x3,ex⟩:=Wr (l:=X.drop 28) Tb;obtain⟨y0,y1,y2,y3,ey⟩:=Wr (l:=Y.drop 28) Tb;have Js:=fun z hz=>bx z (qBF (i:=28) (by rw[ex];exact hz))
  have iF:=fun z hz=>by' z (qBF (i:=28) (by rw[ey];exact hz))
  have b0:=Js x0 Sk;have b1:=Js x1 Sk;have b2:=Js x2 Sk;have b3:=Js x3 Sk;have d0:=iF y0 Sk;have d1:=iF y1 Sk;have d2:=iF y2 Sk;have d3:=iF y3 Sk;have bQ:(jk X Y c).drop 28=X.drop 28->jk X Y c=X:=fun e=>by rw[<-qBw 28 (jk X Y c),h2,e,qBw]
  rw[ex]at hX bQ;rw[ey]at hY;rw[ex,ey]at h3;rw[h3]at bQ ⊢;simp only[numOf]at hX hY;have Jr:c-28=1\/c-28=2\/c-28=3\/c-28=4:=Sg;rcases Jr with e|e|e|e <;> rw[e]at bQ ⊢ <;> simp only[List.take,List.drop,qBG,qAg,numOf]at bQ ⊢
  ·by_cases hh:y1=x1/\y2=x2/\y3=x3
   ·obtain⟨rfl,rfl,rfl⟩:=hh;exact .inl (bQ rfl)
   ·right;omega
  ·by_cases hh:y2=x2/\y3=x3
   ·obtain⟨rfl,rfl⟩:=hh;exact .inl (bQ rfl)
   ·right;omega
  ·by_cases hh:y3=x3
   ·obtain rfl:=hh;exact .inl (bQ rfl)
   ·right;omega
  ·exact .inl (bQ trivial)
def Rb(L:Nat)(v:Nat->LI)(s:Int)(P:Nat->LI):Prop :=∃a l,(a=0\/a=1)/\s%2=((a:Nat):Int)/\mark L (v a)=some (s,l)/\Bk (v (1-a)) s/\0<s/\(∀k,k<l.length->v (2+23*a+k)=P (l.getD k 0).toNat)/\∀i,i<L->(i:Int) ∉ l->v (48+i)=P i
theorem Rb.again(h:Rb L v s P)(hb:bZ (v 0)/\bZ (v 1)):Rec L v s P:=by
 obtain⟨a,l,h1,_,h3,h4,h5⟩:=h;refine⟨a,l,h1,h3,h4.less ?_,h5⟩;rcases h1 with rfl|rfl
 ·exact hb.2
 ·exact hb.1
structure Nt (D:DS) (L:Nat) (s:Int) (P:Nat->LI) (a:Nat) (l:LI):Prop where
 ok:D.Ok
 mem:D.mem=[]
 down:D.down=false
 len:48+L<=D.secs.length
 lt:L<=200
 two:a=0\/a=1
 even:s%2=(a:Int)
 s1:1<=s
 s2:s<=10000
 Cw:mark L (D.secs.getD a [])=some (s,l)
 zx:∀k,k<l.length->D.secs.getD (2+23*a+k) []=P (l.getD k 0).toNat
 eH:∀i,i<L->D.secs.getD (48+i) []=P i
 bk:Bk (D.secs.getD (1-a) []) s
def zlV(D:DS)(L:Nat)(s:Int)(P:Nat->LI)(l:List (Int×LI)):Prop :=∀v:Nat->LI,(∀k,QL D k (v k))->Rb L v s P\/Rb L v (s+1) (GG P l)
section
variable {D:DS} {L:Nat} {s:Int} {P:Nat->LI} {a:Nat} {nl:LI} {l:List (Int×LI)}
theorem zbG(h:Nt D L s P a nl)(hv:Valid L l)(hb:∀k,k<l.length->bZ (l.getD k (0,[])).2):xH (sS a) (dY D) D.secs.length (bR D ((s+1)%2) l):=by
 have ha:(s+1)%2=((1-a:Nat):Int):=zh0
 have hl:=h.len;have hvl:=hv.len;unfold bR;refine xH.f (xH.ws (⟨h.ok,gI h.mem _,rfl,.inl ⟨rfl,h.down⟩⟩:xH (sS a) (dY D) D.secs.length (D,0)) l.length (fun j hj=>?_));rw[ha];have h2:=h.two;have hL:=hv.num j hj;refine⟨Sg,Sg,⟨hv.body j hj,hb j hj⟩,?_⟩;unfold sS;constructor <;> omega
theorem zln(h:Nt D L s P a nl){D'}(ho:ub (sS a) D' (dY D)):∀v:Nat->LI,(∀k,QL D' k (v k))->Rb L v s P:=by
 intro v hv;have e:=fun k hk=>ho.Oa hk (hv k)
 have hn:=dE (cZ h.ok.sec (by have:=h.len;rcases h.two with rfl | rfl <;> omega)).2 h.Cw;have h2:=h.two;refine⟨a,nl,h.two,h.even,?_,?_,by have:=h.s1;omega,fun k hk=>?_,fun i hi _=>?_⟩
 ·rw[e a Vy];exact h.Cw
 ·rw[e (1-a) Vy];exact h.bk
 ·rw[e (2+23*a+k) (by unfold sS;have:=hn.2.1;omega)];exact h.zx k hk
 ·rw[e (48+i) Vy];exact h.eH i hi
structure Gr (D:DS) (L:Nat) (s:Int) (P:Nat->LI) (a:Nat) (nl:LI) (l:List (Int×LI)) (E:DS):Prop where
 ok:E.Ok
 mem:E.mem=[]
 down:E.down=false
 len:E.secs.length=D.secs.length
 same:∀k,¬sS a k->dY E k=dY D k
 body:∀j,j<l.length->dY E (2+23*(1-a)+j)=(l.getD j (0,[])).2
theorem zlz(h:Nt D L s P a nl)(hv:Valid L l)(hb:∀k,k<l.length->bZ (l.getD k (0,[])).2)(he:(bR D ((s+1)%2) l).2=0):Gr D L s P a nl l (bR D ((s+1)%2) l).1:=by
 have hr:=zbG h hv hb;have ha:(s+1)%2=((1-a:Nat):Int):=zh0
 have cF:(bR D ((s+1)%2) l).2=0:=he;unfold bR at he hr ⊢;obtain⟨e1,e2,e3⟩:=dV he;obtain⟨r1,r2,r3,_⟩:=hr;rw[e3]at r1 r2 r3 ⊢;have jB:(iY (D,0) (fun i=>(2+23*((s+1)%2)+i,(l.getD i (0,[])).2)) l.length).1.Ok:=by have hl:=h.len;have hvl:=hv.len;refine(xH.ws (⟨h.ok,gI h.mem _,rfl,.inl ⟨rfl,h.down⟩⟩:xH (sS a) (dY D) D.secs.length (D,0)) l.length (fun j hj=>?_)).ok;rw[ha];have h2:=h.two;refine⟨Sg,Sg,⟨hv.body j hj,hb j hj⟩,?_⟩;unfold sS;constructor <;> omega
 have hw:=yf l.length e1 (fun i j _ _ e=>by dsimp only at e ⊢;rw[show i=j by omega]);refine⟨r1,(dc jB e2 0).2.1,(dc jB e2 0).2.2,r3,fun k hk=>(r2 k hk).2,fun j hj=>?_⟩
 show(DS.ba _).secs.getD _ []=_
 rw[(dc jB e2 _).1];have:=hw.2.1 j hj;dsimp only at this;rw[ha]at this ⊢;rw[show(2+23*((1-a:Nat):Int)+(j:Int)).toNat=2+23*(1-a)+j by omega]at this;exact this
variable {E:DS}
theorem Gr.Er(h:Nt D L s P a nl)(hv:Valid L l)(hs:Gr D L s P a nl l E)(e:∀k,k≠1-a->(∀j,j<l.length->(k:Int)≠48+(l.getD j (0,[])).1)->v k=dY E k)(hx:v (1-a)=cD (s+1) (bM l)):Rb L v (s+1) (GG P l):=by
 have h2:=h.two;have fQ:=h.s1;have gN:=h.s2;have hm:=(lA hv (show 1<=s+1 by omega) Sg).2;have ha1:1-(1-a)=a:=Sg;have hvl:=hv.len;refine⟨1-a,l.map (·.1),Sg,by have:=h.even;omega,?_,?_,Sg,fun k hk=>?_,fun i hi hn=>?_⟩
 ·rw[hx];exact hm
 ·rw[ha1,e a Sg (fun j hj=>zfP),hs.same a Vy];exact VZ (cZ h.ok.sec zaM).2 h.Cw
 ·have Hc:k<l.length:=by simpa using hk
  rw[e _ Sg (fun j hj=>zfP),hs.body k Hc,pJ l Hc,yj hv Hc]
 ·rw[pA hn,e _ Sg (fun j hj e2=>hn (qAT.2 ⟨l.getD j (0,[]),zay,Sg⟩)),hs.same (48+i) Vy];exact h.eH i hi
theorem zeq(h:Nt D L s P a nl)(hv:Valid L l)(hs:Gr D L s P a nl l E){E'}(ho:ub (fun k=>k=1-a) E' (dY E))(fI:E'.secs=E.secs)(cN:∀b,E'.mem.lookup (1-a)=some b->b=cD (s+1) (bM l)):zlV E' L s P l:=by
 intro v hp;have h2:=h.two;have fQ:=h.s1;have gN:=h.s2;have hvl:=hv.len;have tM:=iQ l;have e:=fun k hk=>ho.Oa hk (hp k)
 have hY:=hs.same (1-a) Vy;have IQ:Bk (v (1-a)) s->Rb L v s P:=fun hm=>by
  have hn:=dE (cZ h.ok.sec zaM).2 h.Cw;refine⟨a,nl,h.two,h.even,?_,hm,Sg,fun k hk=>?_,fun i hi _=>?_⟩
  ·rw[e a Sg,hs.same a Vy];exact h.Cw
  ·rw[e _ Sg,hs.same _ (by unfold sS;have:=hn.2.1;omega)];exact h.zx k hk
  ·rw[e _ Sg,hs.same _ Vy];exact h.eH i hi
 have new:v (1-a)=cD (s+1) (bM l)->Rb L v (s+1) (GG P l):=fun hx=>hs.Er h hv (fun k hk _=>e k hk) hx
 have vO:v (1-a)=dY D (1-a)->Rb L v s P\/Rb L v (s+1) (GG P l):=fun hx=>.inl (IQ (by rw[hx];exact h.bk))
 rcases hp (1-a)with hq|⟨b,hb,hq⟩
 ·rw[fI]at hq;exact vO (hq.trans hY)
 ·have Js:=cN b hb;subst Js;rcases hq with hq|⟨c,hc,hq⟩
  ·exact .inr (new hq)
  ·rw[fI,show E.secs.getD (1-a) []=dY D (1-a)from hY]at hq;have Hi:(cD (s+1) (bM l)).length=32:=dK _ _ Sg;have hDs:kC (dY D (1-a)):=cZ h.ok.sec zaM;have Dx:bZ (bM l):=fun z hz=>by exact D5
   rcases zfE (n:=s) Hi hDs.1 (nZ _ _ Dx) hDs.2 (by rw[Bi _ _ Sg,kL _ Sg Sg]) h.bk hc with hz|hz
   ·exact .inr (new (hq.trans hz))
   ·exact .inl (IQ (by rw[hq];exact hz))
theorem zjt(h:Nt D L s P a nl)(hv:Valid L l)(hs:Gr D L s P a nl l E) :
  ((bE (E,0) ((s+1)%2) (s+1) l).2=9/\(bE (E,0) ((s+1)%2) (s+1) l).1.Ok/\(bE (E,0) ((s+1)%2) (s+1) l).1.secs.length=D.secs.length/\zlV (bE (E,0) ((s+1)%2) (s+1) l).1 L s P l) \/
  ((bE (E,0) ((s+1)%2) (s+1) l).2=0/\(bE (E,0) ((s+1)%2) (s+1) l).1.Ok/\(bE (E,0) ((s+1)%2) (s+1) l).1.mem=[]/\(bE (E,0) ((s+1)%2) (s+1) l).1.down=false /\
   (bE (E,0) ((s+1)%2) (s+1) l).1.secs.length=D.secs.length/\(∀k,k≠1-a->dY (bE (E,0) ((s+1)%2) (s+1) l).1 k=dY E k)/\dY (bE (E,0) ((s+1)%2) (s+1) l).1 (1-a)=cD (s+1) (bM l)):=by
 have ha:(s+1)%2=((1-a:Nat):Int):=zh0;have h2:=h.two;have fQ:=h.s1;have gN:=h.s2;have hlen:=h.len;have hvl:=hv.len;have tM:=iQ l;have hm:=(lA hv (show 1<=s+1 by omega) Sg).1;have Dx:bZ (bM l):=fun z hz=>by exact D5
 have hX:kC (cD (s+1) (bM l)):=⟨dK _ _ Sg,nZ _ _ Dx⟩;have e0:bE (E,0) ((s+1)%2) (s+1) l=di (dq (E,0) ((1-a:Nat):Int) (cD (s+1) (bM l))):=by unfold bE;rw[zy rfl,hm,zy rfl,ha]
 rw[e0];have r0:xH (fun k=>k=1-a) (dY E) D.secs.length (E,0):=⟨hs.ok,gI hs.mem _,hs.len,.inl ⟨rfl,hs.down⟩⟩;have r1:=r0.w (i:=((1-a:Nat):Int)) (b:=cD (s+1) (bM l)) Sg Sg hX Sg;have r2:=r1.f;have Pn:(dq (E,0) ((1-a:Nat):Int) (cD (s+1) (bM l))).1.secs=E.secs:=by unfold dq;rw[zy rfl];exact fS _ _ _
 have Fi:∀b,(dq (E,0) ((1-a:Nat):Int) (cD (s+1) (bM l))).1.mem.lookup (1-a)=some b->b=cD (s+1) (bM l):=by
  intro b hb;unfold dq at hb;rw[zy rfl]at hb;rcases uf hb with h3|h3
  ·have h4:=h3;rw[hs.mem]at h4;cases h4
  ·exact h3
 generalize hx:dq (E,0) ((1-a:Nat):Int) (cD (s+1) (bM l))=x at*;rcases r2.err with ⟨hz,hd⟩|hz
 ·right;obtain⟨f1,f2,f3⟩:=dV hz;rw[<-hx]at f1;obtain⟨g1,g2,g3⟩:=jj f1;rw[hx]at g3;have jB:=r1.ok;have lF:=fun k=>dc jB f2 k
  refine⟨hz,r2.ok,?_,hd,r2.len,fun k hk=>(r2.only k hk).2,?_⟩
  ·rw[f3];exact(lF 0).2.1
  ·show(di x).1.secs.getD (1-a) []=_
   rw[f3,(lF _).1,g3,nO g2,zy rfl]
 ·left;refine⟨hz,r2.ok,r2.len,?_⟩;by_cases CW:x.2=0
  ·have hf:x.1.cG=9:=by unfold di at hz;rw[zy CW]at hz;exact hz
   have e1:(di x).1=x.1.ba:=by unfold di;rw[zy CW]
   rw[e1];refine zeq h hv hs (fun k hk=>?_) ?_ ?_
   ·rw[(gV hf).1,(gV hf).2];exact r1.only k hk
   ·rw[(gV hf).1];exact Pn
   ·rw[(gV hf).2];exact Fi
  ·rw[wv CW];exact zeq h hv hs r1.only Pn Fi
theorem CH(h:Nt D L s P a nl)(We:s<=9999)(hv:Valid L l)(hb:∀k,k<l.length->bZ (l.getD k (0,[])).2) :
  ((aM D s l).2=0/\Nt (aM D s l).1 L (s+1) (GG P l) (1-a) (l.map (·.1))/\(aM D s l).1.secs.length=D.secs.length) \/
  ((aM D s l).2=9/\(aM D s l).1.Ok/\(aM D s l).1.secs.length=D.secs.length/\zlV (aM D s l).1 L s P l):=by
 have Zr:=zbG h hv hb;unfold aM;rcases Zr.err with ⟨he,_⟩|he
 ·have hs:=zlz h hv hb he;have ex:bR D ((s+1)%2) l=((bR D ((s+1)%2) l).1,0):=Prod.ext rfl he;generalize (bR D ((s+1)%2) l).1=E at hs ex;rw[ex];rcases zjt h hv hs with ⟨b1,b2,b3,b4⟩|⟨b1,b2,b3,b4,b5,b6,b7⟩
  ·rw[nX (by rw[b1];decide)];exact .inr ⟨b1,b2,b3,b4⟩
  ·have ey:bE (E,0) ((s+1)%2) (s+1) l=((bE (E,0) ((s+1)%2) (s+1) l).1,0):=Prod.ext rfl b1;generalize (bE (E,0) ((s+1)%2) (s+1) l).1=F at b2 b3 b4 b5 b6 b7 ey;rw[ey];have h2:=h.two;have fQ:=h.s1;have hlen:=h.len;have hvl:=hv.len;have r0:xH (fun k=>∃j,j<l.length/\(k:Int)=48+(l.getD j (0,[])).1) (dY F) D.secs.length (F,0):=⟨b2,gI b3 _,b5,.inl ⟨rfl,b4⟩⟩;have r1:=r0.ws (f:=fun i=>(48+(l.getD i (0,[])).1,(l.getD i (0,[])).2)) l.length (fun j hj=>by have hn:=hv.num j hj;refine⟨?_,?_,⟨hv.body j hj,hb j hj⟩,j,hj,?_⟩ <;> (dsimp only;omega));have r2:=r1.f;have zks:∀v:Nat->LI,(∀k:Nat,¬(∃j,j<l.length/\(k:Int)=48+(l.getD j (0,[])).1)->v k=dY F k)->Rb L v (s+1) (GG P l):=fun v e=>by
    refine hs.Er h hv (fun k hk hn=>?_) ?_
    ·rw[e k (fun⟨j,hj,fR⟩=>hn j hj fR),b6 k hk]
    ·rw[e (1-a) (fun⟨j,hj,fR⟩=>zfP),b7]
   unfold iU;rcases r2.err with ⟨hz,hd⟩|hz
   ·left;refine⟨hz,?_,r2.len⟩;obtain⟨f1,f2,f3⟩:=dV hz;have lF:=fun k=>dc r1.ok f2 k
    have hw:=yf l.length f1 (fun i j hi hj e=>by
     dsimp only at e ⊢;rcases qCq i j with h3|h3|h3
     ·exact absurd Sg (hv.apart i j h3 hj)
     ·rw[h3]
     ·exact absurd Sg (hv.apart j i h3 hi))
    have oG:∀k:Nat,¬(∃j,j<l.length/\(k:Int)=48+(l.getD j (0,[])).1)->dY (di (iY (F,0) (fun i=>(48+(l.getD i (0,[])).1,(l.getD i (0,[])).2)) l.length)).1 k=dY F k:=fun k hk=>(r2.only k hk).2
    have ij:∀k:Nat,k<48->dY (di (iY (F,0) (fun i=>(48+(l.getD i (0,[])).1,(l.getD i (0,[])).2)) l.length)).1 k=dY F k:=fun k hk=>oG k (fun⟨j,hj,fR⟩=>zfP)
    have hm:=(lA hv (show 1<=s+1 by omega) Sg).2;have ha1:1-(1-a)=a:=Sg
    have PH:dY (di (iY (F,0) (fun i=>(48+(l.getD i (0,[])).1,(l.getD i (0,[])).2)) l.length)).1 a=dY D a:=by rw[ij a Sg,b6 a Sg,hs.same a Vy]
    have hfa:=dE (cZ h.ok.sec (show a<D.secs.length by omega)).2 h.Cw;refine⟨r2.ok,?_,hd,by rw[r2.len];exact hlen,h.lt,Sg,?_,Sg,Sg,?_,fun k hk=>?_,fun i hi=>?_,?_⟩
    ·rw[f3];exact(lF 0).2.1
    ·have:=h.even;rcases h2 with rfl|rfl <;> omega
    ·show mark L (dY _ (1-a))=_
     rw[ij (1-a) Sg,b7];exact hm
    ·have Hc:k<l.length:=by simpa using hk
     show dY _ _=_
     rw[ij _ Sg,b6 _ Sg,hs.body k Hc,pJ l Hc,yj hv Hc]
    ·show dY _ (48+i)=_
     by_cases fu:∃j,j<l.length/\((48+i:Nat):Int)=48+(l.getD j (0,[])).1
     ·obtain⟨j,hj,fR⟩:=fu;have hn:=hv.num j hj;have e1:=hw.2.1 j hj;dsimp only at e1;rw[show(48+(l.getD j (0,[])).1).toNat=48+i by omega]at e1
      show(di _).1.secs.getD (48+i) []=_
      rw[f3,(lF _).1,e1,<-yj (P:=P) hv hj,show(l.getD j (0,[])).1.toNat=i by omega]
     ·rw[oG _ fu,b6 _ Sg,hs.same _ Vy,pA (fun kz=>fu (by
       obtain⟨q,hq,hqe⟩:=qAT.1 kz;obtain⟨j,hj,Cu⟩:=qAm hq;have hg:l.getD j (0,[])=q:=by simp[List.getD,hj,Cu]
       exact⟨j,hj,by rw[hg];omega⟩))]
      exact h.eH i hi
    ·rw[ha1]
     show Bk (dY _ a) (s+1)
     rw[PH];exact VZ (cZ h.ok.sec Sg).2 h.Cw
   ·right;exact⟨hz,r2.ok,r2.len,fun v hp=>.inr (zks v (fun k hk=>r2.only.Oa hk (hp k)))⟩
 ·right;rw[wm (by rw[he];decide),nX (by rw[he];decide)];exact⟨he,Zr.ok,Zr.len,fun v hp=>.inl (zln h Zr.only v hp)⟩
end
theorem J2(D:DS) i b:(D.write i b).secs.length=D.secs.length:=by rw[fS]
theorem FK(D:DS):D.ba.secs.length=D.secs.length:=by
 unfold DS.ba;split
 ·rfl
 ·split
  ·rfl
  ·show(flushK D.step.secs _ _).length=_
   rw[jg];exact PM
theorem CN x i b:(dq x i b).1.secs.length=x.1.secs.length:=by
 unfold dq;split
 ·exact J2 _ _ _
 ·rfl
theorem qZ x:(di x).1.secs.length=x.1.secs.length:=by
 unfold di;split
 ·exact FK _
 ·rfl
theorem tg x f:∀n,(iY x f n).1.secs.length=x.1.secs.length
 | 0=>rfl
 | n+1=>(CN _ _ _).trans (tg x f n)
theorem nb D s m l:(aj D s m l).1.secs.length=D.secs.length:=by
 have hA:∀a:Int,(bR D a l).1.secs.length=D.secs.length:=fun a=>by unfold bR;rw[qZ,tg]
 have hB:∀ (x:DS×Int) (a s:Int),(bE x a s l).1.secs.length=x.1.secs.length:=fun x a s=>by
  unfold bE;rw[qZ];split
  ·split
   ·rw[CN]
   ·rfl
  ·rfl
 have hC:∀x:DS×Int,(iU x l).1.secs.length=x.1.secs.length:=fun x=>by unfold iU;rw[qZ,tg]
 unfold aj;split
 ·rfl
 ·split
  ·rfl
  ·split
   ·rfl
   ·show(aM D s l).1.secs.length=_
    unfold aM;rw[hC,hB,hA]
theorem ql(hd:D.down=true) s m l:aj D s m l=(D,s,if cH m l≠0 then cH m l else 9):=by
 unfold aj;by_cases h:cH m l≠0
 ·rw[zy h,zy h]
 ·rw[zn h,zn h,zy hd]
def prt(L:LI)(i:Nat):LI:=(L.drop (32*i)).take 32
theorem oU{L}(hL:L.length=32*m)(hi:i<m):(prt L i).length=32:=by unfold prt;rw[zLt,zLd];omega
theorem VG{L}(hL:L.length=32*m)(hi:m<=i):prt L i=[]:=by unfold prt;rw[qAr Sg];rfl
theorem VH{L}(hb:bZ L) i:bZ (prt L i):=fun x hx=>hb x (qBF (qAj hx))
theorem rS{L}(hj:j<32):(prt L i).getD j 0=L.getD (32*i+j) 0:=by unfold prt;simp[List.getD,hj]
def jP(P:Nat->LI):Nat->LI
 | 0=>[]
 | m+1=>jP P m++P m
theorem E6 L:∀m,32*m<=L.length->jP (prt L) m=L.take (32*m)
 | 0,_=>rfl
 | m+1,h=>by
  show jP (prt L) m++prt L m=_
  rw[E6 L m Sg];unfold prt;rw[show 32*(m+1)=32*m+32 by omega,List.take_add]
theorem BC{L}(h:L.length=32*m):jP (prt L) m=L:=by rw[E6 L m Sg,qAP Sg]
theorem tK{Q:Nat->LI}:∀m,(∀i,i<m->P i=Q i)->jP P m=jP Q m
 | 0,_=>rfl
 | m+1,h=>by
  show jP P m++P m=jP Q m++Q m
  rw[tK m (fun i hi=>h i Sg),h m Sg]
def cu(K L:LI)(m:Nat):List Nat:=(List.range m).filter fun i=>decide (prt K i≠prt L i)
theorem r6{L:LI}:i∈cu K L m ↔ i<m/\prt K i≠prt L i:=by unfold cu;rw[qCS,qAw,qAK]
theorem zhK K L m:(cu K L m).Pairwise (·<·):=List.Pairwise.filter _ List.pairwise_lt_range
def dQ(K L:LI)(m:Nat):List (Int×LI):=(cu K L m).map fun i:Nat=>((i:Int),prt L i)
theorem mb K L m:(dQ K L m).length=(cu K L m).length:=by unfold dQ;simp
theorem LV{L:LI}(hk:k<(dQ K L m).length):∃i,i∈cu K L m/\(cu K L m)[k]?=some i/\(dQ K L m).getD k (0,[])=((i:Int),prt L i):=by rw[mb]at hk;refine⟨(cu K L m)[k],qAf hk,zLg hk,?_⟩;unfold dQ;simp[List.getD,hk]
theorem DA{L:LI}(hb:bZ L):∀k,k<(dQ K L m).length->bZ ((dQ K L m).getD k (0,[])).2:=fun k hk=>by obtain⟨i,_,_,e⟩:=LV hk;rw[e];exact VH hb i
theorem zaj{L:LI}(hL:L.length=32*m)(hk:k<(dQ K L m).length):ik m (dQ K L m) k=0:=by
 obtain⟨i,hi,hi2,e⟩:=LV hk;obtain⟨h1,_⟩:=r6.1 hi;unfold ik;rw[e,zn Tu,zn (by dsimp only;rw[oU hL h1];decide),zn];intro h;obtain⟨j,hj,Cu⟩:=qBH.1 h;have hjk:=qAw.1 hj;obtain⟨i',hi',zqm,e'⟩:=LV (K:=K) (L:=L) (m:=m) (k:=j) Sg;rw[e']at Cu;have:(i':Int)=(i:Int):=by simpa using Cu
 have h2:i'=i:=Sg;subst h2;obtain⟨q1,q2⟩:=zLs hi2;obtain⟨q3,q4⟩:=zLs zqm;have:=qCT.1 (zhK K L m) j k q3 q1 hjk;omega
theorem WJ{L:LI}(hL:L.length=32*m):∀n,n<=(dQ K L m).length->chkK m (dQ K L m) n=0
 | 0,_=>rfl
 | n+1,h=>by
  show(if chkK m (dQ K L m) n=0 then ik m (dQ K L m) n else chkK m (dQ K L m) n)=0
  rw[zy (WJ hL n Sg)];exact zaj hL Sg
theorem jV{L:LI}(hL:L.length=32*m):cH m (dQ K L m)=if 23<(cu K L m).length then 4 else 0:=by
 unfold cH;rw[mb];by_cases h:23<(cu K L m).length
 ·rw[zy h,zy h]
 ·rw[zn h,zn h,<-mb];exact WJ hL _ zNr
theorem Dd{L:LI}(hK:K.length=32*m)(hL:L.length=32*m):GG (prt K) (dQ K L m)=prt L:=by
 funext i;by_cases hi:i∈cu K L m
 ·unfold GG;cases hf:(dQ K L m).find? (fun q=>q.1 == (i:Int))with
  | none =>have:=qCk.1 hf ((i:Int),prt L i) (qAT.2 ⟨i,hi,rfl⟩);simp at this
  | some q =>have h1:=qCo hf;have h2:=qBg hf;obtain⟨j,hj,rfl⟩:=qAT.1 h2;have:(j:Int)=(i:Int):=Y9;have e:j=i:=Sg;rw[e]
 ·rw[pA (fun h=>by obtain⟨q,hq,e⟩:=qAT.1 h;obtain⟨j,hj,rfl⟩:=qAT.1 hq;have e':=e;have e2:j=i:=Sg;exact hi (e2▸hj))];by_cases hm:i<m
  ·exact qAM fun aG=>hi (r6.2 ⟨hm,aG⟩)
  ·rw[VG hK Sg,VG hL Sg]
theorem qY{L:LI}(hK:K.length=32*m)(hL:L.length=32*m):dQ K L m=[] ↔ K=L:=by
 constructor
 ·intro h;have h0:=List.map_eq_nil_iff.1 h;rw[<-BC hK,<-BC hL];refine tK m (fun i hi=>qAM fun aG=>?_);have:=r6.2 ⟨hi,aG⟩;rw[h0]at this;cases this
 ·rintro rfl;unfold dQ cu;rw[List.map_eq_nil_iff,List.filter_eq_nil_iff];intro i _;simp
section
variable {D:DS} {m:Nat} {s:Int} {K L:LI} {a:Nat} {nl:LI}
theorem jo.dY(h:jo D m s P a nl)(ok:E.Ok)(mem:E.mem=[])(down:E.down=false)(len:E.secs.length=D.secs.length)(hi:∀k,E.secs.getD k []=D.secs.getD k []):jo E m s P a nl :=⟨ok,mem,down,by rw[len];exact h.len,h.lt,h.two,h.even,h.s1,h.s2,by rw[hi];exact h.Cw,fun k hk=>by rw[hi];exact h.zx k hk,fun i hL=>by rw[hi];exact h.eH i hL,by rw[hi];exact h.other,by rw[hi];exact h.Av,by rw[hi];exact h.less⟩
def fH(D:DS)(m:Nat):DS×Int:=di (iY (D,0) (fun i=>(48+(i:Int),af 32)) m)
theorem Xf(h:jo D m s (fun _=>af 32) a nl)(hl:D.left<0):(fH D m).2=0/\jo (fH D m).1 m s (fun _=>af 32) a nl/\(fH D m).1.secs.length=D.secs.length/\(fH D m).1.left<0:=by
 have hlen:=h.len;have r0:xH (fun k=>48<=k/\k<48+m) (dY D) D.secs.length (D,0):=⟨h.ok,gI h.mem _,rfl,.inl ⟨rfl,h.down⟩⟩;have r1:=r0.ws (f:=fun i=>(48+(i:Int),af 32)) m (fun j hj=>⟨Tu,Tu,mF,Tu,Tu⟩);have r2:=r1.f;have ev:ni (fH D m):=(ni.ws (x:=(D,0)) ⟨hl,fun _=>h.down,zlf⟩ _ _).f;have e0:(fH D m).2=0:=by
  rcases r2.err with ⟨e,_⟩|e
  ·exact e
  ·exact absurd e ev.2.2
 obtain⟨f1,f2,f3⟩:=dV (x:=iY (D,0) (fun i=>(48+(i:Int),af 32)) m) e0;obtain⟨_,g2,g3⟩:=yf m f1 (fun i j _ _ _=>rfl);have lF:=fun k=>dc r1.ok f2 k
 have o6:(fH D m).1.mem=[]:=by show(di _).1.mem=[];rw[f3];exact(lF 0).2.1
 have zn2:(fH D m).1.down=false:=by show(di _).1.down=false;rw[f3];exact(lF 0).2.2
 have hi:∀k,(fH D m).1.secs.getD k []=D.secs.getD k []:=fun k=>by
  show(di _).1.secs.getD k []=_
  rw[f3,(lF k).1];by_cases hk:48<=k/\k<48+m
  ·have:=g2 (k-48) Sg;dsimp only at this;rw[show(48+((k-48:Nat):Int)).toNat=k by omega]at this;rw[this];have hp:=h.eH (k-48) Sg;rw[show 48+(k-48)=k by omega]at hp;exact hp.symm
  ·rw[g3 k (fun j hj e=>hk (by dsimp only at e;omega))];unfold DS.rd;rw[h.mem];rfl
 exact⟨e0,h.dY r2.ok o6 zn2 r2.len hi,r2.len,ev.1⟩
end
theorem iV(h:x.2≠0) i b:dq x i b=x:=by grind[dq]
theorem eO(h:x.2≠0):di x=x:=by grind[di]
theorem A3(h:x.2≠0) f:∀m,iY x f m=x
 | 0=>rfl
 | m+1=>by
  show dq (iY x f m) _ _=x
  rw[A3 h f m,iV h]
theorem uY{x:DS×Int}{f:Nat->Int×LI}{k:Nat}(h:(iY x f k).2≠0):∀m,k<=m->iY x f m=iY x f k
 | 0,hm=>by rw[show k=0 by omega]
 | m+1,hm=>by
  by_cases e:k=m+1
  ·rw[e]
  ·show dq (iY x f m) _ _=_
   rw[uY h m Sg,iV h]
theorem me(h:x.2=0) i b:dq x i b=(x.1.write i b,x.1.bN i b):=by grind[dq]
theorem pq(h:x.2=0):di x=(x.1.ba,x.1.cG):=by grind[di]
theorem VL(h:x.2=0):x=(x.1,0):=by rw[<-h]
theorem zaL{D:DS}{f:Nat->Int×LI}(hd:D.down=true){m:Nat}(hm:0<m)(h1:0<=(f 0).1)(h2:(f 0).1<D.secs.length)(h3:(f 0).2.length=32):iY (D,0) f m=(D,9):=by
 have e:iY (D,0) f 1=(D,9):=by simp_all[hd,iY,dq,DS.write,DS.bN]
 rw[uY (k:=1) (by rw[e];show(9:Int)≠0;decide) m hm,e]
theorem xZ(hv:cH L l=0)(hl:l≠[])(hL:48<=D.secs.length)(hs:(s+1)%2=0\/(s+1)%2=1) :
  aj D s L l=((aM D s l).1,if (aM D s l).2=0 then s+1 else s,(aM D s l).2):=by
 unfold aj;rw[zn (by rw[hv];exact fun h=>h rfl)];by_cases hd:D.down=true
 ·rw[zy hd];have oZ:=lO hv;have ew:0<l.length:=by grind
  have hb:=oZ.body 0 ew;have e1:bR D ((s+1)%2) l=(D,9):=by unfold bR;rw[zaL hd ew Tu Tu hb];exact eO zhs
  have e2:bE (D,9) ((s+1)%2) (s+1) l=(D,9):=by unfold bE;exact eO zhs
  have e3:aM D s l=(D,9):=by unfold aM;rw[e1,e2];unfold iU;rw[A3 zhs];exact eO zhs
  rw[e3];rfl
 grind
theorem Pj n(h0:0<=n)(h1:n<=4294967296):bits .and .i64 n 1=n%2:=by
 obtain⟨N,rfl⟩:=qAN h0;have h2:=Nat.and_one_is_mod N
 show IntKind.i64.wrap ((BitVec.ofInt 64 (N:Int) &&& BitVec.ofInt 64 ((1:Nat):Int)).toNat:Int)=_
 rw[BitVec.toNat_and,ofInt_u64 N Sg,ofInt_u64 1 Sg,qBn,h2];omega
structure yY (D:DS) (L:Nat) (s:Int) (P:Nat->LI):Prop where
 ok:D.Ok
 mem:D.mem=[]
 down:D.down=false
 len:48+L<=D.secs.length
 lt:L<=200
 s2:s<=10000
 rb:Rb L (dY D) s P
section
variable {D E:DS} {L:Nat} {s:Int} {P:Nat->LI} {a:Nat} {nl:LI}
theorem yY.ready(h:yY D L s P):kD D L s P :=⟨h.ok,h.mem,h.down,h.len,h.rb.again ⟨(cZ h.ok.sec zaM).2,(cZ h.ok.sec zaM).2⟩⟩
theorem Nt.rdy(h:Nt D L s P a nl):yY D L s P:=⟨h.ok,h.mem,h.down,h.len,h.lt,h.s2,a,nl,h.two,h.even,h.Cw,h.bk,by have:=h.s1;omega,h.zx,fun i hi _=>h.eH i hi⟩
theorem Nt.fail(h:Nt D L s P a nl){f}(hf:-9223372036854775808<=f/\f<=9223372036854775807):Nt { D with left:=f } L s P a nl :=⟨h.ok.fail hf,h.mem,h.down,h.len,h.lt,h.two,h.even,h.s1,h.s2,h.Cw,h.zx,h.eH,h.bk⟩
theorem rQ(jB:D.Ok)(hlen:48+L<=D.secs.length)(hL:L<=200)(hs:s<=10000) keep aZ c(hr:Rb L (dY (D.bX keep aZ c)) s P):yY (D.bX keep aZ c) L s P :=⟨jB.bX keep aZ c,rfl,rfl,zpu,hL,hs,hr⟩
theorem yY.bX(h:yY D L s P) keep aZ c:yY (D.bX keep aZ c) L s P :=rQ h.ok h.len h.lt h.s2 keep aZ c (by rw[ox h.mem];exact h.rb)
theorem Nt.opened(h:Rb L (dY D) s P)(hD:D.Ok)(hlen:48+L<=D.secs.length)(hL:L<=200)(hs:s<=10000)(ho:rD D E L P):∃a l,Nt E L s P a l:=by
 obtain⟨a,l,h1,h2,h3,h4,h5,h6,h7⟩:=h;have hf:=dE (cZ hD.sec (show a<D.secs.length by omega)).2 h3;have low:=ho.low;refine⟨a,l,ho.ok,ho.mem,ho.down,by rw[ho.len];exact hlen,hL,h1,h2,Sg,hs,?_,fun k hk=>?_,ho.eH,?_⟩
 ·grind[Rb,dY]
 ·grind[Rb,dY]
 grind[Rb,dY]
theorem zA(h:yY D L s P) :
  ((cj D L).2.2=0/\(cj D L).2.1=s/\rD D (cj D L).1 L P/\(∃a l,Nt (cj D L).1 L s P a l)/\(D.left<0->(cj D L).1.left<0)) \/
  ((cj D L).2.2=9/\¬D.left<0/\(cj D L).1.Ok/\(cj D L).1.secs.length=D.secs.length/\∀keep aZ c,c<=32->yY ((cj D L).1.bX keep aZ c) L s P):=by
 rcases yx h.ready with ⟨r1,r2,r3,r4,r5⟩|⟨r1,r2,r3,r4,r5⟩
 ·exact .inl ⟨r1,r2,r3,Nt.opened h.rb h.ok h.len h.lt h.s2 r3,r5⟩
 ·right;obtain⟨a,l,h2,Jp,hg,ZJ,hs,Cp,Fg⟩:=h.rb;have hlen:=h.len;have iF:bZ (dY D (1-a)):=(cZ h.ok.sec (show 1-a<D.secs.length by omega)).2;have hf:=dE (cZ h.ok.sec (show a<D.secs.length by omega)).2 hg;have hb:=WX h2 hg (ZJ.less iF) hs;have e0:cj D L=((cP D a l).1,if (cP D a l).2=0 then s else 0,(cP D a l).2):=by unfold cj;rw[kK h.mem,kK h.mem,hb,zn zhz,zn (show ¬s=0 by omega)]
  have l6:=hf.2.2.1;have r0:xH (fun k=>∃j,j<l.length/\(k:Int)=48+l.getD j 0) (dY D) D.secs.length (D,0):=⟨h.ok,gI h.mem _,rfl,.inl ⟨rfl,h.down⟩⟩;have r1':=r0.ws (f:=fun i=>(48+l.getD i 0,D.rd (2+23*a+i))) l.length (fun j hj=>by have hn:=l6 _ (lW hj);refine⟨?_,?_,h.ok.rd Sg,j,hj,?_⟩ <;> (dsimp only;omega));have rr:xH (fun k=>∃j,j<l.length/\(k:Int)=48+l.getD j 0) (dY D) D.secs.length (cP D a l):=r1'.f;have ziE:(cj D L).1.secs.length=D.secs.length:=by rw[e0];exact rr.len
  refine⟨r1,r2,r3,ziE,fun keep aZ c hc=>rQ r3 (by rw[ziE];exact hlen) h.lt h.s2 keep aZ c ?_⟩;have hp:=tW r3 keep aZ c hc;rw[e0]at hp ⊢;have e:∀k:Nat,¬(∃j,j<l.length/\(k:Int)=48+l.getD j 0)->dY ((cP D a l).1.bX keep aZ c) k=dY D k:=fun k hk=>rr.only.Oa hk (hp k)
  have low:∀k:Nat,k<48->dY ((cP D a l).1.bX keep aZ c) k=dY D k:=fun k hk=>e k (fun⟨j,hj,fR⟩=>zl1)
  refine⟨a,l,h2,Jp,?_,?_,hs,fun k hk=>?_,fun i hi fu=>?_⟩
  ·rw[low a Sg];exact hg
  ·grind
  ·grind
  ·rw[e (48+i) (fun⟨j,hj,fR⟩=>fu ziS)];exact Fg i hi fu
end
def Gn(x:DS×Int):Prop:=x.2=9->x.1.down=true
theorem Gn.w(h:Gn x) i b:Gn (dq x i b):=by
 unfold dq;by_cases h0:x.2=0
 ·rw[zy h0];intro h9;have Ul:=h9;unfold DS.bN at Ul;by_cases c1:i<0\/(x.1.secs.length:Int)<=i
  ·rw[zy c1]at Ul;cases Ul
  ·rw[zn c1]at Ul;by_cases c2:b.length≠32
   ·grind
   ·rw[zn c2]at Ul;unfold DS.write;by_cases c3:x.1.down=true
    ·grind
    ·rw[zn c3]at Ul;rw[zn (fun hc=>by
      rcases hc with hc|hc|hc|hc
      ·exact c1 (.inl hc)
      ·exact c1 (.inr hc)
      ·exact c2 hc
      ·exact c3 hc)]
     by_cases c4:x.1.left=0
     ·unfold DS.step;rw[zy (show(x.1.put i.toNat b).left=0 from c4)]
     ·rw[zn c4]at Ul;cases Ul
 grind
theorem Gn.f(h:Gn x):Gn (di x):=by grind[Gn,di,DS.cG,DS.ba]
theorem Gn.ws(h:Gn x) f:∀n,Gn (iY x f n)
 | 0=>h
 | n+1=>(Gn.ws h f n).w _ _
theorem ZT:Gn (aM D s l):=by
 refine(Gn.ws ?_ _ _).f;refine Gn.f ?_;have hA:Gn (bR D ((s+1)%2) l):=by grind[Gn,aM,iU,bE,bR,dH,bM,Gn.ws,Gn.f]
 by_cases h0:(bR D ((s+1)%2) l).2=0
 ·rw[zy h0];by_cases h1:(dH (s+1) (bM l)).2=0
  ·rw[zy h1];exact hA.w _ _
  ·grind[Gn,aM,iU,bE,bR,dH,bM]
 grind
section
variable {D:DS} {m:Nat} {s:Int} {K L:LI} {a:Nat} {nl:LI}
theorem mN(h:Nt D m s (prt K) a nl)(We:s<=9999)(hK:K.length=32*m)(hL:L.length=32*m)(hb:bZ L) :
  (23<(cu K L m).length/\aj D s m (dQ K L m)=(D,s,4))\/(K=L/\aj D s m (dQ K L m)=(D,s,0)) \/
  (K≠L/\(cu K L m).length<=23/\(aj D s m (dQ K L m)).2=(s+1,0)/\(∃a' nl',Nt (aj D s m (dQ K L m)).1 m (s+1) (prt L) a' nl')/\aj D s m (dQ K L m)=((aM D s (dQ K L m)).1,s+1,0)/\(aM D s (dQ K L m)).2=0) \/
  (K≠L/\(cu K L m).length<=23/\(aj D s m (dQ K L m)).2=(s,9)/\(aj D s m (dQ K L m)).1.Ok/\(aj D s m (dQ K L m)).1.secs.length=D.secs.length/\(aj D s m (dQ K L m)).1.down=true/\(aM D s (dQ K L m)).2=9 /\
   ∀keep aZ c,c<=32->yY ((aj D s m (dQ K L m)).1.bX keep aZ c) m s (prt K)\/yY ((aj D s m (dQ K L m)).1.bX keep aZ c) m (s+1) (prt L)):=by
 have C4:=jV (K:=K) hL;have hlen:=h.len;by_cases Ak:23<(cu K L m).length
 ·grind[prt,bZ,cu,aj,dQ,aM]
 ·rw[zn Ak]at C4;by_cases hKL:K=L
  ·right;left;refine⟨hKL,?_⟩;have yH:=(qY hK hL).2 hKL;unfold aj;rw[C4,zn Si,zn zhz,zy yH]
  ·right;right;have aG:=fun e=>hKL ((qY hK hL).1 e)
   have hv:=lO C4;have e:aj D s m (dQ K L m)=((aM D s (dQ K L m)).1,if (aM D s (dQ K L m)).2=0 then s+1 else s,(aM D s (dQ K L m)).2):=by unfold aj;rw[C4,zn Si,zn zhz,zn aG]
   rcases CH h We hv (DA hb)with ⟨r1,r2,r3⟩|⟨r1,r2,r3,r4⟩
   ·left;rw[Dd hK hL]at r2;rw[e,r1,zy rfl];exact⟨hKL,Sg,rfl,⟨_,_,r2⟩,rfl,rfl⟩
   ·right;rw[e,r1,zn Si];refine⟨hKL,Sg,rfl,r2,r3,ZT r1,rfl,fun keep aZ c hc=>?_⟩;have Jk:48+m<=(aM D s (dQ K L m)).1.secs.length:=by grind
    rcases r4 _ (tW r2 keep aZ c hc)with h5|h5
    ·exact .inl (rQ r2 Jk h.lt h.s2 keep aZ c h5)
    ·rw[Dd hK hL]at h5;exact .inr (rQ r2 Jk h.lt Sg keep aZ c h5)
theorem YF(h1:48<n)(h2:n<=300)(hm:48+m<=n)(kz:m<=200):Nt (bG (DS.new n)).1 m 2 (fun _=>af 32) 0 []:=by
 obtain⟨f1,f2,f3⟩:=qi n h1 h2 m hm kz;refine⟨f2.ok,f2.mem,f2.down,f2.len,f2.lt,f2.two,f2.even,f2.s1,Sg,f2.Cw,f2.zx,f2.eH,?_⟩;have hlen:(DS.new n).secs.length=n:=zdZ;have r0:xH (fun k=>k=0\/k=1) (Go.Proofs.YtoiebmeajhpgcaaGreatDoor.dY (DS.new n)) n (DS.new n,0):=⟨DS.KU n h2,gI rfl _,hlen,.inl ⟨rfl,rfl⟩⟩;have r1:=r0.w (i:=0) (b:=cD 2 []) Sg Sg wO (.inl rfl);have r2:=r1.w (i:=1) (b:=af 32) Sg Sg mF (.inr rfl);have hz:=f1;obtain⟨g1,g2,g3⟩:=dV hz;obtain⟨k1,k2,k3⟩:=jj g1;have e:(bG (DS.new n)).1.secs.getD (1-0) []=af 32:=by unfold bG;rw[g3,(dc r2.ok g2 _).1,k3,nO k2,zy Si]
 rw[e];unfold Bk;decide
end
def wl(D:DS)(q:Int):DS:={ D with left:=q }
section
variable {D:DS} {q:Int}
