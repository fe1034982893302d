/-
  Parts of the proofs.
-/
import Derived.Test.YtcimhnnendlblaaGreatJNum
import Derived.Maps.AppendAt
import Derived.Laws.ResultCell
import Derived.Lib.SliceRun
import Derived.ChangeSlices
import Derived.SizedLaws
import Derived.Deep.Slices
import Derived.Deep.Strs
set_option maxRecDepth 100000
set_option maxHeartbeats 16000000
set_option linter.all false
namespace Go.Proofs.YtcimhnnendlblaaGreat
open Go.RowKit
theorem length_splice{z l:List Int}{off:Nat}(h:off+l.length<=z.length):(splice z off l).length=z.length:=by simp [splice];omega
theorem bY{z l:List Int}{off j:Nat}(h:off+l.length<=z.length)(hj:j<l.length):(splice z off l).getD (off+j) 0=l.getD j 0:=by
 have h1:(z.take off).length=off:=by simp;omega
 unfold splice;rw [List.getD,List.getElem?_append_right (by omega),h1,Nat.add_sub_cancel_left,List.getElem?_append_left hj];rfl
theorem aY{z l:List Int}{off j:Nat}(h:off+l.length<=z.length)(hj:j<off\/off+l.length<=j):(splice z off l).getD j 0=z.getD j 0:=by
 have h1:(z.take off).length=off:=by simp;omega
 unfold splice;rcases hj with hj | hj
 ·rw [List.getD,List.getElem?_append_left (by omega),List.getElem?_take,if_pos hj];rfl
 ·rw [List.getD,List.getElem?_append_right (by omega),h1,List.getElem?_append_right (by omega),List.getElem?_drop];rw [show off+l.length+(j-off-l.length)=j by omega];rfl
theorem dI(l:List Int)(p:Nat)(h:p+2<=l.length):bz l p 2=l.getD p 0+256 * l.getD (p+1) 0:=by
 rw [oA l p 1 (by omega),oA l p 0 (by omega)];have:bz l p 0=0:=by simp [bz,numOf]
 rw [this];simp;omega
def b9(n:Int):Bool:=decide (288<=n) && decide (n<=6400)
def dC(h:Int):Bool:=decide (1<=h) && decide (h<=40)
theorem bF{n:Int}:b9 n=true ↔ 288<=n/\n<=6400:=by unfold b9;rw [Bool.and_eq_true,decide_eq_true_iff,decide_eq_true_iff]
theorem aF{n:Int}:dC n=true ↔ 1<=n/\n<=40:=by unfold dC;rw [Bool.and_eq_true,decide_eq_true_iff,decide_eq_true_iff]
def cJ(h:Int):Nat:=(5 * (h-1)).toNat
def aq(b:List Int)(h:Int):Int:=b.getD (cJ h) 0
def aP(b:List Int)(h:Int):Int:=if b9 b.length=false then 3 else if dC h=false then 1 else if aq b h=0 then 5 else 0
def ai(b:List Int)(h:Int):(Int×Int×Int×Int):=(h,bz b (cJ h+1) 2,bz b (cJ h+3) 2,aq b h-1)
def YA:(Int×Int×Int×Int):=(0,0,0,0)
def gz(b:List Int)(h:Int):(Int×Int×Int×Int):=if aP b h=0 then ai b h else YA
def entsK(b:List Int):Nat->List (Int×Int×Int×Int)
 | 0=>[]
 | k+1=>entsK b k++if aq b ((k:Int)+1)=0 then [] else [ai b ((k:Int)+1)]
def yN(b:List Int):List (Int×Int×Int×Int):=if b9 b.length=true then entsK b 40 else []
theorem b8(b:List Int)(k:Nat):(entsK b k).length<=k:=by
 induction k with
 | zero=>exact zNr
 | succ k ih=>unfold entsK;rw [zLa];split <;> simp <;> omega
def di(b:List Int)(e:(Int×Int×Int×Int)):Int :=
 if b9 b.length=false then 3
 else if dC e.1=false\/e.2.2.2<0\/15<e.2.2.2\/e.2.2.1<1\/1000<e.2.2.1 then 1
 else if e.2.1<288\/b.length-e.2.1<e.2.2.1 then 3 else 0
def dB(e:(Int×Int×Int×Int)):List Int:=[(e.2.2.2+1) % 256,e.2.1 % 256,e.2.1 / 256 % 256,e.2.2.1 % 256,e.2.2.1 / 256 % 256]
def bP(b:List Int)(e:(Int×Int×Int×Int)):List Int:=if di b e=0 then splice b (cJ e.1) (dB e) else []
def cN(b:List Int)(h:Int):List Int:=if aP b h=0 then splice b (cJ h) (ag 5) else []
theorem oE(e:(Int×Int×Int×Int)):bj (dB e):=by
 intro z hz;unfold dB at hz;rcases zMc hz with rfl | hz
 ·omega
 rcases zMc hz with rfl | hz
 ·omega
 rcases zMc hz with rfl | hz
 ·omega
 rcases zMc hz with rfl | hz
 ·omega
 rw [zMs hz];omega
theorem cH{h:Int}(h1:1<=h)(h2:h<=40):cJ h+5<=200:=by unfold cJ;omega
theorem zdR{h k:Int}(h1:1<=h)(k1:1<=k)(hk:h≠k):cJ h+5<=cJ k\/cJ k+5<=cJ h:=by unfold cJ;omega
theorem aJ{b:List Int}{h:Int}:aP b h=0 ↔ b9 b.length=true/\dC h=true/\aq b h≠0:=by
 unfold aP;by_cases h1:b9 b.length=false
 ·rw [if_pos h1];simp [h1]
 ·rw [if_neg h1];have vD:b9 b.length=true:=by simpa using h1
  by_cases h2:dC h=false
  ·rw [if_pos h2];simp [h2]
  ·rw [if_neg h2];have kL:dC h=true:=by simpa using h2
   by_cases h3:aq b h=0
   ·rw [if_pos h3];simp [h3]
   ·rw [if_neg h3];simp [vD,kL,h3]
theorem bS{b:List Int}{e:(Int×Int×Int×Int)}:di b e=0 ↔ b9 b.length=true/\dC e.1=true/\0<=e.2.2.2/\e.2.2.2<=15/\1<=e.2.2.1/\e.2.2.1<=1000/\288<=e.2.1/\e.2.1+e.2.2.1<=b.length:=by
 unfold di;by_cases h1:b9 b.length=false
 ·rw [if_pos h1];simp [h1]
 ·rw [if_neg h1];have vD:b9 b.length=true:=by simpa using h1
  by_cases h2:dC e.1=false
  ·rw [if_pos (.inl h2)];simp [h2]
  ·have kL:dC e.1=true:=by simpa using h2
   by_cases h3:dC e.1=false\/e.2.2.2<0\/15<e.2.2.2\/e.2.2.1<1\/1000<e.2.2.1
   ·rw [if_pos h3];constructor
    ·intro h;cases h
    ·rintro ⟨_,_,h⟩;rcases h3 with h3 | h3
     ·exact absurd h3 h2
     ·omega
   ·rw [if_neg h3];have Us:¬ (e.2.2.2<0\/15<e.2.2.2\/e.2.2.1<1\/1000<e.2.2.1):=fun h=>h3 (.inr h)
    by_cases h4:e.2.1<288\/b.length-e.2.1<e.2.2.1
    ·rw [if_pos h4];constructor
     ·intro h;cases h
     ·rintro ⟨_,_,h⟩;omega
    ·rw [if_neg h4];refine⟨fun _=>⟨vD,kL,by omega⟩,fun _=>rfl⟩
theorem lZ{b:List Int}{e:(Int×Int×Int×Int)}(h:di b e=0):(bP b e).length=b.length:=by obtain⟨h1,h2,_⟩:=bS.1 h;have vD:=bF.1 h1;have kL:=aF.1 h2;have:=cH kL.1 kL.2;unfold bP;rw [if_pos h];exact length_splice (by show cJ e.1+5<=_;omega)
theorem zU{b:List Int}{e:(Int×Int×Int×Int)}(h:di b e=0):aP (bP b e) e.1=0/\ai (bP b e) e.1=e:=by
 obtain⟨h1,h2,h3⟩:=bS.1 h;have vD:=bF.1 h1;have kL:=aF.1 h2;have hp:=cH kL.1 kL.2;have hlen:=lZ h;have eQ:∀ j,j<5->(bP b e).getD (cJ e.1+j) 0=(dB e).getD j 0:=fun j hj=>by unfold bP;rw [if_pos h];exact bY (by show cJ e.1+5<=_;omega) hj
 have t0:=eQ 0 (by omega);have t1:=eQ 1 (by omega);have t2:=eQ 2 (by omega);have t3:=eQ 3 (by omega);have t4:=eQ 4 (by omega);obtain⟨x,a,l,t⟩:=e;dsimp only at *;have e0:(dB (x,a,l,t)).getD 0 0=(t+1) % 256:=rfl;have e1:(dB (x,a,l,t)).getD 1 0=a % 256:=rfl;have e2:(dB (x,a,l,t)).getD 2 0=a / 256 % 256:=rfl;have e3:(dB (x,a,l,t)).getD 3 0=l % 256:=rfl;have e4:(dB (x,a,l,t)).getD 4 0=l / 256 % 256:=rfl;rw [e0,Nat.add_zero] at t0;rw [e1] at t1;rw [e2] at t2;rw [e3] at t3;rw [e4] at t4;refine⟨aJ.2 ⟨by rw [hlen];exact h1,h2,?_⟩,?_⟩
 ·unfold aq;rw [t0];omega
 ·unfold ai aq;rw [dI _ _ (by rw [hlen];omega),dI _ _ (by rw [hlen];omega),t0,t1,t2,t3,t4];simp only [Prod.mk.injEq,true_and];omega
theorem lV{b r:List Int}{h k:Int}(hr:r.length=5)(hb:288<=b.length)(h1:1<=h)(h2:h<=40)(k1:1<=k)(k2:k<=40)(hk:k≠h):aq (splice b (cJ h) r) k=aq b k/\ai (splice b (cJ h) r) k=ai b k:=by
 have hp:=cH h1 h2;have hq:=cH k1 k2;have aO:=zdR h1 k1 (fun e=>hk e.symm);have hlen:(splice b (cJ h) r).length=b.length:=length_splice (by omega);have iA:∀ j,j<5->(splice b (cJ h) r).getD (cJ k+j) 0=b.getD (cJ k+j) 0:=fun j hj=>aY (by omega) (by omega)
 have e0:=iA 0 (by omega);rw [Nat.add_zero] at e0;have ht:aq (splice b (cJ h) r) k=aq b k:=e0;refine⟨ht,?_⟩;unfold ai;rw [ht,dI _ _ (by omega),dI _ _ (by omega),dI b _ (by omega),dI b _ (by omega)];have e1:=iA 1 (by omega);have e2:=iA 2 (by omega);have e3:=iA 3 (by omega);have e4:=iA 4 (by omega);rw [e1,show cJ k+1+1=cJ k+2 by omega,e2,e3,show cJ k+3+1=cJ k+4 by omega,e4]
def rowAt(b:List Int)(i:Nat):List Int:=(b.drop (200+11 * i)).take 11
def isRoot(r:List Int):Bool:=r.any (fun c=>c != 0)
def rootOf(r:List Int):ByteArray×Int:=((aT (r.take 8)).1,r.getD 10 0)
def ak(b:List Int):Nat->List (ByteArray×Int)
 | 0=>[]
 | k+1=>ak b k++if isRoot (rowAt b k)=true then [rootOf (rowAt b k)] else []
def roots(b:List Int):List (ByteArray×Int):=if b9 b.length=true then ak b 8 else []
theorem eA(b:List Int)(k:Nat):(ak b k).length<=k:=by
 induction k with
 | zero=>exact zNr
 | succ k ih=>unfold ak;rw [zLa];split <;> simp <;> omega
def gv(r:ByteArray×Int):Bool:=decide (r.1.size=0) && decide (r.2=0)
theorem eX{r:ByteArray×Int}:gv r=true ↔ r.1.size=0/\r.2=0:=by unfold gv;rw [Bool.and_eq_true,decide_eq_true_iff,decide_eq_true_iff]
def du(s:ByteArray):Bool:=decide (1<=s.size) && (decide (s.size<=8) && decide (tr (fun j=>(!mA ((gQ s).getD j 0))) s.size=s.size))
theorem bZ{s:ByteArray}:du s=true ↔ gA s:=by
 unfold du;rw [Bool.and_eq_true,Bool.and_eq_true,decide_eq_true_iff,decide_eq_true_iff,decide_eq_true_iff];have hf:=cf (fun j=>(!mA ((gQ s).getD j 0))) s.size;constructor
 ·rintro ⟨h1,h2,h3⟩;rw [h3] at hf;exact⟨h1,h2,hf⟩
 ·rintro ⟨h1,h2,h3⟩;exact⟨h1,h2,hf.unique h3⟩
def eF(r:ByteArray×Int):Int:=if gv r=true then 0 else if dC r.2=false then 1 else if du r.1=true then 0 else 2
def fX(r:ByteArray×Int):List Int:=if gv r=true then ag 11 else bf r.1++[0,0,r.2 % 256]
def BI(b:List Int)(i:Int)(r:ByteArray×Int):Int:=if b9 b.length=false then 3 else if i<0\/7<i then 1 else eF r
def je(b:List Int)(i:Int)(r:ByteArray×Int):List Int:=if BI b i r=0 then splice b (200+11 * i.toNat) (fX r) else []
theorem kC{r:ByteArray×Int}(h:eF r=0):(fX r).length=11:=by
 unfold fX;unfold eF at h;by_cases h0:gv r=true
 ·rw [if_pos h0];exact aj 11
 ·rw [if_neg h0] at h ⊢;by_cases h1:dC r.2=false
  ·rw [if_pos h1] at h;cases h
  ·rw [if_neg h1] at h;by_cases h2:du r.1=true
   ·rw [zLa,bD _ (bZ.1 h2).2.1];rfl
   ·rw [if_neg h2] at h;cases h
theorem vi(r:ByteArray×Int):bj (fX r):=by
 unfold fX;by_cases h0:gv r=true
 ·rw [if_pos h0];exact bW 11
 ·rw [if_neg h0];intro z hz;rcases zMa hz with hz | hz
  ·exact jc _ z hz
  rcases zMc hz with rfl | hz
  ·omega
  rcases zMc hz with rfl | hz
  ·omega
  rw [zMs hz];omega
theorem gB{b:List Int}{i:Int}{r:ByteArray×Int}:BI b i r=0 ↔ b9 b.length=true/\0<=i/\i<=7/\eF r=0:=by
 unfold BI;by_cases h1:b9 b.length=false
 ·rw [if_pos h1];simp [h1]
 ·rw [if_neg h1];have vD:b9 b.length=true:=by simpa using h1
  by_cases h2:i<0\/7<i
  ·rw [if_pos h2];constructor
   ·intro h;cases h
   ·rintro ⟨_,_,_,_⟩;omega
  ·rw [if_neg h2];exact⟨fun h=>⟨vD,by omega,by omega,h⟩,fun h=>h.2.2.2⟩
theorem FG{b:List Int}{i:Int}{r:ByteArray×Int}(h:BI b i r=0):(je b i r).length=b.length:=by obtain⟨h1,h2,h3,h4⟩:=gB.1 h;have vD:=bF.1 h1;unfold je;rw [if_pos h];exact length_splice (by rw [kC h4];omega)
theorem bH{b:List Int}{i j:Nat}(hj:j<11):(rowAt b i).getD j 0=b.getD (200+11 * i+j) 0:=by unfold rowAt;simp [List.getD,hj]
theorem aS{b:List Int}{i:Nat}(h:200+11 * i+11<=b.length):(rowAt b i).length=11:=by unfold rowAt;simp;omega
theorem CZ{b l:List Int}{off i:Nat}(h:off+l.length<=b.length)(hi:200+11 * i+11<=b.length)(ho:off+l.length<=200+11 * i\/200+11 * i+11<=off):rowAt (splice b off l) i=rowAt b i:=by
 have hl:=length_splice h;apply bQ
 ·rw [aS (by omega),aS hi]
 ·intro j hj;rw [aS (by omega)] at hj;rw [bH hj,bH hj];exact aY h (by omega)
theorem Ir{b l:List Int}{i:Nat}(hl:l.length=11)(hi:200+11 * i+11<=b.length):rowAt (splice b (200+11 * i) l) i=l:=by
 have h:200+11 * i+l.length<=b.length:=by omega
 have hs:=length_splice h;apply bQ
 ·rw [aS (by omega),hl]
 ·intro j hj;rw [aS (by omega)] at hj;rw [bH hj];exact bY h (by omega)
theorem js:isRoot (ag 11)=false:=by unfold isRoot;rw [List.any_eq_false];intro z hz;have:=(List.mem_replicate.1 hz).2;simp [this]
theorem qx{r:ByteArray×Int}(h:eF r=0)(hn:¬ gv r=true):isRoot (fX r)=true/\rootOf (fX r)=r:=by
 unfold eF at h;unfold fX;rw [if_neg hn] at h ⊢;by_cases h1:dC r.2=false
 ·rw [if_pos h1] at h;cases h
 rw [if_neg h1] at h;have vD:=aF.1 (show dC r.2=true by simpa using h1);by_cases kL:du r.1=true
 ·have h2:=bZ.1 kL;have hl:=bD r.1 h2.2.1;have hm:r.2 % 256=r.2:=by omega
  refine⟨?_,?_⟩
  ·unfold isRoot;refine List.any_eq_true.2 ⟨r.2 % 256,by simp,?_⟩;rw [hm];exact bne_iff_ne.2 (by omega)
  ·unfold rootOf;have ht:(bf r.1++[0,0,r.2 % 256]).take 8=bf r.1:=by rw [List.take_append_of_le_length (by omega),List.take_of_length_le (by omega)]
   have hg:(bf r.1++[0,0,r.2 % 256]).getD 10 0=r.2 % 256:=by rw [List.getD,List.getElem?_append_right (by omega),hl];rfl
   rw [ht,hg,hm];have hf:=ng r.1 h2;have hz:=nf r.1 h2.2.1;have e1:bU (bf r.1)=r.1.size:=(cf _ _).unique hf;have e2:lU (bf r.1) r.1.size=8-r.1.size:=(cf _ _).unique hz;have hr:(aT (bf r.1)).1=r.1:=by unfold aT;rw [if_neg (fun h=>h hl),e1,e2,hl,if_neg (by have:=h2.1;omega)];exact td r.1
   rw [hr]
 ·rw [if_neg kL] at h;cases h
theorem gS{b:List Int}{k:Nat}:∀ m,k<=m->(∀ j,k<=j->j<m->isRoot (rowAt b j)=false)->ak b m=ak b k:=by
 intro m;induction m with
 | zero=>intro h _;rw [show k=0 by omega]
 | succ m ih =>
  intro h hn;by_cases he:k=m+1
  ·rw [he]
  ·show ak b m++_=ak b k
   rw [if_neg (by rw [hn m (by omega) (by omega)];simp),List.append_nil];exact ih (by omega) (fun j h1 h2=>hn j h1 (by omega))
theorem kD{b c:List Int}:∀ m,(∀ j,j<m->rowAt c j=rowAt b j)->ak c m=ak b m:=by
 intro m;induction m with
 | zero=>intro _;rfl
 | succ m ih =>intro h;unfold ak;rw [h m (by omega),ih (fun j hj=>h j (by omega))]
theorem C0{b:List Int}{i:Nat}{r:ByteArray×Int}(h:BI b i r=0)(hn:∀ j,i<=j->j<8->isRoot (rowAt b j)=false) :
  roots (je b i r)=roots b++(if gv r=true then [] else [r])/\∀ j,i+1<=j->j<8->isRoot (rowAt (je b i r) j)=false:=by
 obtain⟨h1,h2,h3,h4⟩:=gB.1 h;have vD:=bF.1 h1;have hlen:=FG h;have uJ:=kC h4;have e:je b i r=splice b (200+11 * i) (fX r):=by unfold je;rw [if_pos h,zTn]
 have dc:200+11 * i+(fX r).length<=b.length:=by omega
 have iA:∀ j,j<8->j≠i->rowAt (je b i r) j=rowAt b j:=fun j hj aO=>by rw [e];exact CZ dc (by omega) (by omega)
 have eQ:rowAt (je b i r) i=fX r:=by rw [e];exact Ir uJ (by omega)
 have AF:∀ j,i+1<=j->j<8->isRoot (rowAt (je b i r) j)=false:=fun j hj hj8=>by rw [iA j hj8 (by omega)];exact hn j (by omega) hj8
 refine⟨?_,AF⟩;unfold roots;rw [hlen,if_pos h1,if_pos h1,gS 8 (by omega) AF,gS (b:=b) (k:=i) 8 (by omega) hn]
 show ak (je b i r) i++_=_
 rw [kD i (fun j hj=>iA j (by omega) (by omega)),eQ]
 congr 1
 by_cases h0:gv r=true
 ·rw [if_pos h0];have:fX r=ag 11:=by unfold fX;rw [if_pos h0]
  rw [this,js];rfl
 ·obtain⟨k1,k2⟩:=qx h4 h0;rw [k1,k2,if_pos rfl,if_neg h0]
theorem cK(n:Int)(w:World) :
  Calls Tryz.prog 61 #[.int .i64 n] w fun e w'=>e=.returned (.bool (b9 n))/\w=w':=by
 unfold b9;by_cases h1:288<=n
 ·rw [decide_eq_true h1,Bool.true_and];go_enter Tryz.func61,Tryz.ntmps61
  go_wp2;go_ret;exact⟨rfl,rfl⟩
 ·rw [decide_eq_false h1,Bool.false_and];go_enter Tryz.func61,Tryz.ntmps61
  go_wp2;go_ret;exact⟨rfl,rfl⟩
theorem fj(n:Int)(w:World) :
  Calls Tryz.prog 183 #[.int .i64 n] w fun e w'=>e=.returned (.bool (dC n))/\w=w':=by
 unfold dC;by_cases h1:1<=n
 ·rw [decide_eq_true h1,Bool.true_and];go_enter Tryz.func183,Tryz.ntmps183
  go_wp2;go_ret;exact⟨rfl,rfl⟩
 ·rw [decide_eq_false h1,Bool.false_and];go_enter Tryz.func183,Tryz.ntmps183
  go_wp2;go_ret;exact⟨rfl,rfl⟩
def B2(n:Int):Bool:=decide (0<=n) && decide (n<=15)
def Ig(n:Int):Bool:=decide (1<=n) && decide (n<=1000)
def TT(n a l:Int):Bool:=decide (288<=a) && decide (l<=n-a)
theorem wE(n:Int)(w:World) :
  Calls Tryz.prog 197 #[.int .i64 n] w fun e w'=>e=.returned (.bool (B2 n))/\w=w':=by
 unfold B2;by_cases h1:0<=n
 ·rw [decide_eq_true h1,Bool.true_and];go_enter Tryz.func197,Tryz.ntmps197
  go_wp2;go_ret;exact⟨rfl,rfl⟩
 ·rw [decide_eq_false h1,Bool.false_and];go_enter Tryz.func197,Tryz.ntmps197
  go_wp2;go_ret;exact⟨rfl,rfl⟩
theorem ti(n:Int)(w:World) :
  Calls Tryz.prog 198 #[.int .i64 n] w fun e w'=>e=.returned (.bool (Ig n))/\w=w':=by
 unfold Ig;by_cases h1:1<=n
 ·rw [decide_eq_true h1,Bool.true_and];go_enter Tryz.func198,Tryz.ntmps198
  go_wp2;go_ret;exact⟨rfl,rfl⟩
 ·rw [decide_eq_false h1,Bool.false_and];go_enter Tryz.func198,Tryz.ntmps198
  go_wp2;go_ret;exact⟨rfl,rfl⟩
theorem uB(n a l:Int)(w:World)(hn:0<=n/\n<=6400)(ha:-9223372036854775808<=a/\a<=9223372036854775807) :
  Calls Tryz.prog 199 #[.int .i64 n,.agg #[.int .i64 a,.int .i64 l]] w fun e w'=>e=.returned (.bool (TT n a l))/\Below w.heap.size w w':=by
 obtain⟨n1,n2⟩:=hn;obtain⟨a1,a2⟩:=ha;unfold TT;by_cases h1:288<=a
 ·rw [decide_eq_true h1,Bool.true_and];go_enter Tryz.func199,Tryz.ntmps199
  go_wp2;go_ret;exact⟨rfl,zBr.alloc zNr _⟩
 ·rw [decide_eq_false h1,Bool.false_and];go_enter Tryz.func199,Tryz.ntmps199
  go_wp2;go_ret;exact⟨rfl,zBr.alloc zNr _⟩
theorem ia(h:Int)(w:World)(h1:1<=h)(h2:h<=40) :
  Calls Tryz.prog 126 #[.int .i64 h] w fun e w'=>e=.returned (.int .i64 (cJ h))/\w=w':=by
 have e:((cJ h:Nat):Int)=(h-1) * 5:=by unfold cJ;omega
 rw [e];go_enter Tryz.func126,Tryz.ntmps126
 go_wp2;go_ret;exact⟨rfl,rfl⟩
theorem oX(i:Nat)(w:World)(h:i<=8) :
  Calls Tryz.prog 98 #[.int .i64 i] w fun e w'=>e=.returned (.int .i64 ((200+11 * i:Nat):Int))/\w=w':=by
 have e:((200+11 * i:Nat):Int)=200+(i:Int) * 11:=by omega
 rw [e];go_enter Tryz.func98,Tryz.ntmps98
 go_wp2;go_ret;exact⟨rfl,rfl⟩
theorem PS(a:Option Addr)(cap:Nat)(l:List Int)(h:Int)(w:World)(hb:Bs w a cap l)(hl:288<=l.length)(h1:1<=h)(h2:h<=40) :
  Calls Tryz.prog 62 #[.slice a l.length cap,.int .i64 h] w fun e w'=>e=.returned (.bool (aq l h != 0))/\w=w':=by
 have hp:=cH h1 h2;obtain⟨b,off,rfl,bk⟩:=hb.at (cJ h) (by omega);have h3:=hb.2.2.1;have HE:=af (ia h w h1 h2);unfold aq;have aM:(cJ h:Int)<l.length:=by omega
 clear hb;generalize l.getD (cJ h) 0=c at *;generalize cJ h=p at *;go_enter Tryz.func62,Tryz.ntmps62
 go_wp2_with fail
 refine(ae HE).mono ?_;rintro e w1 ⟨rfl,rfl⟩;go_wp2;go_ret;exact⟨rfl,rfl⟩
theorem r8(a:Option Addr)(cap:Nat)(l:List Int)(h:Int)(w:World)(hb:Bs w a cap l) :
  Calls Tryz.prog 127 #[.slice a l.length cap,.int .i64 h] w fun e w'=>e=.returned (aR (aP l h))/\w=w':=by
 have h3:=hb.2.2.1;have HL:=af (cK l.length w);have HH:=af (fj h w);unfold aP;cases hq:b9 l.length with
 | false =>
  rw [if_pos rfl];rw [hq] at HL;clear hq;go_enter Tryz.func127,Tryz.ntmps127
  go_wp2_with fail
  refine(ae HL).mono ?_;rintro e w1 ⟨rfl,rfl⟩;go_wp2;go_ret;exact⟨rfl,rfl⟩
 | true =>
  rw [if_neg (by simp)];rw [hq] at HL;have hlen:=bF.1 hq;cases hh:dC h with
  | false =>
   rw [if_pos rfl];rw [hh] at HH;clear hq hh;go_enter Tryz.func127,Tryz.ntmps127
   go_wp2_with fail
   refine(ae HL).mono ?_;rintro e w1 ⟨rfl,rfl⟩;go_wp2_with fail
   refine(ae HH).mono ?_;rintro e w1 ⟨rfl,rfl⟩;go_wp2;go_ret;exact⟨rfl,rfl⟩
  | true =>
   rw [if_neg (by simp)];rw [hh] at HH;have hhn:=aF.1 hh;have HA:=af (PS a cap l h w hb (by omega) hhn.1 hhn.2);clear hq hh hb;by_cases ht:aq l h=0
   ·rw [if_pos ht];rw [ht] at HA;clear ht;go_enter Tryz.func127,Tryz.ntmps127
    go_wp2_with fail
    refine(ae HL).mono ?_;rintro e w1 ⟨rfl,rfl⟩;go_wp2_with fail
    refine(ae HH).mono ?_;rintro e w1 ⟨rfl,rfl⟩;go_wp2_with fail
    refine(ae HA).mono ?_;rintro e w1 ⟨rfl,rfl⟩;go_wp2;go_ret;exact⟨rfl,rfl⟩
   ·rw [if_neg ht];rw [bne_iff_ne.2 ht] at HA;clear ht;go_enter Tryz.func127,Tryz.ntmps127
    go_wp2_with fail
    refine(ae HL).mono ?_;rintro e w1 ⟨rfl,rfl⟩;go_wp2_with fail
    refine(ae HH).mono ?_;rintro e w1 ⟨rfl,rfl⟩;go_wp2_with fail
    refine(ae HA).mono ?_;rintro e w1 ⟨rfl,rfl⟩;go_wp2;go_ret;exact⟨rfl,rfl⟩
def I3(n:Int):List Int:=if b9 n=true then ag n.toNat else []
def I4(n:Int):Int:=if b9 n=true then 0 else 1
theorem FT(n:Int)(w:World) :
  Calls Tryz.prog 29 #[.int .i64 n] w (Ends w (I3 n) (aR (I4 n))):=by
 have HL:=af (cK n w);unfold I3 I4;obtain⟨i0,hi,cY,dw,dz⟩:=info_parts dQ;cases hq:b9 n with
 | false =>
  rw [if_neg (by simp),if_neg (by simp)];rw [hq] at HL;clear hq;go_enter Tryz.func29,Tryz.ntmps29
  go_wp2_with fail
  refine(ae HL).mono ?_;rintro e w1 ⟨rfl,rfl⟩;go_wp2;go_ret2;exact jC rfl rfl
 | true =>
  rw [if_pos rfl,if_pos rfl];rw [hq] at HL;have hn:=bF.1 hq;obtain⟨N,rfl⟩:=Int.eq_ofNat_of_zero_le (show 0<=n by omega);rw [zTn];clear hq;go_enter Tryz.func29,Tryz.ntmps29
  go_wp2_with fail
  refine(ae HL).mono ?_;rintro e w1 ⟨rfl,rfl⟩;go_wp2_with (at_make;refine bE rfl _ _ 30 rfl i0 zu30 hi cY dw dz _ _ _ _ N rfl rfl rfl rfl (by omega) ?_;intro w2 gO gM aK)
  go_ret2;have hlen:=aj N;exact⟨_,N,by rw [hlen];rfl,by have:=gO.bs (bW N) (by rw [hlen];omega);rw [hlen] at this;exact this,aK⟩
def cj(w:World)(B:Nat)(v:Value)(L:List Int):Prop:=w.ownsRow B 5 1 v L.length (L.map (Value.int .u8))
theorem cj.nil(w:World)(B:Nat):cj w B (.slice none 0 0) []:=⟨by simp,.inl ⟨rfl,rfl⟩⟩
theorem cj.block{w:World}{B:Nat}{v:Value}{L:List Int}(h:cj w B v L):∀ k,v.ownBlock=some k->B<=k:=by
 intro k hk;rcases h.2 with ⟨rfl,_⟩ | ⟨g,cap,cur,rfl,hB,_⟩
 ·cases hk
 ·simp [Value.ownBlock] at hk;omega
theorem cj.bs{w:World}{B:Nat}{v:Value}{L:List Int}(h:cj w B v L)(hb:bj L)(hl:L.length<=140737488351232):∃ a c,v=.slice a L.length c/\Bs w a c L:=by
 rcases h.2 with ⟨rfl,h0⟩ | ⟨g,cap,cur,rfl,hB,hc,h3,h4,h5,h6⟩
 ·have:L=[]:=List.eq_nil_of_length_eq_zero h0;subst this;exact⟨none,0,rfl,eC _⟩
 ·refine⟨some ⟨g,0,none⟩,cap,rfl,hb,h3,hl,fun e=>(by cases e),fun _=>⟨g,0,rfl,fun i hi=>?_⟩⟩;rw [cell_of_row _ _ _ _ _ _ hc];have e:(cur.toList.take (L.length * 1))[i]?=some (.int .u8 (L.getD i 0)):=by rw [h6];simp [List.getD,hi]
  rw [List.getElem?_take,if_pos (by omega)] at e;simpa using e
theorem y7{w:World}{ad:Addr}{c:Nat}{l:List Int}(hb:Bs w (some ad) c l):∀ j u,(l.map (Value.int .u8))[j]?=some u->w.cell? (ad.add j)=some u:=by
 intro j u hj;have mG:j<l.length:=by
  rcases Nat.lt_or_ge j l.length with h1 | h1
  ·exact h1
  ·rw [List.getElem?_eq_none (by simpa using h1)] at hj;cases hj
 obtain⟨b,off,e,hc⟩:=hb.2.2.2.2 (by intro e;rw [e] at mG;simp at mG);obtain rfl:=zOi e;have h2:=hc j mG;simp [mG] at hj;subst hj;rw [addr_add];simpa [List.getD,mG] using h2
theorem cj.below{w w':World}{B:Nat}{v:Value}{L:List Int}(h:cj w B v L)(hb:Below w.heap.size w w'):cj w' B v L:=by
 refine⟨h.1,?_⟩;rcases h.2 with h0 | ⟨g,cap,cur,rfl,hB,hc,h3⟩
 ·exact .inl h0
 ·exact .inr ⟨g,cap,cur,rfl,hB,(hb.block g (zAg hc).1).trans hc,h3⟩
theorem aH(w:World)(o:Obj):(w.alloc o).heap.size=w.heap.size+1:=by simp
def k8(e:(Int×Int×Int×Int)):Value:=.agg #[.int .i64 e.1,.int .i64 e.2.1,.int .i64 e.2.2.1,.int .i64 e.2.2.2]
def rf(w:World)(g:Nat)(e:(Int×Int×Int×Int)):Prop:=w.heap[g]?=some (.cells #[.int .i64 e.1,.int .i64 e.2.1,.int .i64 e.2.2.1,.int .i64 e.2.2.2] 125 (0,0))
section
variable {w:World} {g:Nat} {e:(Int×Int×Int×Int)}
theorem rf.lt(h:rf w g e):g<w.heap.size:=(zAg h).1
theorem rf.cells(h:rf w g e):w.cell? ⟨g,0,none⟩=some (.int .i64 e.1)/\w.cell? ⟨g,1,none⟩=some (.int .i64 e.2.1)/\w.cell? ⟨g,2,none⟩=some (.int .i64 e.2.2.1)/\w.cell? ⟨g,3,none⟩=some (.int .i64 e.2.2.2):=by simp only [cell_of_row _ _ _ _ _ _ h];exact⟨rfl,rfl,rfl,rfl⟩
theorem rf.fr(h:rf w g e)(i:Nat):w.frozen? ⟨g,i,none⟩=false:=frozen_of_row w g i _ _ h
theorem rf.below{w':World}{B:Nat}(h:rf w g e)(hb:Below B w w')(hg:g<B):rf w' g e:=(hb.block g hg).trans h
end
theorem rf.new(w:World)(e:(Int×Int×Int×Int)):rf (w.alloc (.cells #[.int .i64 e.1,.int .i64 e.2.1,.int .i64 e.2.2.1,.int .i64 e.2.2.2] 125)) w.heap.size e:=heap_alloc_new w _
theorem U4:(Tryz.prog.info? 125).map (·.size)=some 4:=by kernel_rfl
theorem xM{fn:Func}{p q:Tmp}(h:fn.results=#[.cell p 125,.tmp q])(tmps:Array Value)(w:World)(g:Nat)(e:(Int×Int×Int×Int))
  (hp:tmps.getD p undef=.pointer (some ⟨g,0,none⟩)) (hg:rf w g e) :
  (results fn tmps).run Tryz.prog w=.ok (.tuple #[k8 e,tmps.getD q undef]) w:=by
 rw [results_cell_tmp h,hp];have:=run_loadVar_row (P:=Tryz.prog) w g 125 125 _ (0,0) _ hg Tryz.underlying125 rfl (by rw [U4];rfl);simp [asAddr,this,Result.andThen];rfl
theorem Pz(a:Option Addr)(cap:Nat)(l:List Int)(h:Int)(w:World)(hb:Bs w a cap l)(hc:aP l h≠0) :
  Calls Tryz.prog 63 #[.slice a l.length cap,.int .i64 h] w fun e w'=>e=.returned (.tuple #[k8 YA,aR (aP l h)])/\Below w.heap.size w w':=by
 have gy:Below w.heap.size w (w.alloc (.cells #[.int .i64 0,.int .i64 0,.int .i64 0,.int .i64 0] 125)):=zBr.alloc zNr _;have HC:=af (r8 a cap l h _ (hb.below gy));have iw:=af gy;rw [aC _ hc] at HC ⊢;generalize aP l h=c at *;generalize l.length=N at *;clear hb hc gy;go_enter Tryz.func63,Tryz.ntmps63
 go_wp2_with fail
 refine(ae HC).mono ?_;rintro e w1 ⟨rfl,fR⟩;subst fR;go_wp2;refine bodyPost_ret (xM Tryz.results63 _ _ w.heap.size YA rfl (rf.new w YA)) rfl ?_;exact⟨rfl,ae iw⟩
theorem uI(a:Option Addr)(cap:Nat)(l:List Int)(h:Int)(w:World)(hb:Bs w a cap l)(hc:aP l h=0) :
  Calls Tryz.prog 63 #[.slice a l.length cap,.int .i64 h] w fun e w'=>e=.returned (.tuple #[k8 (ai l h),.nilIface])/\Below w.heap.size w w':=by
 obtain⟨tl,XF,ht⟩:=aJ.1 hc;have kU:=bF.1 tl;have wK:=aF.1 XF;have hp:=cH wK.1 wK.2;have gy:Below w.heap.size w (w.alloc (.cells #[.int .i64 0,.int .i64 0,.int .i64 0,.int .i64 0] 125)):=zBr.alloc zNr _;have ay:=hb.below gy;have HC:=af (r8 a cap l h _ ay);rw [hc,aA] at HC;have HE:=af (ia h (w.alloc (.cells #[.int .i64 0,.int .i64 0,.int .i64 0,.int .i64 0] 125)) wK.1 wK.2);obtain⟨a',BP,aK⟩:=db (P:=Tryz.prog) (t:=30) zu30 aN ay (cJ h) (by omega);have K5:(l.drop (cJ h)).length=l.length-cJ h:=by simp
 have HG1:=af (jA a' (cap-cJ h) (l.drop (cJ h)) 1 2 _ aK (by omega) (by omega) (by omega) (by omega));have HG2:=af (jA a' (cap-cJ h) (l.drop (cJ h)) 3 2 _ aK (by omega) (by omega) (by omega) (by omega));obtain⟨b,off,rfl,bk⟩:=aK.at 0 (by omega);rw [K5] at HG1 HG2;have e1:bz (l.drop (cJ h)) (1:Int).toNat (2:Int).toNat=bz l (cJ h+1) 2:=by unfold bz;rw [List.drop_drop];rfl
 have e3:bz (l.drop (cJ h)) (3:Int).toNat (2:Int).toNat=bz l (cJ h+3) 2:=by unfold bz;rw [List.drop_drop];rfl
 rw [e1] at HG1;rw [e3] at HG2;have Cm:(l.drop (cJ h)).getD 0 0=aq l h:=by rw [Es,Nat.add_zero];rfl
 rw [Cm,Nat.add_zero] at bk;have sE:=hb.1.getD (cJ h);have zmJ:0<=aq l h/\aq l h<=255:=sE;have h3:=hb.2.2.1;have py:=hb.2.1;unfold ai;have zmg:((0:Nat):Int)<((l.length-cJ h:Nat):Int):=by omega
 clear hb ay aK gy e1 e3 Cm sE K5 ht hc tl XF;generalize bz l (cJ h+1) 2=x at *;generalize bz l (cJ h+3) 2=y at *;generalize aq l h=t at *;generalize cJ h=p at *;generalize l.length=N at *;go_enter Tryz.func63,Tryz.ntmps63
 go_wp2_with fail
 refine(ae HC).mono ?_;rintro e w1 ⟨rfl,fR⟩;subst fR;go_wp2_with fail
 refine(ae HE).mono ?_;rintro e w1 ⟨rfl,fR⟩;subst fR;go_wp2_with fail
 refine(ae HG1).mono ?_;rintro e w1 ⟨rfl,fR⟩;subst fR;go_wp2_with fail
 refine(ae HG2).mono ?_;rintro e w1 ⟨rfl,fR⟩;subst fR;go_wp2;refine bodyPost_ret (xM Tryz.results63 _ _ w.heap.size (h,x,y,t-1) rfl (rf.new w (h,x,y,t-1))) rfl ?_;exact⟨rfl,zBr.alloc zNr _⟩
theorem Jv(a:Option Addr)(cap:Nat)(l:List Int)(h:Int)(w:World)(hb:Bs w a cap l) :
  Calls Tryz.prog 63 #[.slice a l.length cap,.int .i64 h] w fun e w'=>e=.returned (.tuple #[k8 (gz l h),aR (aP l h)])/\Below w.heap.size w w':=by
 unfold gz;by_cases hc:aP l h=0
 ·rw [if_pos hc,hc,aA];exact uI a cap l h w hb hc
 ·rw [if_neg hc];exact Pz a cap l h w hb hc
def Row(w:World)(B g c:Nat)(cur:Array Value)(l:List Int):Prop :=B<=g/\w.heap[g]?=some (.cells cur 5 (0,0))/\l.length<=c/\cur.size=c/\cur.toList.take l.length=l.map (Value.int .u8)
theorem Row.bs{w:World}{B g c:Nat}{cur:Array Value}{l:List Int}(h:Row w B g c cur l)(hb:bj l)(hl:l.length<=140737488351232):Bs w (some ⟨g,0,none⟩) c l:=by
 obtain⟨h1,h2,h3,h4,h5⟩:=h;refine⟨hb,h3,hl,fun e=>(by cases e),fun _=>⟨g,0,rfl,fun i hi=>?_⟩⟩;rw [cell_of_row _ _ _ _ _ _ h2];have e:(cur.toList.take l.length)[i]?=some (.int .u8 (l.getD i 0)):=by rw [h5];simp [List.getD,hi]
 rw [List.getElem?_take,if_pos hi] at e;simpa using e
theorem Row.VT{w:World}{B g cap:Nat}{l:List Int}(h:Own w B g cap l):∃ cur,Row w B g cap cur l:=by
 rcases h.2 with ⟨h',_⟩ | ⟨g',cap',cur,h',hb,h2,h3,h4,h5,h6⟩
 ·simp at h'
 ·simp only [Value.slice.injEq,Option.some.injEq,Addr.mk.injEq,and_true,true_and] at h';obtain⟨rfl,rfl⟩:=h';exact⟨cur,hb,h2,h3,by omega,by rw [Nat.mul_one] at h6;exact h6⟩
theorem Row.own{w:World}{B g cap:Nat}{cur:Array Value}{l:List Int}(h:Row w B g cap cur l)(hm:cap<=maxLen):Own w B g cap l:=by obtain⟨h1,h2,h3,h4,h5⟩:=h;exact⟨by simp,.inr ⟨g,cap,cur,rfl,h1,h2,h3,hm,by omega,by rw [Nat.mul_one];exact h5⟩⟩
def fJ(w:World)(g:Nat)(cur:Array Value)(off:Nat)(l:List Int):World:=w.setRow g (splice cur.toList off (l.map (Value.int .u8))).toArray
theorem jb{w:World}{B g c off:Nat}{cur:Array Value}{l r:List Int}(h:Row w B g c cur l)(dc:off+r.length<=l.length):Row (fJ w g cur off r) B g c (splice cur.toList off (r.map (Value.int .u8))).toArray (splice l off r):=by
 obtain⟨h1,h2,h3,h4,h5⟩:=h;have hs:=length_splice dc;refine⟨h1,setRow_heap w g _ _ _ _ h2,by rw [hs];exact h3,?_,?_⟩
 ·rw [List.size_toArray,Go.length_splice _ _ _ (by simp;omega)];simpa using h4
 ·rw [hs];have mH:l.length<=cur.toList.length:=by simp;omega
  generalize cur.toList=L at *;unfold splice;have e1:(L.take off)=(l.take off).map (Value.int .u8):=by rw [List.map_take,<- h5,List.take_take,Nat.min_eq_left (by omega)]
  have e2:(L.drop (off+r.length)).take (l.length-off-r.length)=(l.drop (off+r.length)).map (Value.int .u8):=by
   rw [List.map_drop,<- h5,List.drop_take]
   congr 1
   omega
  rw [List.take_append,List.take_append,List.map_append,List.map_append];have l1:(List.take off L).length=off:=by rw [zLt];omega
  have t1:List.take l.length (List.take off L)=(l.take off).map (Value.int .u8):=by rw [List.take_take,Nat.min_eq_right (by omega)];exact e1
  have t2:List.take (l.length-off) (r.map (Value.int .u8))=r.map (Value.int .u8):=List.take_of_length_le (by simp;omega);rw [l1,zLm,e2,t1,t2]
theorem gh{w w0:World}{B g off:Nat}{cur:Array Value}{l:List Int}(hb:Below B w0 w)(hBg:B<=g):Below B w0 (fJ w g cur off l):=below_setRow hb hBg _
theorem fz{P:Program}(w:World)(dT sT ty:TypeId)(hu:P.underlying dT=some (.slice 5))(cL:(P.info? 5).map (·.size)=some 1)
  (B g off dLen dCap c:Nat) (cur:Array Value) (sp:Option Addr) (sCap:Nat) (z l:List Int) (hl:l.length<=dLen) (h0:l≠[]) (dc:off+l.length<=z.length) (hg:Row w B g c cur z) (hb:Bs w sp sCap l) :
  (Builtin.copy_ #[dT,sT] ty #[.slice (some ⟨g,off,none⟩) dLen dCap,.slice sp l.length sCap]).run P w=.ok (.int .i64 l.length) (fJ w g cur off l):=by
 obtain⟨h1,h2,h3,h4,h5⟩:=hg;obtain⟨b,o2,rfl,hc⟩:=hb.2.2.2.2 h0;have bw:=run_copy_row (P:=P) w dT sT ty 5 g off dLen dCap ⟨b,o2,none⟩ l.length sCap cur 5 (l.map (Value.int .u8)) hu cL h2 (by simp [Nat.min_eq_left hl]) ?_ (by simp;omega) (dE l)
 ·rw [bw];simp [goInt,fJ,splice]
 ·intro j v hj;have mG:j<l.length:=by
   rcases Nat.lt_or_ge j l.length with h1 | h1
   ·exact h1
   ·rw [List.getElem?_eq_none (by simpa using h1)] at hj;cases hj
  have:=hc j mG;simp [mG] at hj;subst hj;rw [addr_add];simpa [List.getD,mG] using this
theorem rY{P:Program}{t:TypeId}(hu:P.underlying t=some (.slice 5))(cL:(P.info? 5).map (·.size)=some 1)(g c n p:Nat)(hp:p<=n)(hn:n<=c)(aM:p<c)(w':World) :
  (Instr.slice t (.slice (some ⟨g,0,none⟩) n c) (some (.int .i64 p)) none none).run P w'=.ok (.slice (some ⟨g,p,none⟩) (n-p) (c-p)) w':=by
 have he:=kx hu;rw [run_slice_l (P:=P) (w:=w') t (some ⟨g,0,none⟩) n c (by rw [he];exact hu) .i64 p (by omega) (by omega),he,eK w' cL];simp only [Result.andThen,sliced];rw [if_neg (by omega)];simp [Addr.add];exact fun h=>h.symm
theorem Ko(a:Option Addr)(cap:Nat)(l:List Int)(w:World)(hb:Bs w a cap l)(aO:l≠[]) :
  Calls Tryz.prog 200 #[.slice a l.length cap] w fun e w'=>∃ g c,e=.returned (.slice (some ⟨g,0,none⟩) l.length c)/\Own w' w.heap.size g c l/\Below w.heap.size w w':=by
 obtain⟨i0,hi,cY,dw,dz⟩:=info_parts dQ;obtain⟨b,off,rfl,hc⟩:=hb.2.2.2.2 aO;have hl:=hb.2.2.1;have q22:∀ (w:World) (a:Option Addr) (n c n' c':Nat),(binOp .eql 30 (.slice a n c) (.slice none n' c')).run Tryz.prog w=.ok (.bool a.isNone) w:=fun w a n c n' c'=>Lib.run_eql_slice_nil w _ _ a n c n' c' zu30
 have HN:=af (y7 (hb.below ((Below.refl _ w).alloc zNr (.cells #[] 5))));have jf:0<l.length:=by
  cases l with
  | nil=>exact absurd rfl aO
  | cons _ _=>simp
 clear hc hb;go_enter Tryz.func200,Tryz.ntmps200
 go_wp2_with (at_builtin;refine wpList_append_own _ rfl _ _ 30 rfl w.heap.size 5 i0 (.int .u8 0) 1 1 zu30 hi cY dw dz rfl (by decide) _ _ _ rfl (World.ownsRow_made w #[] 0 zNr (Nat.zero_le _) (by simp)) ⟨b,off,none⟩ l.length cap (l.map (Value.int .u8)) rfl (by simp) (ae HN) (dE l) (by unfold maxLen;omega) (by omega) (by simp) ?_)
 intro v' w1 az sD pw;obtain⟨g,c,rfl⟩:∃ g c,v'=.slice (some ⟨g,0,none⟩) l.length c:=by
  rcases az.2 with ⟨_,h0⟩ | ⟨g,c,_,hv,_⟩
  ·omega
  ·exact⟨g,c,hv⟩
 have HO:=af az;clear az HN;go_wp2;go_ret;exact⟨g,c,rfl,ae HO,((Below.refl _ w).alloc zNr _).grown sD (by simp) (by intro k hk;simp [Value.ownBlock] at hk;omega)⟩
theorem zo(a:Option Addr)(cap:Nat)(l:List Int)(p:Nat)(ra:Option Addr)(rc:Nat)(r:List Int)(w:World)(hb:Bs w a cap l)(hr:Bs w ra rc r)(h0:r≠[])(dc:p+r.length<=l.length) :
  Calls Tryz.prog 140 #[.slice a l.length cap,.int .i64 p,.slice ra r.length rc] w fun e w'=>∃ a' c',e=.returned (.slice a' l.length c')/\Bs w' a' c' (splice l p r)/\Below w.heap.size w w':=by
 have uJ:0<r.length:=by
  cases r with
  | nil=>exact absurd rfl h0
  | cons _ _=>simp
 have HC:=af (Ko a cap l w hb (by intro e;rw [e] at dc;simp only [List.length_nil] at dc;omega));have HR:=af hr;have iq:=hb.2.2.1;have ic:=af (bN (off:=p) hb.1 hr.1);clear hb hr;go_enter Tryz.func140,Tryz.ntmps140
 go_wp2_with fail
 refine(ae HC).mono ?_;rintro e w1 ⟨g,c,rfl,az,ay⟩;obtain⟨cur,bn⟩:=Row.VT az;have hcut:=rY (P:=Tryz.prog) zu30 aN g c l.length p (by omega) bn.2.2.1 (by have:=bn.2.2.1;omega);have nj:Sem.run Tryz.prog (Builtin.copy_ #[30,30] 3 #[.slice (some ⟨g,p,none⟩) (l.length-p) (c-p),.slice ra r.length rc]) w1=.ok (.int .i64 r.length) (fJ w1 g cur p r) :=fz w1 _ _ _ zu30 aN _ g p _ _ c cur ra rc l r (by omega) h0 dc bn ((ae HR).below ay);have HW:=af (jb bn dc);have HB:=af (gh (cur:=cur) (l:=r) (off:=p) ay bn.1);clear az bn ay HC HR;go_wp2;go_ret;exact⟨_,c,rfl,(ae HW).bs (ae ic) (by rw [length_splice dc];omega),ae HB⟩
theorem Vm(x a l t:Int)(ht:0<=t/\t<=15):putK (putK ((ag 5).set 0 (t+1)) 1 a 2) 3 l 2=dB (x,a,l,t):=by
 have e:(t+1) % 256=t+1:=by omega
 simp [putK,dB,ag,e]
theorem uY(x a l t:Int)(w:World)(ht:0<=t/\t<=15)(ha:0<=a/\a<=65535)(hl:0<=l/\l<=65535) :
  Calls Tryz.prog 139 #[.agg #[.int .i64 x,.int .i64 a,.int .i64 l,.int .i64 t]] w fun e w'=>∃ g,e=.returned (.tuple #[.slice (some ⟨g,0,none⟩) 5 5,.nilIface])/\Bs w' (some ⟨g,0,none⟩) 5 (dB (x,a,l,t))/\Below w.heap.size w w':=by
 obtain⟨i0,hi,cY,dw,dz⟩:=info_parts dQ;have gy:Below w.heap.size w (w.alloc (.cells #[.int .i64 x,.int .i64 a,.int .i64 l,.int .i64 t] 125)):=zBr.alloc zNr _;have qd:=af (rf.new w (x,a,l,t));have iw:=af gy;clear gy;obtain⟨t1,t2⟩:=ht;go_enter Tryz.func139,Tryz.ntmps139
 go_wp2_with (at_make;refine bE rfl _ _ 30 rfl i0 zu30 hi cY dw dz _ _ _ _ 5 rfl rfl rfl rfl (by omega) ?_;intro w2 gO gM aK;rw [aH] at gO gM;have fc:=(ae qd).below aK (by simp);obtain⟨c0,c1,c2,c3⟩:=fc.cells;have mH:=gO.cell 0 (by rw [aj];omega);have hfz:=gO.frozen 0;have br:=af ((ae iw).trans (aK.mono (by simp)));have xy:=af gO;have tA:=af fc;clear gO aK fc)
 have GR:=(ae xy).set 0 (t+1);have bR:Below w.heap.size w (w2.setCell ⟨w.heap.size+1,0,none⟩ (.int .u8 (t+1))):=(ae br).setCell (by exact Nat.le_succ _) _;have Cj:rf (w2.setCell ⟨w.heap.size+1,0,none⟩ (.int .u8 (t+1))) w.heap.size (x,a,l,t):=(heap_setCell_other _ _ _ _ (by show w.heap.size≠w.heap.size+1;omega)).trans (ae tA);clear xy br tA qd iw c0 c1 c2 c3 mH hfz;generalize w2.setCell ⟨w.heap.size+1,0,none⟩ (.int .u8 (t+1))=w3 at *;have hR:=Vm x a l t ⟨t1,t2⟩;have tl:((ag 5).set 0 (t+1)).length=5:=by simp [ag]
 have ik:bj ((ag 5).set 0 (t+1)):=Qm (bW 5) 0 _ (by omega);generalize (ag 5).set 0 (t+1)=R0 at *;have lK:=af (ue (some ⟨w.heap.size+1,0,none⟩) R0.length R0 1 2 a w3 (GR.bs ik (by omega)) (by omega) (by omega) ha.1 (by show ¬ nS ((2:Nat):Int)<a;simp [nS];omega) (by omega));rw [tl] at lK;obtain⟨c0,c1,c2,c3⟩:=Cj.cells;have Uc:=af Cj;have cT:=af bR;clear GR Cj bR;go_wp2_with fail
 refine(ae lK).mono ?_;rintro e w4 ⟨g1,rfl,JO,PN,dO⟩;have yH:=(ae Uc).below dO (ae Uc).lt;have ez:=zTr cT dO;have tI:(putK R0 1 a 2).length=5:=by rw [cQ];exact tl
 have zeT:bj (putK R0 1 a 2):=qW ik 1 a 2;have T7:=af (ue (some ⟨g1,0,none⟩) (putK R0 1 a 2).length (putK R0 1 a 2) 3 2 l w4 (PN.bs zeT (by omega)) (by omega) (by omega) hl.1 (by show ¬ nS ((2:Nat):Int)<l;simp [nS];omega) (by omega));rw [tI] at T7;obtain⟨d0,d1,d2,d3⟩:=yH.cells;have HR:=af hR;have ic:=af (qW zeT 3 l 2);have HL:=af (cQ (putK R0 1 a 2) 3 l 2);clear PN yH dO lK Uc cT c0 c1 c2 c3 hR ik zeT;generalize putK R0 1 a 2=R1 at *;go_wp2_with fail
 refine(ae T7).mono ?_;rintro e w5 ⟨g2,rfl,qg,XD,gJ⟩;have HK5:=af XD;have lj:=zTr ez gJ;clear XD gJ T7 ez d0 d1 d2 d3;go_wp2;go_ret2;have h5:(putK R1 3 l 2).length=5:=(ae HL).trans tI;have aX:=(ae HK5).bs (ae ic) (by omega);rw [h5,ae HR] at aX;exact⟨g2,rfl,aX,ae lj⟩
def Dq(w:World)(n:Nat):World:=w.alloc (.cells ((ag n).map (Value.int .u8)).toArray 5)
theorem y8(w:World)(n:Nat):fH (Dq w n) w.heap.size (ag n):=heap_alloc_new w _
theorem rJ(w:World)(n:Nat):Below w.heap.size w (Dq w n):=zBr.alloc zNr _
theorem mR(w:World)(n:Nat)(hn:n<=1000000):Sem.run Tryz.prog (Instr.makeSlice 30 (.int .i64 n) (.int .i64 n)) w=.ok (.slice (some ⟨w.heap.size,0,none⟩) n n) (Dq w n):=by obtain⟨i0,hi,cY,dw,dz⟩:=info_parts dQ;have bw:=run_make (P:=Tryz.prog) w 30 5 i0 _ zu30 hi cY .i64 .i64 n n (by omega) (by omega) (by rw [dz];omega) (by omega);rw [bw,dw,Nat.mul_one,zTn];unfold Dq;rw [<- Ao,Array.toArray_toList]
theorem YD(a:Option Addr)(cap:Nat)(l:List Int)(h:Int)(w:World)(hb:Bs w a cap l) :
  Calls Tryz.prog 82 #[.slice a l.length cap,.int .i64 h] w (Ends w (cN l h) (aR (aP l h))):=by
 have HC:=af (r8 a cap l h w hb);have h3:=hb.2.2.1;unfold cN;by_cases hc:aP l h=0
 ·obtain⟨tl,XF,ht⟩:=aJ.1 hc;rw [if_pos hc,hc,aA];rw [hc,aA] at HC;have kU:=bF.1 tl;have wK:=aF.1 XF;have hp:=cH wK.1 wK.2;have tj:=aj 5;have aO:ag 5≠[]:=by intro e;rw [e] at tj;simp at tj
  have hd:Below w.heap.size w (Dq w.drew 5):=(show Below w.heap.size w w.drew from⟨rfl,rfl,rfl,zNr,fun _ _=>rfl⟩).trans (rJ w.drew 5);have HW:Hid (Calls Tryz.prog 140 #[.slice a l.length cap,.int .i64 (cJ h),.slice (some ⟨w.heap.size,0,none⟩) 5 5] (Dq w.drew 5) fun e w'=>∃ a' c',e=.returned (.slice a' l.length c')/\Bs w' a' c' (splice l (cJ h) (ag 5))/\Below w.heap.size w w'):=af (by have:=zo a cap l (cJ h) (some ⟨w.heap.size,0,none⟩) (ag 5).length (ag 5) (Dq w.drew 5) (hb.below hd) ((y8 w.drew 5).bs (bW 5) (by decide)) aO (by omega);rw [tj] at this;exact this.mono fun e w' ⟨a',c',he,aX,ao⟩=>⟨a',c',he,aX,hd.trans (ao.mono hd.size)⟩);have HE:=af (fun w'=>ia h w' wK.1 wK.2);have qc:=af (length_splice (z:=l) (l:=ag 5) (off:=cJ h) (by omega));have Nb:∀ w',Sem.run Tryz.prog (Instr.makeSlice 30 (.int .i64 5) (.int .i64 5)) w'=.ok (.slice (some ⟨w'.heap.size,0,none⟩) 5 5) (Dq w' 5):=fun w'=>mR w' 5 (by decide)
  clear hc ht tl XF hb hd;go_enter Tryz.func82,Tryz.ntmps82
  go_wp2_with fail
  refine(ae HC).mono ?_;rintro e w1 ⟨rfl,rfl⟩;go_wp2_with fail
  go_region_with (first | (go_at_call 126;refine(ae HE _).mono ?_;rintro e w2 ⟨rfl,rfl⟩) | (go_at_call 140;refine(ae HW).mono ?_;rintro e w3 ⟨a3,c3,rfl,j7,bR⟩))
  all_goals
   go_wp2;go_ret2;exact⟨a3,c3,by rw [ae qc];rfl,j7,bR⟩
 ·rw [if_neg hc];rw [aC _ hc] at HC ⊢;generalize aP l h=c at *;clear hb hc;go_enter Tryz.func82,Tryz.ntmps82
  go_wp2_with fail
  refine(ae HC).mono ?_;rintro e w1 ⟨rfl,rfl⟩;go_wp2;go_ret2;exact jC rfl rfl
def xK(r:(ByteArray×Int)):Value:=.agg #[.string r.1,.int .i64 r.2]
def GX(w:World)(g:Nat)(r:(ByteArray×Int)):Prop:=w.heap[g]?=some (.cells #[.string r.1,.int .i64 r.2] 152 (0,0))
section
variable {w:World} {g:Nat} {r:(ByteArray×Int)}
theorem GX.lt(h:GX w g r):g<w.heap.size:=(zAg h).1
theorem GX.cells(h:GX w g r):w.cell? ⟨g,0,none⟩=some (.string r.1)/\w.cell? ⟨g,1,none⟩=some (.int .i64 r.2):=by simp only [cell_of_row _ _ _ _ _ _ h];exact⟨rfl,rfl⟩
theorem GX.below{w':World}{B:Nat}(h:GX w g r)(hb:Below B w w')(hg:g<B):GX w' g r:=(hb.block g hg).trans h
end
theorem GX.new(w:World)(r:(ByteArray×Int)):GX (w.alloc (.cells #[.string r.1,.int .i64 r.2] 152)) w.heap.size r:=heap_alloc_new w _
theorem Vk(s:ByteArray)(h:Int)(hn:gA s)(h1:1<=h)(h2:h<=40):(splice (ag 11) 0 (bf s)).set 10 h=fX (s,h):=by
 have hl:=bD s hn.2.1;have aO:¬ gv (s,h)=true:=by rw [eX];rintro ⟨_,h0⟩;dsimp only at h0;omega
 unfold fX;rw [if_neg aO];have hm:h % 256=h:=by omega
 have e:splice (ag 11) 0 (bf s)=bf s++[0,0,0]:=by unfold splice;rw [List.take_zero,List.nil_append,Nat.zero_add,hl];rfl
 rw [e,List.set_append_right _ _ (by omega),hl];dsimp only;rw [hm];rfl
theorem Fv(s:ByteArray)(h:Int)(w:World)(h0:s.size=0)(hh:h=0) :
  Calls Tryz.prog 172 #[.agg #[.string s,.int .i64 h]] w (Ends w (ag 11) .nilIface):=by
 subst hh;obtain⟨i0,hi,cY,dw,dz⟩:=info_parts dQ;have he:s.toList.isEmpty=true:=Ep s h0;have qd:=af (GX.new w (s,0));go_enter Tryz.func172,Tryz.ntmps172
 go_wp2_with (at_make;refine bE rfl _ _ 30 rfl i0 zu30 hi cY dw dz _ _ _ _ 11 rfl rfl rfl rfl (by omega) ?_;intro w2 gO gM aK;rw [aH] at gO gM;have fc:=(ae qd).below aK (by simp);obtain⟨c0,c1⟩:=fc.cells;have br:=af (((Below.refl _ w).alloc zNr _).trans (aK.mono (by simp)));have xy:=af gO;clear gO aK fc)
 go_ret2;have hlen:=aj 11;exact⟨_,11,by rw [hlen];rfl,(ae xy).bs (bW 11) (by decide),ae br⟩
theorem B4(s:ByteArray)(h:Int)(w:World)(h0:¬ (s.size=0/\h=0))(hh:dC h=false) :
  Calls Tryz.prog 172 #[.agg #[.string s,.int .i64 h]] w (Ends w [] (aR 1)):=by
 rw [aC 1 (by decide)];obtain⟨i0,hi,cY,dw,dz⟩:=info_parts dQ;have qd:=af (GX.new w (s,h));have HH:=af (fun W=>fj h W);rw [hh] at HH;clear hh;by_cases hs:s.size=0
 ·have he:s.toList.isEmpty=true:=Ep s hs;have h1:¬ h=0:=fun e=>h0 ⟨hs,e⟩
  clear h0;go_enter Tryz.func172,Tryz.ntmps172
  go_wp2_with (first | (at_make;refine bE rfl _ _ 30 rfl i0 zu30 hi cY dw dz _ _ _ _ 11 rfl rfl rfl rfl (by omega) ?_;intro w2 gO gM aK;rw [aH] at gO gM;have fc:=(ae qd).below aK (by simp);obtain⟨c0,c1⟩:=fc.cells;have br:=af (((Below.refl _ w).alloc zNr _).trans (aK.mono (by simp)));clear gO aK fc) | (go_at_call 183;refine(ae HH _).mono ?_;rintro e w3 ⟨rfl,nE⟩;subst nE))
  go_ret2;exact⟨none,0,rfl,eC _,ae br⟩
 ·have he:s.toList.isEmpty=false:=Kb s (by omega);clear h0;go_enter Tryz.func172,Tryz.ntmps172
  go_wp2_with (first | (at_make;refine bE rfl _ _ 30 rfl i0 zu30 hi cY dw dz _ _ _ _ 11 rfl rfl rfl rfl (by omega) ?_;intro w2 gO gM aK;rw [aH] at gO gM;have fc:=(ae qd).below aK (by simp);obtain⟨c0,c1⟩:=fc.cells;have br:=af (((Below.refl _ w).alloc zNr _).trans (aK.mono (by simp)));clear gO aK fc) | (go_at_call 183;refine(ae HH _).mono ?_;rintro e w3 ⟨rfl,nE⟩;subst nE))
  go_ret2;exact⟨none,0,rfl,eC _,ae br⟩
theorem It(s:ByteArray)(h:Int)(w:World)(hs:s.size<=140737488351232)(hh:dC h=true)(hn:¬ gA s) :
  Calls Tryz.prog 172 #[.agg #[.string s,.int .i64 h]] w (Ends w [] (aR 2)):=by
 rw [aC 2 (by decide)];obtain⟨i0,hi,cY,dw,dz⟩:=info_parts dQ;have qd:=af (GX.new w (s,h));have HH:=af (fun W=>fj h W);have wK:=aF.1 hh;have h1:¬ h=0:=by omega
 have HP:=af (fun W=>lC s W hs hn);rw [hh] at HH;clear hh hn;have JR:s.toList.isEmpty=true\/s.toList.isEmpty=false:=by cases s.toList.isEmpty <;> simp
 rcases JR with he | he
 all_goals
  go_enter Tryz.func172,Tryz.ntmps172
  go_wp2_with (first | (at_make;refine bE rfl _ _ 30 rfl i0 zu30 hi cY dw dz _ _ _ _ 11 rfl rfl rfl rfl (by omega) ?_;intro w2 gO gM aK;rw [aH] at gO gM;have fc:=(ae qd).below aK (by simp);obtain⟨c0,c1⟩:=fc.cells;have br:=af (((Below.refl _ w).alloc zNr _).trans (aK.mono (by simp)));clear gO aK fc) | (go_at_call 183;refine(ae HH _).mono ?_;rintro e w3 ⟨rfl,nE⟩;subst nE) | (go_at_call 85;refine(ae HP _).mono ?_;rintro e w4 ⟨rfl,dO⟩;have ez:=zTr br dO;clear dO))
  go_ret2;exact⟨none,0,rfl,eC _,ae ez⟩
theorem Is(s:ByteArray)(h:Int)(w:World)(hh:dC h=true)(hn:gA s) :
  Calls Tryz.prog 172 #[.agg #[.string s,.int .i64 h]] w (Ends w (fX (s,h)) .nilIface):=by
 obtain⟨i0,hi,cY,dw,dz⟩:=info_parts dQ;have qd:=af (GX.new w (s,h));have HH:=af (fun W=>fj h W);have wK:=aF.1 hh;have h1:¬ h=0:=by omega
 have he:s.toList.isEmpty=false:=Kb s hn.1;have HP:=af (fun W=>qA s W hn.1 hn.2.1 hn.2.2);have wH:=bD s hn.2.1;have hnb:=jc s;have HR:=af (Vk s h hn wK.1 wK.2);rw [hh] at HH;clear hh hn;generalize bf s=N at *;go_enter Tryz.func172,Tryz.ntmps172
 go_wp2_with (first | (at_make;refine bE rfl _ _ 30 rfl i0 zu30 hi cY dw dz _ _ _ _ 11 rfl rfl rfl rfl (by omega) ?_;intro w2 gO gM aK;rw [aH] at gO gM;have fc:=(ae qd).below aK (by simp);obtain⟨c0,c1⟩:=fc.cells;have br:=af (((Below.refl _ w).alloc zNr _).trans (aK.mono (by simp)));have xy:=af gO;have tA:=af fc;clear gO aK fc) | (go_at_call 183;refine(ae HH _).mono ?_;rintro e w3 ⟨rfl,nE⟩;subst nE))
 refine(ae HP _).mono ?_;rintro e w4 ⟨g,rfl,hg,PN,dO⟩;have zeE:=(ae xy).below dO;have yH:=(ae tA).below dO (ae tA).lt;have ez:=zTr br dO;have oy:=PN.bs hnb (by omega);have tj:=aj 11;have nj:Sem.run Tryz.prog (Builtin.copy_ #[30,30] 3 #[.slice (some ⟨w.heap.size+1,0,none⟩) 11 11,.slice (some ⟨g,0,none⟩) 8 8]) w4=.ok (.int .i64 8) (ei w4 (w.heap.size+1) (splice (ag 11) 0 N)):=by have:=mT (P:=Tryz.prog) w4 30 30 3 zu30 aN (w.heap.size+1) 0 11 11 (some ⟨w.heap.size+1,0,none⟩) (some ⟨g,0,none⟩) N.length (ag 11) N (by omega) (fun _=>rfl) (by omega) zeE oy;rw [wH] at this;exact this
 have XD:fH (ei w4 (w.heap.size+1) (splice (ag 11) 0 N)) (w.heap.size+1) (splice (ag 11) 0 N):=ix zeE _;have gJ:Below w.heap.size w (ei w4 (w.heap.size+1) (splice (ag 11) 0 N)):=dW _ (ae ez) (Nat.le_succ _);have zil:GX (ei w4 (w.heap.size+1) (splice (ag 11) 0 N)) w.heap.size (s,h):=(setRow_other w4 _ _ _ (by omega)).trans yH;have tE:(splice (ag 11) 0 N).length=11:=by rw [length_splice (by omega)];exact tj
 obtain⟨d0,d1⟩:=zil.cells;have mH:=XD.cell 10 (by omega);have hfz:=XD.frozen 10;have ic:Hid (bj (fX (s,h))):=af (vi _);have HK5:=af XD;have lj:=af gJ;clear PN zeE yH zil XD gJ dO oy ez br xy tA HP c0 c1 hnb;generalize splice (ag 11) 0 N=X at *;generalize ei w4 (w.heap.size+1) X=w5 at *;generalize X.getD 10 0=x0 at *;go_wp2;go_ret2;have hk6:=(ae HK5).set 10 h;rw [ae HR] at hk6;have uJ:(fX (s,h)).length=11:=by rw [<- ae HR,List.length_set];exact tE
 exact⟨some ⟨w.heap.size+1,0,none⟩,(fX (s,h)).length,by rw [uJ];rfl,hk6.bs (ae ic) (by omega),(ae lj).setCell (by exact Nat.le_succ _) _⟩
theorem Iu(r:(ByteArray×Int))(w:World)(hs:r.1.size<=140737488351232) :
  Calls Tryz.prog 172 #[xK r] w (Ends w (if eF r=0 then fX r else []) (aR (eF r))):=by
 obtain⟨s,h⟩:=r;dsimp only at hs;unfold xK;dsimp only;by_cases h0:gv (s,h)=true
 ·have e:eF (s,h)=0:=by unfold eF;rw [if_pos h0]
  have e2:fX (s,h)=ag 11:=by unfold fX;rw [if_pos h0]
  rw [e,if_pos rfl,e2,aA];have:=eX.1 h0;exact Fv s h w this.1 this.2
 ·have K9:¬ (s.size=0/\h=0):=fun h=>h0 (eX.2 h)
  cases hh:dC h with
  | false =>
   have e:eF (s,h)=1:=by unfold eF;rw [if_neg h0,if_pos hh]
   rw [e,if_neg (by decide)];exact B4 s h w K9 hh
  | true =>
   by_cases hn:du s=true
   ·have e:eF (s,h)=0:=by unfold eF;rw [if_neg h0,if_neg (by dsimp only;rw [hh];simp),if_pos hn]
    rw [e,if_pos rfl,aA];exact Is s h w hh (bZ.1 hn)
   ·have e:eF (s,h)=2:=by unfold eF;rw [if_neg h0,if_neg (by dsimp only;rw [hh];simp),if_neg hn]
    rw [e,if_neg (by decide)];exact It s h w hs hh (fun h=>hn (bZ.2 h))
section
variable {α:Type} {enc:α->List Value} {k T:Nat}
def bT(enc:α->List Value)(k T:Nat)(w:World)(B:Nat)(v:Value)(l:List α):Prop:=w.ownsRow B T k v l.length (l.flatMap enc)
def fG(enc:α->List Value)(k:Nat)(w:World)(a:Option Addr)(cap:Nat)(l:List α):Prop :=l.length<=cap/\(a=none->cap=0)/\l.length<=8796093021952/\(l≠[]->∃ b off,a=some ⟨b,off,none⟩/\∀ i x,l[i]?=some x->∀ j u,(enc x)[j]?=some u->w.cell? ⟨b,off+i * k+j,none⟩=some u)
theorem J7(hk:∀ x,(enc x).length=k)(l:List α):(l.flatMap enc).length=l.length * k:=by
 induction l with
 | nil=>simp
 | cons e r ih=>rw [List.flatMap_cons,zLa,ih,zLc,hk,Nat.succ_mul];omega
theorem PY(hk:∀ x,(enc x).length=k):∀ (l:List α) (i:Nat) (x:α),l[i]?=some x->∀ j u,(enc x)[j]?=some u->(l.flatMap enc)[i * k+j]?=some u
 | [],i,x,h=>by simp at h
 | e :: r,0,x,h=>by
  obtain rfl:e=x:=by simpa using h
  intro j u hj;have aM:j<(enc e).length:=(zLs hj).1;rw [List.flatMap_cons,Nat.zero_mul,Nat.zero_add,List.getElem?_append_left aM];exact hj
 | e :: r,i+1,x,h=>by intro j u hj;have:=PY hk r i x (by simpa using h) j u hj;rw [List.flatMap_cons,List.getElem?_append_right (by rw [hk,Nat.succ_mul];omega),hk,Nat.succ_mul,show i * k+k+j-k=i * k+j by omega];exact this
theorem bT.nil(w:World)(B:Nat):bT enc k T w B (.slice none 0 0) []:=⟨by simp,.inl ⟨rfl,rfl⟩⟩
theorem bT.kk(hk:∀ x,(enc x).length=k){w:World}{B:Nat}{v:Value}{l:List α}(h:bT enc k T w B v l)(hl:l.length<=8796093021952):∃ a c,v=.slice a l.length c/\fG enc k w a c l:=by
 rcases h.2 with ⟨rfl,h0⟩ | ⟨g,cap,cur,rfl,hB,hc,h3,h4,h5,h6⟩
 ·have:l=[]:=List.eq_nil_of_length_eq_zero h0;subst this;exact⟨none,0,rfl,zNr,fun _=>rfl,by simp,fun h=>absurd rfl h⟩
 ·refine⟨some ⟨g,0,none⟩,cap,rfl,h3,fun e=>(by cases e),hl,fun _=>⟨g,0,rfl,fun i x hx j u hj=>?_⟩⟩;have q:=PY hk l i x hx j u hj;have aM:=(zLs q).1;rw [J7 hk] at aM;rw [<- h6,List.getElem?_take,if_pos aM] at q;rw [cell_of_row _ _ _ _ _ _ hc,Nat.zero_add];simpa using q
theorem bT.below{w w':World}{B:Nat}{v:Value}{l:List α}(h:bT enc k T w B v l)(hb:Below w.heap.size w w'):bT enc k T w' B v l:=by
 refine⟨h.1,?_⟩;rcases h.2 with h0 | ⟨g,cap,cur,rfl,hB,hc,h3⟩
 ·exact .inl h0
 ·exact .inr ⟨g,cap,cur,rfl,hB,(hb.block g (zAg hc).1).trans hc,h3⟩
theorem bT.shape{w:World}{B:Nat}{v:Value}{l:List α}(h:bT enc k T w B v l):∃ a m c,v=.slice a m c:=by
 rcases h.2 with ⟨rfl,_⟩ | ⟨g,cap,cur,rfl,_⟩
 ·exact⟨_,_,_,rfl⟩
 ·exact⟨_,_,_,rfl⟩
theorem bT.block{w:World}{B:Nat}{v:Value}{l:List α}(h:bT enc k T w B v l):∀ g,v.ownBlock=some g->B<=g:=by
 intro g hg;rcases h.2 with ⟨rfl,_⟩ | ⟨g',cap,cur,rfl,hB,_⟩
 ·cases hg
 ·simp [Value.ownBlock] at hg;omega
theorem fG.below{w w':World}{a:Option Addr}{cap:Nat}{l:List α}(h:fG enc k w a cap l)(hb:Below w.heap.size w w'):fG enc k w' a cap l:=by obtain⟨h1,h2,h3,h4⟩:=h;refine⟨h1,h2,h3,fun aO=>?_⟩;obtain⟨b,off,rfl,hc⟩:=h4 aO;refine⟨b,off,rfl,fun i x hx j u hj=>?_⟩;have q:=hc i x hx j u hj;exact(hb.cell (block_lt_of_cell q)).trans q
theorem bM{P:Program}{w:World}{ops:Array Oper}{rest:List Oper}{o:Oper}{a:Act}{Q:Exit->Act->World->Prop}(pZ:o.guard=none)(s x:Operand)(t:TypeId)
  (ho:o.op=.call { callee:=.builtin .append,args:=#[s,x],argTypes:=#[t,t]}) (B:Nat) (i0:TypeInfo) (z:Value) (bytes:Nat)
  (ht:P.underlying t=some (.slice T)) (hi:P.info? T=some i0) (hz:i0.zero=some z) (xW:i0.size=k) (ik:i0.bytes=bytes) (W7:z.cells.size=k) (cL:0<k) (Cn:bytes<=100)
  (v:Value) (l:List α) (hs:a.eval s=v) (az:bT enc k T w B v l) (g:Nat) (y:α) (hx:a.eval x=.slice (some ⟨g,0,none⟩) 1 1)
  (hy:w.heap[g]?=some (.cells (enc y).toArray T (0,0))) (hk:(enc y).length=k) (h1:∀ u∈enc y,u.oneCell'=true) (hn:l.length<=1000) (hB:B<=w.heap.size)
  (h:∀ v' w',bT enc k T w' B v' (l++[y])->Below B w w'->wpList P ops Q rest (a.put o.dst v') w') :
  wpList P ops Q (o :: rest) a w:=by
 refine wpList_append_own w pZ s x t ho B T i0 z k bytes ht hi hz xW ik W7 cL v l.length (l.flatMap enc) hs az ⟨g,0,none⟩ 1 1 (enc y) hx (by rw [hk,Nat.one_mul]) (fun j u hj=>?_) h1 (by unfold maxLen;omega) (Nat.le_trans (Nat.mul_le_mul (show l.length+1<=1001 by omega) Cn) (by decide)) hB ?_
 ·rw [addr_add,Nat.zero_add,cell_of_row _ _ _ _ _ _ hy];simpa using hj
 ·intro v' w' xX ow _;refine h v' w' ?_ (zBr.grown ow hB (fun k hk=>az.block k hk));unfold bT;rw [zLa,List.flatMap_append];simpa using xX
end
def tM(e:(Int×Int×Int×Int)):List Value:=[.int .i64 e.1,.int .i64 e.2.1,.int .i64 e.2.2.1,.int .i64 e.2.2.2]
theorem iI(e:(Int×Int×Int×Int)):(tM e).length=4:=rfl
theorem zb4(e:(Int×Int×Int×Int)):∀ u∈tM e,u.oneCell'=true:=by
 intro u hu;unfold tM at hu;rcases zMc hu with rfl | hu
 ·rfl
 rcases zMc hu with rfl | hu
 ·rfl
 rcases zMc hu with rfl | hu
 ·rfl
 rw [zMs hu];rfl
theorem WW:(Tryz.prog.info? 125).map (fun i=>(i.zero,i.size,i.bytes))=some (some (.agg #[.int .i64 0,.int .i64 0,.int .i64 0,.int .i64 0]),4,32):=by kernel_rfl
theorem fG.jB{w:World}{b off cap:Nat}{l:List (Int×Int×Int×Int)}(hc:∀ i x,l[i]?=some x->∀ j u,(tM x)[j]?=some u->w.cell? ⟨b,off+i * 4+j,none⟩=some u){i:Nat}{e:(Int×Int×Int×Int)}(h:l[i]?=some e) :
  w.cell? ⟨b,off+i * 4,none⟩=some (.int .i64 e.1)/\w.cell? ⟨b,off+i * 4+1,none⟩=some (.int .i64 e.2.1)/\w.cell? ⟨b,off+i * 4+2,none⟩=some (.int .i64 e.2.2.1)/\w.cell? ⟨b,off+i * 4+3,none⟩=some (.int .i64 e.2.2.2) :=
 ⟨hc i e h 0 _ rfl,hc i e h 1 _ rfl,hc i e h 2 _ rfl,hc i e h 3 _ rfl⟩
def yC(r:(ByteArray×Int)):List Value:=[.string r.1,.int .i64 r.2]
theorem mX(r:(ByteArray×Int)):(yC r).length=2:=rfl
theorem O4(r:(ByteArray×Int)):∀ u∈yC r,u.oneCell'=true:=by
 intro u hu;unfold yC at hu;rcases zMc hu with rfl | hu
 ·rfl
 rw [zMs hu];rfl
theorem DM:(Tryz.prog.info? 152).map (fun i=>(i.zero,i.size,i.bytes))=some (some (.agg #[.string ByteArray.empty,.int .i64 0]),2,24):=by kernel_rfl
theorem fG.root{w:World}{b off cap:Nat}{l:List (ByteArray×Int)}(hc:∀ i x,l[i]?=some x->∀ j u,(yC x)[j]?=some u->w.cell? ⟨b,off+i * 2+j,none⟩=some u){i:Nat}{e:(ByteArray×Int)}(h:l[i]?=some e) :
  w.cell? ⟨b,off+i * 2,none⟩=some (.string e.1)/\w.cell? ⟨b,off+i * 2+1,none⟩=some (.int .i64 e.2) :=
 ⟨hc i e h 0 _ rfl,hc i e h 1 _ rfl⟩
section
open Go.ChangeShapes
open Go.WideShapes
open Go.Deep
section
variable {H:Type} {enc:TypeId×Value->H} {W:World} {sp:Nat->Bool} {hd:Bool}
theorem ju{fuel:Nat}{c:Value}{x:DataW H×List MemPlace}(h:DataW.trod enc Tryz.prog W 0 sp hd fuel 3 [c]=some x):∃ z,c=.int .i64 z/\(-9223372036854775808<=z/\z<=9223372036854775807):=by obtain⟨z,h4,_,h5⟩:=DataW.trod_int zu3 h;exact⟨z,by simpa using h4,bounds_i64 h5⟩
theorem qn{P:Program}{t:TypeId}:∀ {l:List (DataW H)} {d:DataW H},d∈l->∀ n∈d.weights P t,n∈DataW.weightsAll P t l
 | [],d,h,n,_=>by cases h
 | e :: l,d,h,n,hn=>by
  unfold DataW.weightsAll;rcases zMc h with rfl | h
  ·exact List.mem_append.2 (.inl hn)
  ·exact List.mem_append.2 (.inr (qn h n hn))
end
theorem LM{α:Type}{ec:α->List Value}{k bytes:Nat}{t e:TypeId}{good:α->Prop}{H:Type}{enc:TypeId×Value->H}{W:World}{fuel:Nat}{a:Option Addr}{len cap:Nat}{d:DataW H}{p:List MemPlace}(y0:α)
  (hu:Tryz.prog.underlying t=some (.slice e)) (hk:Tryz.prog.cellsOf e=k) (hb:Tryz.prog.bytesOf e=bytes) (S5:16<=bytes) (hlen:∀ x,(ec x).length=k)
  (jx:∀ (n:Nat) (cs:List Value) (d:DataW H) (q:List MemPlace),DataW.trod enc Tryz.prog W 0 (fun _=>true) true n e cs=some (d,q)->(∀ n∈d.weights Tryz.prog e,n<=reachBytes)->∃ x,cs=ec x/\good x)
  (hf:DataW.trod enc Tryz.prog W 0 (fun _=>true) true fuel t [.slice a len cap]=some (d,p)) (hw:∀ n∈d.weights Tryz.prog t,n<=reachBytes) (h0:0<k):∃ l,(fG ec k W a cap l/\∀ x∈l,good x)/\l.length=len:=by
 rcases open_slice hu hf with ⟨jS,_⟩ | ⟨x,l,c,m,n,D,Pl,jS,_,hl,hm,D1,hx,bk⟩
 ·simp at jS;obtain⟨rfl,rfl,rfl⟩:=jS;exact⟨[],⟨⟨zNr,fun _=>rfl,by simp,fun h=>absurd rfl h⟩,fun x hx=>by cases hx⟩,rfl⟩
 ·simp at jS;obtain⟨rfl,rfl,rfl⟩:=jS;simp only [if_true] at D1;subst D1;simp only [Prod.mk.injEq] at hx;have hd:d.weights Tryz.prog t=(len+(m-len)) * bytes :: (DataW.weightsAll Tryz.prog e ((List.range len).map D)++DataW.weightsAll Tryz.prog e ((List.range (m-len)).map fun j=>D (len+j))):=by rw [hx.1];simp [DataW.weights,hu,hb]
  rw [hd] at hw;have hs:=hw _ (List.mem_cons_self ..);simp only [reachBytes] at hs;have gM:(len+(m-len)) * 16<=(len+(m-len)) * bytes:=Nat.mul_le_mul zNr S5;have bB:∀ i,∃ q:α,i<len->good q/\∀ j u,(ec q)[j]?=some u->W.cell? ((x.add (i * k)).add j)=some u:=by
   intro i;by_cases hi:i<len
   ·obtain⟨cs',h1,h2⟩:=bk i (by omega);obtain⟨q,rfl,hgq⟩:=jx _ _ _ _ h2 (fun n hn=>hw n (List.mem_cons.2 (.inr (List.mem_append.2 (.inl (qn (List.mem_map.2 ⟨i,List.mem_range.2 hi,rfl⟩) n hn))))));rw [hk] at h1;obtain⟨_,XB,hc'⟩:=World.cells?_some h1;refine⟨q,fun _=>⟨hgq,fun j u hj=>?_⟩⟩;have mG:=(zLs hj).1;have:=hc' j (by omega);rw [this]
    first | exact hj | (simp [hj])
   ·exact⟨y0,fun h=>absurd h hi⟩
  have Ni:∀ i y,((List.range len).map fun i=>Classical.choose (bB i))[i]?=some y->i<len/\y=Classical.choose (bB i):=fun i y hy=>by
   have hi:i<len:=by have:=(zLs hy).1;simpa using this
   exact⟨hi,by simpa [hi] using hy.symm⟩
  refine⟨(List.range len).map fun i=>Classical.choose (bB i),⟨⟨by simp;omega,fun h=>(by cases h),by simp;omega,fun aO=>?_⟩,fun y hy=>?_⟩,by simp⟩
  ·have jf:0<len:=by
    rcases Nat.eq_zero_or_pos len with h | h
    ·have h0:List.range len=[]:=by rw [h];rfl
     exact absurd (by rw [h0];rfl) aO
    ·exact h
   obtain⟨b,off,spot⟩:=x;have Xk:spot=none:=by have h9:=(Classical.choose_spec (bB 0) jf).2 0 ((ec (Classical.choose (bB 0)))[0]'(by rw [hlen];exact h0)) (zLg _);simpa [Addr.add] using World.cell?_spot h9
   subst Xk;refine⟨b,off,rfl,fun i y hy j u hj=>?_⟩;obtain⟨hi,rfl⟩:=Ni i y hy;have:=(Classical.choose_spec (bB i) hi).2 j u hj;simpa only [addr_add,<- Nat.add_assoc] using this
  ·obtain⟨i,hi,rfl⟩:=List.mem_map.1 hy;exact(Classical.choose_spec (bB i) (List.mem_range.1 hi)).1
abbrev GY:=Int×Int×Int×Int×ByteArray×(Option Addr×Nat×List Int)
def opC(r:GY):List Value:=[.int .i64 r.1,.int .i64 r.2.1,.int .i64 r.2.2.1,.int .i64 r.2.2.2.1,.string r.2.2.2.2.1,.slice r.2.2.2.2.2.1 r.2.2.2.2.2.2.2.length r.2.2.2.2.2.2.1]
theorem zaZ(r:GY):(opC r).length=6:=rfl
def InZ(z:Int):Prop:=-9223372036854775808<=z/\z<=9223372036854775807
def KK(W:World)(r:GY):Prop:=InZ r.1/\InZ r.2.1/\InZ r.2.2.1/\InZ r.2.2.2.1/\r.2.2.2.2.1.size<=140737488351232/\Bs W r.2.2.2.2.2.1 r.2.2.2.2.2.2.1 r.2.2.2.2.2.2.2
theorem zhA{α:Type}{l:List α}(h:l.length=6):∃ a b c d e f,l=[a,b,c,d,e,f]:=by
 match l,h with
 | [a,b,c,d,e,f],_=>exact⟨a,b,c,d,e,f,rfl⟩
theorem EX{H:Type}{enc:TypeId×Value->H}{P:Program}{w:World}{base:Nat}{spare:Nat->Bool}{held:Bool}{t:TypeId}{f0 f1 f2 f3 f4 f5:Field}{fuel:Nat}{cs:List Value}{x:DataW H×List MemPlace}(ht:P.underlying t=some (.struct #[f0,f1,f2,f3,f4,f5]))(h:DataW.trod enc P w base spare held fuel t cs=some x) :
  ∃ y0 y1 y2 y3 y4 y5 n,x.1=.agg [y0.1,y1.1,y2.1,y3.1,y4.1,y5.1]/\cs.length=P.cellsOf t/\DataW.trod enc P w base spare held n f0.type ((cs.drop f0.offset).take (P.cellsOf f0.type))=some y0 /\
   DataW.trod enc P w base spare held n f1.type ((cs.drop f1.offset).take (P.cellsOf f1.type))=some y1/\DataW.trod enc P w base spare held n f2.type ((cs.drop f2.offset).take (P.cellsOf f2.type))=some y2 /\
   DataW.trod enc P w base spare held n f3.type ((cs.drop f3.offset).take (P.cellsOf f3.type))=some y3/\DataW.trod enc P w base spare held n f4.type ((cs.drop f4.offset).take (P.cellsOf f4.type))=some y4 /\
   DataW.trod enc P w base spare held n f5.type ((cs.drop f5.offset).take (P.cellsOf f5.type))=some y5:=by
 obtain⟨xs,n,_,rfl,hl,hlen,hf⟩:=DataW.trod_struct ht h
 match xs,hlen with
 | [y0,y1,y2,y3,y4,y5],_=>exact⟨y0,y1,y2,y3,y4,y5,n,by simp,hl,by simpa using hf 0 f0 rfl,by simpa using hf 1 f1 rfl,by simpa using hf 2 f2 rfl,by simpa using hf 3 f3 rfl,by simpa using hf 4 f4 rfl,by simpa using hf 5 f5 rfl⟩
theorem zca{H:Type}{enc:TypeId×Value->H}{W:World}{fuel:Nat}{v:Value}{d:DataW H}{p:List MemPlace}
  (hf:DataW.trod enc Tryz.prog W 0 (fun _=>true) true fuel 30 [v]=some (d,p)) (hw:∀ n∈d.weights Tryz.prog 30,n<=reachBytes):∃ a cap l,v=.slice a l.length cap/\Bs W a cap l:=by
 rcases open_ints zu30 zu5 (by kernel_rfl) hf with ⟨jS,_⟩ | ⟨x,l,c,zs,jS,_,hl,hm,hz,hx,bk,hwz⟩
 ·simp at jS;subst jS;exact⟨none,0,[],rfl,fun z hz=>(by cases hz),zNr,by decide,fun _=>rfl,fun h=>absurd rfl h⟩
 ·simp at jS;subst jS;simp only [Prod.mk.injEq] at hx;simp only [if_true] at hz;have hb:Tryz.prog.bytesOf 5=1:=by kernel_rfl
  have hs:=hw ((lits (H:=H) .u8 (zs.take l)).length+(lits (H:=H) .u8 (zs.drop l)).length) (by rw [hx.1];simp [DataW.weights,Tryz.underlying30,hb]);simp only [lits,zLm,zLt,zLd,reachBytes] at hs;obtain⟨h1,h2⟩:=TR hl (by omega) hz bk hwz;exact⟨_,_,_,by rw [h2],h1⟩
theorem VQ{H:Type}{enc:TypeId×Value->H}{W:World}{t:TypeId}{f0 f1 f2 f3 f4 f5:Field}(hu:Tryz.prog.underlying t=some (.struct #[f0,f1,f2,f3,f4,f5]))(hk:Tryz.prog.cellsOf t=6)
  (e0:f0.type=3/\f0.offset=0) (e1:f1.type=3/\f1.offset=1) (e2:f2.type=3/\f2.offset=2) (e3:f3.type=3/\f3.offset=3) (e4:f4.type=9/\f4.offset=4) (e5:f5.type=30/\f5.offset=5)
  {fuel:Nat} {cs:List Value} {d:DataW H} {p:List MemPlace} (h:DataW.trod enc Tryz.prog W 0 (fun _=>true) true fuel t cs=some (d,p)) (hw:∀ n∈d.weights Tryz.prog t,n<=reachBytes):∃ r:GY,cs=opC r/\KK W r:=by
 obtain⟨y0,y1,y2,y3,y4,y5,n,hx,hl,h0,h1,h2,h3,h4,h5⟩:=EX hu h;have hc:Tryz.prog.cellsOf 3=1:=by kernel_rfl
 have dR:Tryz.prog.cellsOf 9=1:=by kernel_rfl
 have nH:Tryz.prog.cellsOf 30=1:=by kernel_rfl
 rw [hk] at hl;obtain⟨c0,c1,c2,c3,c4,c5,rfl⟩:=zhA hl;rw [e0.1,e0.2] at h0;rw [e1.1,e1.2] at h1;rw [e2.1,e2.2] at h2;rw [e3.1,e3.2] at h3;rw [e4.1,e4.2] at h4;rw [e5.1,e5.2] at h5;simp only [hc,dR,nH] at h0 h1 h2 h3 h4 h5;obtain⟨z0,rfl,cY⟩:=ju h0;obtain⟨z1,rfl,dw⟩:=ju h1;obtain⟨z2,rfl,dz⟩:=ju h2;obtain⟨z3,rfl,W8⟩:=ju h3;obtain⟨s,g4,g5,_⟩:=DataW.trod_string zu9 h4;obtain rfl:c4=.string s:=by simpa using g4
 have hxx:d=.agg [y0.1,y1.1,y2.1,y3.1,y4.1,y5.1]:=hx;have hwt:d.weights Tryz.prog t=DataW.weightsEach Tryz.prog [f0.type,f1.type,f2.type,f3.type,f4.type,f5.type] [y0.1,y1.1,y2.1,y3.1,y4.1,y5.1]:=by rw [hxx];simp [DataW.weights,hu]
 rw [e0.1,e1.1,e2.1,e3.1,e4.1,e5.1] at hwt;have hs:=hw s.data.toList.length (by rw [hwt,g5];simp [DataW.weights,DataW.weightsEach]);have hb:∀ k∈y5.1.weights Tryz.prog 30,k<=reachBytes:=fun k hk=>hw k (by rw [hwt];simp [DataW.weightsEach,hk])
 obtain⟨y5a,y5b⟩:=y5;obtain⟨ab,cb,l,hv,aX⟩:=zca h5 hb;obtain rfl:c5=.slice ab l.length cb:=hv;exact⟨(z0,z1,z2,z3,s,ab,cb,l),rfl,cY,dw,dz,W8,by simpa [reachBytes] using hs,aX⟩
def Ops(W:World)(a:Option Addr)(cap:Nat)(l:List GY):Prop:=fG opC 6 W a cap l/\∀ r∈l,KK W r
theorem fG.op{w:World}{b off:Nat}{l:List GY}(hc:∀ i x,l[i]?=some x->∀ j u,(opC x)[j]?=some u->w.cell? ⟨b,off+i * 6+j,none⟩=some u){i:Nat}{r:GY}(h:l[i]?=some r) :
  w.cell? ⟨b,off+i * 6,none⟩=some (.int .i64 r.1)/\w.cell? ⟨b,off+i * 6+1,none⟩=some (.int .i64 r.2.1)/\w.cell? ⟨b,off+i * 6+2,none⟩=some (.int .i64 r.2.2.1)/\w.cell? ⟨b,off+i * 6+3,none⟩=some (.int .i64 r.2.2.2.1) /\
  w.cell? ⟨b,off+i * 6+4,none⟩=some (.string r.2.2.2.2.1)/\w.cell? ⟨b,off+i * 6+5,none⟩=some (.slice r.2.2.2.2.2.1 r.2.2.2.2.2.2.2.length r.2.2.2.2.2.2.1) :=
 ⟨hc i r h 0 _ rfl,hc i r h 1 _ rfl,hc i r h 2 _ rfl,hc i r h 3 _ rfl,hc i r h 4 _ rfl,hc i r h 5 _ rfl⟩
theorem zaX{H:Type}{enc:TypeId×Value->H}{W:World}{t e:TypeId}{f0 f1 f2 f3 f4 f5:Field}(hs:Tryz.prog.underlying t=some (.slice e))(hu:Tryz.prog.underlying e=some (.struct #[f0,f1,f2,f3,f4,f5]))(hk:Tryz.prog.cellsOf e=6)(ik:Tryz.prog.bytesOf e=72)
  (e0:f0.type=3/\f0.offset=0) (e1:f1.type=3/\f1.offset=1) (e2:f2.type=3/\f2.offset=2) (e3:f3.type=3/\f3.offset=3) (e4:f4.type=9/\f4.offset=4) (e5:f5.type=30/\f5.offset=5)
  {fuel:Nat} {a:Option Addr} {len cap:Nat} {d:DataW H} {p:List MemPlace} (hf:DataW.trod enc Tryz.prog W 0 (fun _=>true) true fuel t [.slice a len cap]=some (d,p)) (hw:∀ n∈d.weights Tryz.prog t,n<=reachBytes):∃ l,Ops W a cap l/\l.length=len :=
 LM (0,0,0,0,ByteArray.empty,none,0,[]) hs hk (bytes:=72) ik (by decide) zaZ (fun n cs d q h hw=>VQ hu hk e0 e1 e2 e3 e4 e5 h hw) hf hw (by decide)
theorem VL{H:Type}{enc:TypeId×Value->H}{W:World}{fuel:Nat}{a:Option Addr}{len cap:Nat}{d:DataW H}{p:List MemPlace}
  (hf:DataW.trod enc Tryz.prog W 0 (fun _=>true) true fuel 22 [.slice a len cap]=some (d,p)) (hw:∀ n∈d.weights Tryz.prog 22,n<=reachBytes):∃ l,Ops W a cap l/\l.length=len :=
 zaX Tryz.underlying22 Tryz.underlying32 (by kernel_rfl) (by kernel_rfl) ⟨rfl,rfl⟩ ⟨rfl,rfl⟩ ⟨rfl,rfl⟩ ⟨rfl,rfl⟩ ⟨rfl,rfl⟩ ⟨rfl,rfl⟩ hf hw
end
theorem zfl(len:Nat)(x a l t:Int)(w:World)(hb:len<=140737488351232)(hq:b9 len=false) :
  Calls Tryz.prog 138 #[.int .i64 len,.agg #[.int .i64 x,.int .i64 a,.int .i64 l,.int .i64 t]] w fun e w'=>e=.returned (aR 3)/\Below w.heap.size w w':=by
 rw [aC 3 (by decide)];have HL:=af (fun W=>cK len W);rw [hq] at HL;clear hq;go_enter Tryz.func138,Tryz.ntmps138
 go_wp2_with (go_at_call 61;refine(ae HL _).mono ?_;rintro e w1 ⟨rfl,rfl⟩)
 go_ret;exact⟨rfl,zBr.alloc zNr _⟩
theorem YW(len:Nat)(x a l t:Int)(w:World)(hb:len<=140737488351232)(hq:b9 len=true)(hr:dC x=false\/(dC x=true/\B2 t=false)\/(dC x=true/\B2 t=true/\Ig l=false)) :
  Calls Tryz.prog 138 #[.int .i64 len,.agg #[.int .i64 x,.int .i64 a,.int .i64 l,.int .i64 t]] w fun e w'=>e=.returned (aR 1)/\Below w.heap.size w w':=by
 rw [aC 1 (by decide)];have HL:=af (fun W=>cK len W);have HH:=af (fun W=>fj x W);have HT:=af (fun W=>wE t W);have HS:=af (fun W=>ti l W);rw [hq] at HL;rcases hr with h1 | ⟨h1,h2⟩ | ⟨h1,h2,h3⟩
 ·rw [h1] at HH;clear hq h1;go_enter Tryz.func138,Tryz.ntmps138
  go_wp2_with (first | (go_at_call 61;refine(ae HL _).mono ?_;rintro e w1 ⟨rfl,rfl⟩) | (go_at_call 183;refine(ae HH _).mono ?_;rintro e w1 ⟨rfl,rfl⟩))
  go_ret;exact⟨rfl,zBr.alloc zNr _⟩
 ·rw [h1] at HH;rw [h2] at HT;clear hq h1 h2;go_enter Tryz.func138,Tryz.ntmps138
  go_wp2_with (first | (go_at_call 61;refine(ae HL _).mono ?_;rintro e w1 ⟨rfl,rfl⟩) | (go_at_call 183;refine(ae HH _).mono ?_;rintro e w1 ⟨rfl,rfl⟩) | (go_at_call 197;refine(ae HT _).mono ?_;rintro e w1 ⟨rfl,rfl⟩))
  go_ret;exact⟨rfl,zBr.alloc zNr _⟩
 ·rw [h1] at HH;rw [h2] at HT;rw [h3] at HS;clear hq h1 h2 h3;go_enter Tryz.func138,Tryz.ntmps138
  go_wp2_with (first | (go_at_call 61;refine(ae HL _).mono ?_;rintro e w1 ⟨rfl,rfl⟩) | (go_at_call 183;refine(ae HH _).mono ?_;rintro e w1 ⟨rfl,rfl⟩) | (go_at_call 197;refine(ae HT _).mono ?_;rintro e w1 ⟨rfl,rfl⟩) | (go_at_call 198;refine(ae HS _).mono ?_;rintro e w1 ⟨rfl,rfl⟩))
  go_ret;exact⟨rfl,zBr.alloc zNr _⟩
theorem YV(len:Nat)(x a l t:Int)(w:World)(hb:len<=140737488351232)(hq:b9 len=true)(h1:dC x=true)(h2:B2 t=true)(h3:Ig l=true)(h4:TT len a l=false)(ha:-9223372036854775808<=a/\a<=9223372036854775807) :
  Calls Tryz.prog 138 #[.int .i64 len,.agg #[.int .i64 x,.int .i64 a,.int .i64 l,.int .i64 t]] w fun e w'=>e=.returned (aR 3)/\Below w.heap.size w w':=by
 rw [aC 3 (by decide)];have HL:=af (fun W=>cK len W);have HH:=af (fun W=>fj x W);have HT:=af (fun W=>wE t W);have HS:=af (fun W=>ti l W);have hlen:=bF.1 hq;have HB:=af (uB len a l (w.alloc (.cells #[.int .i64 x,.int .i64 a,.int .i64 l,.int .i64 t] 125)) (by omega) ha);rw [hq] at HL;rw [h1] at HH;rw [h2] at HT;rw [h3] at HS;rw [h4] at HB;clear hq h1 h2 h3 h4 ha;go_enter Tryz.func138,Tryz.ntmps138
 go_wp2_with (first | (go_at_call 61;refine(ae HL _).mono ?_;rintro e w1 ⟨rfl,rfl⟩) | (go_at_call 183;refine(ae HH _).mono ?_;rintro e w1 ⟨rfl,rfl⟩) | (go_at_call 197;refine(ae HT _).mono ?_;rintro e w1 ⟨rfl,rfl⟩) | (go_at_call 198;refine(ae HS _).mono ?_;rintro e w1 ⟨rfl,rfl⟩) | (go_at_call 199;refine(ae HB).mono ?_;rintro e w1 ⟨rfl,ay⟩;have aL:=af ay;clear ay))
 go_ret;exact⟨rfl,((Below.refl _ w).alloc zNr _).trans ((ae aL).mono (by simp))⟩
theorem zfk(len:Nat)(x a l t:Int)(w:World)(hq:b9 len=true)(h1:dC x=true)(h2:B2 t=true)(h3:Ig l=true)(h4:TT len a l=true)(ha:-9223372036854775808<=a/\a<=9223372036854775807) :
  Calls Tryz.prog 138 #[.int .i64 len,.agg #[.int .i64 x,.int .i64 a,.int .i64 l,.int .i64 t]] w fun e w'=>e=.returned (aR 0)/\Below w.heap.size w w':=by
 rw [aA];have HL:=af (fun W=>cK len W);have HH:=af (fun W=>fj x W);have HT:=af (fun W=>wE t W);have HS:=af (fun W=>ti l W);have hlen:=bF.1 hq;have HB:=af (uB len a l (w.alloc (.cells #[.int .i64 x,.int .i64 a,.int .i64 l,.int .i64 t] 125)) (by omega) ha);rw [hq] at HL;rw [h1] at HH;rw [h2] at HT;rw [h3] at HS;rw [h4] at HB;clear hq h1 h2 h3 h4 ha;go_enter Tryz.func138,Tryz.ntmps138
 go_wp2_with (first | (go_at_call 61;refine(ae HL _).mono ?_;rintro e w1 ⟨rfl,rfl⟩) | (go_at_call 183;refine(ae HH _).mono ?_;rintro e w1 ⟨rfl,rfl⟩) | (go_at_call 197;refine(ae HT _).mono ?_;rintro e w1 ⟨rfl,rfl⟩) | (go_at_call 198;refine(ae HS _).mono ?_;rintro e w1 ⟨rfl,rfl⟩) | (go_at_call 199;refine(ae HB).mono ?_;rintro e w1 ⟨rfl,ay⟩;have aL:=af ay;clear ay))
 go_ret;exact⟨rfl,((Below.refl _ w).alloc zNr _).trans ((ae aL).mono (by simp))⟩
theorem rZ(L:List Int)(e:(Int×Int×Int×Int))(w:World)(hl:L.length<=140737488351232)(ha:-9223372036854775808<=e.2.1/\e.2.1<=9223372036854775807) :
  Calls Tryz.prog 138 #[.int .i64 L.length,k8 e] w fun r w'=>r=.returned (aR (di L e))/\Below w.heap.size w w':=by
 obtain⟨x,a,l,t⟩:=e;dsimp only at ha;unfold k8;dsimp only;by_cases h0:di L (x,a,l,t)=0
 ·obtain⟨h1,h2,h3⟩:=bS.1 h0;dsimp only at h2 h3;rw [h0];exact zfk L.length x a l t w h1 h2 (by unfold B2;rw [decide_eq_true h3.1,decide_eq_true h3.2.1];rfl) (by unfold Ig;rw [decide_eq_true h3.2.2.1,decide_eq_true h3.2.2.2.1];rfl) (by unfold TT;rw [decide_eq_true h3.2.2.2.2.1,decide_eq_true (by omega)];rfl) ha
 ·have fin:∀ c,di L (x,a,l,t)=c->(Calls Tryz.prog 138 #[.int .i64 L.length,.agg #[.int .i64 x,.int .i64 a,.int .i64 l,.int .i64 t]] w fun e w'=>e=.returned (aR c)/\Below w.heap.size w w')->Calls Tryz.prog 138 #[.int .i64 L.length,.agg #[.int .i64 x,.int .i64 a,.int .i64 l,.int .i64 t]] w fun e w'=>e=.returned (aR (di L (x,a,l,t)))/\Below w.heap.size w w':=fun c hc h=>by rw [hc];exact h
  by_cases h1:b9 L.length=false
  ·refine fin 3 (by unfold di;rw [if_pos h1]) (zfl L.length x a l t w hl h1)
  have vD:b9 L.length=true:=by simpa using h1
  by_cases h2:dC x=false\/t<0\/15<t\/l<1\/1000<l
  ·refine fin 1 (by unfold di;rw [if_neg h1,if_pos h2]) (YW L.length x a l t w hl vD ?_);cases e1:dC x with
   | false=>exact .inl rfl
   | true =>
    cases e2:B2 t with
    | false=>exact .inr (.inl ⟨rfl,rfl⟩)
    | true =>
     refine .inr (.inr ⟨rfl,rfl,?_⟩);have htt:0<=t/\t<=15:=by unfold B2 at e2;simpa using e2
     have SM:¬ (1<=l/\l<=1000):=by
      rcases h2 with h2 | h2
      ·rw [e1] at h2;cases h2
      ·omega
     unfold Ig;rw [Bool.and_eq_false_iff,decide_eq_false_iff_not,decide_eq_false_iff_not];omega
  have kL:dC x=true:=by
   cases e:dC x with
   | true=>rfl
   | false=>exact absurd (.inl e) h2
  have Us:¬ (t<0\/15<t\/l<1\/1000<l):=fun h=>h2 (.inr h)
  by_cases h4:a<288\/L.length-a<l
  ·refine fin 3 (by unfold di;rw [if_neg h1,if_neg h2,if_pos h4]) (YV L.length x a l t w hl vD kL (by unfold B2;rw [decide_eq_true (show 0<=t by omega),decide_eq_true (show t<=15 by omega)];rfl) (by unfold Ig;rw [decide_eq_true (show 1<=l by omega),decide_eq_true (show l<=1000 by omega)];rfl) ?_ ha);unfold TT;rw [Bool.and_eq_false_iff,decide_eq_false_iff_not,decide_eq_false_iff_not];omega
  ·exact absurd (by unfold di;rw [if_neg h1,if_neg h2,if_neg h4]) h0
def IL(i:Int):Bool:=decide (0<=i) && decide (i<8)
theorem qL(n:Int)(w:World) :
  Calls Tryz.prog 171 #[.int .i64 n] w fun e w'=>e=.returned (.bool (IL n))/\w=w':=by
 unfold IL;by_cases h1:0<=n
 ·rw [decide_eq_true h1,Bool.true_and];go_enter Tryz.func171,Tryz.ntmps171
  go_wp2;go_ret;exact⟨rfl,rfl⟩
 ·rw [decide_eq_false h1,Bool.false_and];go_enter Tryz.func171,Tryz.ntmps171
  go_wp2;go_ret;exact⟨rfl,rfl⟩
def fN(l:List Int):Int:=if isRoot l=true then (tr (fun j=>l.getD j 0 != 0) l.length:Nat) else -1
theorem yg{l:List Int}{k:Nat}(hk:k<l.length)(h:(l.getD k 0 != 0)=true)(bB:∀ j,j<k->(l.getD j 0 != 0)=false):fN l=k:=by
 have hr:isRoot l=true:=by
  unfold isRoot;refine List.any_eq_true.2 ⟨l.getD k 0,?_,h⟩;have:l.getD k 0=l[k]:=by simp [List.getD,hk]
  rw [this];exact List.getElem_mem hk
 unfold fN;rw [if_pos hr,(cf _ _).unique ⟨by omega,bB,fun _=>h⟩]
theorem yf{l:List Int}(bB:∀ j,j<l.length->(l.getD j 0 != 0)=false):fN l=-1:=by
 have hr:isRoot l=false:=by unfold isRoot;rw [List.any_eq_false];intro x hx;obtain⟨j,hj,rfl⟩:=List.getElem_of_mem hx;have:=bB j hj;rw [show l.getD j 0=l[j] by simp [List.getD,hj]] at this;rw [this];simp
 unfold fN;rw [if_neg (by rw [hr];simp)]
end Go.Proofs.YtcimhnnendlblaaGreat
