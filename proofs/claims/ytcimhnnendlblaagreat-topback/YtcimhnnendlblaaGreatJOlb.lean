/-
  Parts of the proofs.
-/
import Derived.Test.YtcimhnnendlblaaGreatJOl
import Derived.Lib.SlBytesConst
import Derived.ArgAppend
import Derived.Test.YtcimhnnendlblaaGreatJCi
import Derived.Defers
import Derived.Recover
set_option maxRecDepth 100000
set_option maxHeartbeats 16000000
set_option linter.all false
namespace Go.Proofs.YtcimhnnendlblaaGreat
open Go.RowKit
def jy(O:List ((Int×Int×Int×Int)×List Int))(h:Int):Bool:=O.any (fun o=>decide (o.1.1=h))
def yK(R:List (ByteArray×Int))(s:ByteArray):Bool:=R.any (fun r=>r.1 == s)
def sg(r:List Int)(a:Nat)(O:List ((Int×Int×Int×Int)×List Int)):Int :=
 if r.length=0 then 2 else if dC (r.getD 0 0)=false then 1 else if jy O (r.getD 0 0)=true then 7 else if r.length<=1 then 2 else if 15<r.getD 1 0 then 1
 else if r.length<4 then 2 else if bz r 2 2<1\/1000<bz r 2 2 then 1 else if r.length<4+jX r then 2 else if 6400<a+jX r then 4 else 0
def VU(r:List Int)(a:Nat):(Int×Int×Int×Int)×List Int:=((r.getD 0 0,(a:Int),bz r 2 2,r.getD 1 0),(r.drop 4).take (jX r))
def obK:Nat->List Int->Nat->List ((Int×Int×Int×Int)×List Int)->Int×List Int×Nat×List ((Int×Int×Int×Int)×List Int)
 | 0,r,a,O=>(0,r,a,O)
 | n+1,r,a,O=>if sg r a O≠0 then (sg r a O,[],0,[]) else obK n (r.drop (4+jX r)) (a+jX r) (O++[VU r a])
def yB(r:List Int)(O:List ((Int×Int×Int×Int)×List Int))(R:List (ByteArray×Int)):Int :=
 if r.length<8 then 2 else if (aT (r.take 8)).2≠0 then 2 else if yK R (aT (r.take 8)).1=true then 7 else if r.length<9 then 2
 else if dC (r.getD 8 0)=false then 1 else if jy O (r.getD 8 0)=false then 5 else 0
def roK:Nat->List Int->List ((Int×Int×Int×Int)×List Int)->List (ByteArray×Int)->Int×List Int×List (ByteArray×Int)
 | 0,r,O,R=>(0,r,R)
 | n+1,r,O,R=>if yB r O R≠0 then (yB r O R,[],[]) else roK n (r.drop 9) O (R++[((aT (r.take 8)).1,r.getD 8 0)])
def qq(b:List Int):Int×List Int×Nat×List ((Int×Int×Int×Int)×List Int):=obK (b.getD 4 0).toNat (b.drop 5) 288 []
def Lp(x:Int×List Int×Nat×List ((Int×Int×Int×Int)×List Int)):Int×List Int×List (ByteArray×Int):=roK (x.2.1.getD 0 0).toNat (x.2.1.drop 1) x.2.2.2 []
def mN(b:List Int):Int×List ((Int×Int×Int×Int)×List Int)×List (ByteArray×Int) :=
 if Ck b=false then (2,[],[]) else if b.length<5\/40<b.getD 4 0 then (2,[],[])
 else if (qq b).1≠0 then ((qq b).1,[],[])
 else if (qq b).2.1.length=0\/8<(qq b).2.1.getD 0 0 then (2,[],[])
 else if (Lp (qq b)).1≠0 then ((Lp (qq b)).1,[],[])
 else if (Lp (qq b)).2.1≠[] then (2,[],[])
 else (0,(qq b).2.2.2,(Lp (qq b)).2.2)
def ux(out:List Int)(o:(Int×Int×Int×Int)×List Int):List Int:=splice (bP out o.1) o.1.2.1.toNat o.2
def mE(O:List ((Int×Int×Int×Int)×List Int))(out:List Int):List Int:=O.foldl ux out
def pn:List (ByteArray×Int)->Nat->List Int->List Int
 | [],_,out=>out
 | r :: R,i,out=>pn R (i+1) (je out i r)
def zcj(out:List Int)(o:(Int×Int×Int×Int)×List Int):Prop :=di out o.1=0/\out.length=6400/\bj out/\bj o.2/\288<=o.1.2.1/\o.1.2.1+(o.2.length:Int)<=6400/\(o.2.length:Int)=o.1.2.2.1/\1<=o.2.length/\o.2.length<=1000/\1<=o.1.1/\o.1.1<=40/\0<=o.1.2.2.2/\o.1.2.2.2<=15
def Qt(O:List ((Int×Int×Int×Int)×List Int))(out:List Int):Prop:=∀ (i:Nat) (o:(Int×Int×Int×Int)×List Int),O[i]?=some o->zcj (mE (O.take i) out) o
def Zk(R:List (ByteArray×Int))(out:List Int):Prop:=∀ (i:Nat) (r:(ByteArray×Int)),R[i]?=some r->BI (pn (R.take i) 0 out) i r=0/\(pn (R.take i) 0 out).length=6400/\bj (pn (R.take i) 0 out)
theorem DA(O:List ((Int×Int×Int×Int)×List Int))(x:(Int×Int×Int×Int)×List Int)(out:List Int):mE (O++[x]) out=ux (mE O out) x:=by unfold mE;rw [List.foldl_append];rfl
theorem wB:∀ (R:List (ByteArray×Int)) (x:(ByteArray×Int)) (i:Nat) (out:List Int),pn (R++[x]) i out=je (pn R i out) ((i+R.length:Nat):Int) x
 | [],x,i,out=>rfl
 | r :: R,x,i,out=>by
  show pn (R++[x]) (i+1) (je out i r)=_
  rw [wB R x (i+1) (je out i r),zLc,show i+1+R.length=i+(R.length+1) by omega];rfl
theorem l8{α:Type}{l:List α}{i:Nat}{x:α}(h:l[i]?=some x):l.take (i+1)=l.take i++[x]:=by rw [List.take_add_one,h];rfl
theorem Dz{O:List ((Int×Int×Int×Int)×List Int)}{i:Nat}{x:(Int×Int×Int×Int)×List Int}(h:O[i]?=some x)(out:List Int):mE (O.take (i+1)) out=ux (mE (O.take i) out) x:=by rw [l8 h,DA]
theorem Sg{R:List (ByteArray×Int)}{i:Nat}{x:(ByteArray×Int)}(h:R[i]?=some x)(out:List Int):pn (R.take (i+1)) 0 out=je (pn (R.take i) 0 out) i x:=by have hi:=(zLs h).1;rw [l8 h,wB,zLt,Nat.min_eq_left (by omega),Nat.zero_add]
theorem Ta(O:List ((Int×Int×Int×Int)×List Int))(x:(Int×Int×Int×Int)×List Int)(k:Int):jy (O++[x]) k=(jy O k || decide (x.1.1=k)):=by unfold jy;simp
theorem za2(r:List Int)(a:Nat)(out:List Int):ux out (VU r a)=yD r a out:=by unfold ux VU yD;dsimp only;rw [zTn]
structure Zi (O:List ((Int×Int×Int×Int)×List Int)) (out:List Int) (a:Nat):Prop where
 eq:out=mE O (ag 6400)
 ZW:Oo out a
 has:∀ k,1<=k->k<=40->(jy O k=true ↔ aq out k≠0)
 lays:Qt O (ag 6400)
theorem Zi.start:Zi [] (ag 6400) 288:=by refine⟨rfl,Oo.start,fun k k1 k2=>?_,fun i o h=>by simp at h⟩;obtain⟨z1,z2,z3⟩:=dV (n:=6400) (by decide) (by decide);refine⟨fun h=>by simp [jy] at h,fun h=>absurd (z2 k) h⟩
theorem Zi.err{O:List ((Int×Int×Int×Int)×List Int)}{out r:List Int}{a:Nat}(o:Zi O out a):sg r a O=VY r a out:=by
 unfold sg VY;by_cases h1:r.length=0
 ·rw [if_pos h1,if_pos h1]
 rw [if_neg h1,if_neg h1];by_cases h2:dC (r.getD 0 0)=false
 ·rw [if_pos h2,if_pos h2]
 rw [if_neg h2,if_neg h2];have hh:=aF.1 (eq_true_of_ne_false h2);have hi:=o.has _ hh.1 hh.2;by_cases h3:aq out (r.getD 0 0)≠0
 ·rw [if_pos (hi.2 h3),if_pos h3]
 ·rw [if_neg (fun h=>h3 (hi.1 h)),if_neg h3]
theorem Zi.next{O:List ((Int×Int×Int×Int)×List Int)}{out r:List Int}{a:Nat}(o:Zi O out a)(hb:bj r)(h:sg r a O=0):Zi (O++[VU r a]) (yD r a out) (a+jX r):=by
 rw [o.err] at h;obtain⟨o2,h1,h2,h3⟩:=o.ZW.next hb h;obtain⟨q1,q2,q3,q4,q5,q6,q7,q8,q9⟩:=uj hb h;have hh:=aF.1 q2;have BP:=o.ZW.lo;refine⟨by rw [DA,<- o.eq,za2],o2,fun k k1 k2=>?_,fun i x hx=>?_⟩
 ·rw [Ta];have e:(VU r a).1.1=r.getD 0 0:=rfl;rw [e];by_cases hk:r.getD 0 0=k
  ·subst hk;exact⟨fun _=>h3,fun _=>by rw [decide_eq_true rfl,Bool.or_true]⟩
  ·have:=o.has k k1 k2;rw [(h2 k k1 k2 (fun h=>hk h.symm)).2];simp only [hk,decide_false,Bool.or_false];exact this
 ·by_cases hi:i<O.length
  ·rw [List.getElem?_append_left hi] at hx;rw [List.take_append_of_le_length (by omega)];exact o.lays i x hx
  ·have Z8:i=O.length:=by have:=(zLs hx).1;rw [zLa,List.length_singleton] at this;omega
   subst Z8;rw [List.getElem?_append_right zNr,Nat.sub_self] at hx;have k7:VU r a=x:=by simpa using hx
   subst k7;rw [List.take_append_of_le_length zNr,List.take_of_length_le zNr,<- o.eq];have iq:((r.drop 4).take (jX r)).length=jX r:=by rw [zLt,zLd];omega
   have hlen:=o.ZW.len;unfold zcj VU;dsimp only;rw [iq,q8];refine⟨bS.2 ⟨o.ZW.aV.cW,q2,q4,q5,by dsimp only;omega,by dsimp only;omega,by dsimp only;omega,by dsimp only;omega⟩,hlen,o.ZW.kV,fun z hz=>hb z (List.mem_of_mem_drop (List.mem_of_mem_take hz)),by omega,by omega,rfl,q6,q7,hh.1,hh.2,q4,q5⟩
theorem VX:∀ (n:Nat) {r:List Int} {a:Nat} {O:List ((Int×Int×Int×Int)×List Int)} {out:List Int},Zi O out a->bj r ->(obK n r a O).1=(obR n r a out).1/\(obK n r a O).2.1=(obR n r a out).2.1/\((obK n r a O).1=0->Zi (obK n r a O).2.2.2 (obR n r a out).2.2.2 (obK n r a O).2.2.1/\(obK n r a O).2.2.2.length=O.length+n/\bj (obK n r a O).2.1)
 | 0,r,a,O,out,o,hb=>⟨rfl,rfl,fun _=>⟨o,rfl,hb⟩⟩
 | n+1,r,a,O,out,o,hb=>by
  have he:=o.err (r:=r);unfold obK obR;by_cases h0:sg r a O=0
  ·rw [if_neg (fun h=>h h0),if_neg (fun h=>h (by rw [<- he];exact h0))];obtain⟨p1,p2,p3⟩:=VX n (o.next hb h0) (r:=r.drop (4+jX r)) (fun z hz=>hb z (List.mem_of_mem_drop hz));refine⟨p1,p2,fun h=>?_⟩;obtain⟨g1,g2,g3⟩:=p3 h;rw [zLa,List.length_singleton] at g2;exact⟨g1,by omega,g3⟩
  ·rw [if_pos h0,if_pos (fun h=>h0 (by rw [he];exact h))];exact⟨he,rfl,fun h=>absurd h h0⟩
structure Roi (O:List ((Int×Int×Int×Int)×List Int)) (o1:List Int) (R:List (ByteArray×Int)) (out:List Int):Prop where
 eq:out=pn R 0 o1
 ros:Ros out R.length
 rts:ak out 8=R
 has:∀ k,1<=k->k<=40->(jy O k=true ↔ aq out k≠0)
 lays:Zk R o1
theorem Roi.start{O:List ((Int×Int×Int×Int)×List Int)}{out:List Int}{a:Nat}(o:Zi O out a):Roi O out [] out:=by refine⟨rfl,⟨o.ZW.aV,o.ZW.len,o.ZW.kV,fun j _ hj=>o.ZW.none_ j hj⟩,?_,o.has,fun i x h=>by simp at h⟩;rw [gS (k:=0) 8 (by decide) (fun j _ hj=>o.ZW.none_ j hj)];rfl
theorem Roi.lead{O:List ((Int×Int×Int×Int)×List Int)}{o1 out:List Int}{R:List (ByteArray×Int)}(o:Roi O o1 R out)(s:ByteArray):yK R s=true ↔ aU (ak out 8) s≠0:=by
 have rS:=dN o.ros.aV.ok;rw [o.rts] at rS ⊢;unfold yK aU;rw [List.any_eq_true];constructor
 ·rintro ⟨r,hr,he⟩;cases hf:R.find? (fun r=>r.1 == s) with
  | none=>exact absurd he (by simpa using List.find?_eq_none.1 hf r hr)
  | some x =>
   have hx:=rS.pos x (List.mem_of_find?_eq_some hf)
   show x.2≠0
   omega
 ·intro h;cases hf:R.find? (fun r=>r.1 == s) with
  | none=>rw [hf] at h;exact absurd rfl h
  | some x=>exact⟨x,List.mem_of_find?_eq_some hf,by simpa using List.find?_some hf⟩
theorem Roi.err{O:List ((Int×Int×Int×Int)×List Int)}{o1 out r:List Int}{R:List (ByteArray×Int)}(o:Roi O o1 R out):yB r O R=ZU r out:=by
 unfold yB ZU;by_cases h1:r.length<8
 ·rw [if_pos h1,if_pos h1]
 rw [if_neg h1,if_neg h1];by_cases h2:(aT (r.take 8)).2≠0
 ·rw [if_pos h2,if_pos h2]
 rw [if_neg h2,if_neg h2];have hl:=o.lead (aT (r.take 8)).1;by_cases h3:aU (ak out 8) (aT (r.take 8)).1≠0
 ·rw [if_pos (hl.2 h3),if_pos h3]
 rw [if_neg (fun h=>h3 (hl.1 h)),if_neg h3];by_cases h4:r.length<9
 ·rw [if_pos h4,if_pos h4]
 rw [if_neg h4,if_neg h4];unfold aP;rw [if_neg (show ¬ b9 out.length=false by rw [o.ros.aV.cW];simp)];by_cases h5:dC (r.getD 8 0)=false
 ·rw [if_pos h5,if_pos h5]
 rw [if_neg h5,if_neg h5];have hh:=aF.1 (eq_true_of_ne_false h5);have hi:=o.has _ hh.1 hh.2;by_cases h6:aq out (r.getD 8 0)=0
 ·rw [if_pos h6,if_pos (by cases h:jy O (r.getD 8 0) with | false=>rfl | true=>exact absurd h6 (hi.1 h))]
 ·rw [if_neg h6,if_neg (by rw [hi.2 h6];simp)]
theorem Roi.next{O:List ((Int×Int×Int×Int)×List Int)}{o1 out r:List Int}{R:List (ByteArray×Int)}(o:Roi O o1 R out)(hi:R.length<8)(hb:bj r)(h:yB r O R=0) :
  Roi O o1 (R++[((aT (r.take 8)).1,r.getD 8 0)]) (roO r R.length out):=by
 rw [o.err] at h;obtain⟨o2,h1,h2⟩:=o.ros.next hi hb h;obtain⟨q1,q2,q3,q4⟩:=zO h;obtain⟨_,dy,_⟩:=iM (fun z hz=>hb z (List.mem_of_mem_take hz)) q2;obtain⟨c1,c2,c3⟩:=aJ.1 q4;have hg:=aF.1 c2;refine⟨?_,by rw [zLa];exact o2,by rw [h1,o.rts],fun k k1 k2=>?_,fun i x hx=>?_⟩
 ·rw [wB,<- o.eq,Nat.zero_add];rfl
 ·have:=(h2 k k1 k2).2;rw [o.has k k1 k2];have hk:=aF.2 ⟨k1,k2⟩;constructor
  ·intro ht;exact(aJ.1 (this.trans (aJ.2 ⟨o.ros.aV.cW,hk,ht⟩))).2.2
  ·intro ht;exact(aJ.1 (this.symm.trans (aJ.2 ⟨o2.aV.cW,hk,ht⟩))).2.2
 ·by_cases Z8:i<R.length
  ·rw [List.getElem?_append_left Z8] at hx;rw [List.take_append_of_le_length (by omega)];exact o.lays i x hx
  ·have hi3:i=R.length:=by have:=(zLs hx).1;rw [zLa,List.length_singleton] at this;omega
   subst hi3;rw [List.getElem?_append_right zNr,Nat.sub_self] at hx;have k7:((aT (r.take 8)).1,r.getD 8 0)=x:=by simpa using hx
   subst k7;rw [List.take_append_of_le_length zNr,List.take_of_length_le zNr,<- o.eq];have hnB:=bZ.2 dy;have Na:¬ gv ((aT (r.take 8)).1,r.getD 8 0)=true:=fun hx=>by have:=(eX.1 hx).2;dsimp only at this;omega
   refine⟨gB.2 ⟨o.ros.aV.cW,by omega,by omega,?_⟩,o.ros.len,o.ros.kV⟩;unfold eF;rw [if_neg Na,if_neg (by dsimp only;rw [c2];simp),if_pos hnB]
theorem Vp:∀ (n:Nat) {r:List Int} {O:List ((Int×Int×Int×Int)×List Int)} {o1 out:List Int} {R:List (ByteArray×Int)},Roi O o1 R out->R.length+n<=8->bj r ->(roK n r O R).1=(roR n R.length r out).1/\(roK n r O R).2.1=(roR n R.length r out).2.1/\((roK n r O R).1=0->Roi O o1 (roK n r O R).2.2 (roR n R.length r out).2.2/\(roK n r O R).2.2.length=R.length+n)
 | 0,r,O,o1,out,R,o,hl,hb=>⟨rfl,rfl,fun _=>⟨o,rfl⟩⟩
 | n+1,r,O,o1,out,R,o,hl,hb=>by
  have he:=o.err (r:=r);unfold roK roR;by_cases h0:yB r O R=0
  ·rw [if_neg (fun h=>h h0),if_neg (fun h=>h (by rw [<- he];exact h0))];obtain⟨p1,p2,p3⟩:=Vp n (o.next (by omega) hb h0) (r:=r.drop 9) (by rw [zLa,List.length_singleton];omega) (fun z hz=>hb z (List.mem_of_mem_drop hz));rw [zLa,List.length_singleton] at p1 p2 p3;refine⟨p1,p2,fun h=>?_⟩;obtain⟨g1,g2⟩:=p3 h;exact⟨g1,by omega⟩
  ·rw [if_pos h0,if_pos (fun h=>h0 (by rw [he];exact h))];exact⟨he,rfl,fun h=>absurd h h0⟩
theorem OP{b:List Int}(hb:bj b):(Ui b).1=(mN b).1/\((mN b).1≠0->(Ui b).2=[]/\(mN b).2.1=[]/\(mN b).2.2=[]) /\
  ((mN b).1=0->(Ui b).2=pn (mN b).2.2 0 (mE (mN b).2.1 (ag 6400))/\Qt (mN b).2.1 (ag 6400)/\Zk (mN b).2.2 (mE (mN b).2.1 (ag 6400))/\(mN b).2.1.length<=40/\(mN b).2.2.length<=8):=by
 have dO:=hb.getD 4;unfold Ui mN;by_cases h1:Ck b=false
 ·rw [if_pos h1,if_pos h1];exact⟨rfl,fun _=>⟨rfl,rfl,rfl⟩,fun h=>absurd h (by simp)⟩
 rw [if_neg h1,if_neg h1];by_cases h2:b.length<5\/40<b.getD 4 0
 ·rw [if_pos h2,if_pos h2];exact⟨rfl,fun _=>⟨rfl,rfl,rfl⟩,fun h=>absurd h (by simp)⟩
 rw [if_neg h2,if_neg h2];obtain⟨p1,p2,p3⟩:=VX (b.getD 4 0).toNat Zi.start (r:=b.drop 5) (fun z hz=>hb z (List.mem_of_mem_drop hz));have e1:obK (b.getD 4 0).toNat (b.drop 5) 288 []=qq b:=rfl;rw [e1] at p1 p2 p3;rw [<- p1,<- p2];have zlc:(b.getD 4 0).toNat<=40:=by omega
 generalize obR (b.getD 4 0).toNat (b.drop 5) 288 (ag 6400)=Z at p1 p2 p3 ⊢;generalize (b.getD 4 0).toNat=n at *;generalize qq b=X at *;by_cases h3:X.1≠0
 ·rw [if_pos h3,if_pos h3];exact⟨rfl,fun _=>⟨rfl,rfl,rfl⟩,fun h=>absurd h h3⟩
 rw [if_neg h3,if_neg h3];obtain⟨g1,g2,g3⟩:=p3 (Decidable.not_not.1 h3);by_cases h4:X.2.1.length=0\/8<X.2.1.getD 0 0
 ·rw [if_pos h4,if_pos h4];exact⟨rfl,fun _=>⟨rfl,rfl,rfl⟩,fun h=>absurd h (by simp)⟩
 rw [if_neg h4,if_neg h4];have DO:=g3.getD 0;obtain⟨r1,r2,r3⟩:=Vp (X.2.1.getD 0 0).toNat (Roi.start g1) (r:=X.2.1.drop 1) (by rw [List.length_nil];omega) (fun z hz=>g3 z (List.mem_of_mem_drop hz));rw [List.length_nil] at r1 r2 r3;have e2:roK (X.2.1.getD 0 0).toNat (X.2.1.drop 1) X.2.2.2 []=Lp X:=rfl;rw [e2] at r1 r2 r3;rw [<- r1,<- r2];have wI:(X.2.1.getD 0 0).toNat<=8:=by omega
 generalize roR (X.2.1.getD 0 0).toNat 0 (X.2.1.drop 1) Z.2.2.2=V at r1 r2 r3 ⊢;generalize (X.2.1.getD 0 0).toNat=m at *;generalize Lp X=Y at *;by_cases h5:Y.1≠0
 ·rw [if_pos h5,if_pos h5];exact⟨rfl,fun _=>⟨rfl,rfl,rfl⟩,fun h=>absurd h h5⟩
 rw [if_neg h5,if_neg h5];obtain⟨s1,s2⟩:=r3 (Decidable.not_not.1 h5);by_cases h6:Y.2.1≠[]
 ·rw [if_pos h6,if_pos h6];exact⟨rfl,fun _=>⟨rfl,rfl,rfl⟩,fun h=>absurd h (by simp)⟩
 rw [if_neg h6,if_neg h6];refine⟨rfl,fun h=>absurd rfl h,fun _=>⟨?_,g1.lays,?_,by dsimp only;rw [g2,List.length_nil];omega,by dsimp only;omega⟩⟩
 ·dsimp only;rw [<- g1.eq];exact s1.eq
 ·rw [<- g1.eq];exact s1.lays
def IY(o:(Int×Int×Int×Int)×Option Addr×Nat×List Int):List Value:=[.int .i64 o.1.1,.int .i64 o.1.2.1,.int .i64 o.1.2.2.1,.int .i64 o.1.2.2.2,.slice o.2.1 o.2.2.2.length o.2.2.1]
def jL(o:(Int×Int×Int×Int)×Option Addr×Nat×List Int):(Int×Int×Int×Int)×List Int:=(o.1,o.2.2.2)
theorem FK(o:(Int×Int×Int×Int)×Option Addr×Nat×List Int):(IY o).length=5:=rfl
theorem Pe(o:(Int×Int×Int×Int)×Option Addr×Nat×List Int):∀ u∈IY o,u.oneCell'=true:=by
 intro u hu;unfold IY at hu;rcases zMc hu with rfl | hu
 ·rfl
 rcases zMc hu with rfl | hu
 ·rfl
 rcases zMc hu with rfl | hu
 ·rfl
 rcases zMc hu with rfl | hu
 ·rfl
 rw [zMs hu];rfl
theorem Px:(Tryz.prog.info? 171).map (fun i=>(i.zero,i.size,i.bytes))=some (some (.agg #[.int .i64 0,.int .i64 0,.int .i64 0,.int .i64 0,.slice none 0 0]),5,56):=by kernel_rfl
theorem fG.oj{w:World}{b off:Nat}{l:List ((Int×Int×Int×Int)×Option Addr×Nat×List Int)}(hc:∀ i x,l[i]?=some x->∀ j u,(IY x)[j]?=some u->w.cell? ⟨b,off+i * 5+j,none⟩=some u){i:Nat}{o:(Int×Int×Int×Int)×Option Addr×Nat×List Int}(h:l[i]?=some o) :
  w.cell? ⟨b,off+i * 5,none⟩=some (.int .i64 o.1.1)/\w.cell? ⟨b,off+i * 5+1,none⟩=some (.int .i64 o.1.2.1)/\w.cell? ⟨b,off+i * 5+2,none⟩=some (.int .i64 o.1.2.2.1)/\w.cell? ⟨b,off+i * 5+3,none⟩=some (.int .i64 o.1.2.2.2)/\w.cell? ⟨b,off+i * 5+4,none⟩=some (.slice o.2.1 o.2.2.2.length o.2.2.1) :=
 ⟨hc i o h 0 _ rfl,hc i o h 1 _ rfl,hc i o h 2 _ rfl,hc i o h 3 _ rfl,hc i o h 4 _ rfl⟩
theorem bT.stays{α β:Type}{enc:α->List Value}{fnc:β->List Value}{k T k' T':Nat}{w w':World}{B B':Nat}{v v':Value}{l:List α}{l':List β}(h:bT enc k T w B v l)(h':bT fnc k' T' w B' v' l')(aO:T≠T')
  (hk:∀ j,j<w.heap.size->v.ownBlock≠some j->w'.heap[j]?=w.heap[j]?):bT fnc k' T' w' B' v' l':=by
 refine⟨h'.1,?_⟩;rcases h'.2 with h0 | ⟨g,cap,cur,rfl,hB,hc,h3⟩
 ·exact .inl h0
 ·refine .inr ⟨g,cap,cur,rfl,hB,(hk g (zAg hc).1 (fun e=>?_)).trans hc,h3⟩;rcases h.2 with ⟨rfl,_⟩ | ⟨g1,cap1,cur1,rfl,dm,dR,_⟩
  ·cases e
  ·simp [Value.ownBlock] at e;subst e;rw [dR] at hc;simp at hc;exact aO hc.2
theorem bT.lay{α:Type}{enc:α->List Value}{k T:Nat}{w:World}{B g i:Nat}{v c:Value}{l:List α}(h:bT enc k T w B v l)(hg:g<B):bT enc k T (w.setCell ⟨g,i,none⟩ c) B v l:=by
 refine⟨h.1,?_⟩;rcases h.2 with h0 | ⟨g',cap',cur,rfl,hB,hc,h3⟩
 ·exact .inl h0
 ·exact .inr ⟨g',cap',cur,rfl,hB,(heap_setCell_other w ⟨g,i,none⟩ g' c (by show g'≠g;omega)).trans hc,h3⟩
def zi(w0 w:World)(p:Nat)(ar:Option Addr)(cr:Nat)(vO vR:Value)(os:List ((Int×Int×Int×Int)×Option Addr×Nat×List Int))(r:List Int)(n:Nat)(R:List (ByteArray×Int)):Prop :=p=w0.heap.size/\w.heap[p]?=some (.cells #[.slice ar r.length cr,.int .i64 n,vO,vR] 180 (0,0))/\Bs w0 ar cr r/\bT IY 5 171 w (p+1) vO os/\(∀ o∈os,Bs w0 o.2.1 o.2.2.1 o.2.2.2)/\bT yC 2 152 w (p+1) vR R/\Below w0.heap.size w0 w
def Rd(w0 w:World)(p:Nat)(r:List Int)(n:Nat)(O:List ((Int×Int×Int×Int)×List Int))(R:List (ByteArray×Int)):Prop:=∃ ar cr vO vR os,zi w0 w p ar cr vO vR os r n R/\os.map jL=O
section
variable {w0 w w':World} {p:Nat} {ar:Option Addr} {cr:Nat} {vO vR:Value} {os:List ((Int×Int×Int×Int)×Option Addr×Nat×List Int)} {r:List Int} {n:Nat} {R:List (ByteArray×Int)}
theorem zi.cells(h:zi w0 w p ar cr vO vR os r n R):w.cell? ⟨p,0,none⟩=some (.slice ar r.length cr)/\w.cell? ⟨p,1,none⟩=some (.int .i64 n)/\w.cell? ⟨p,2,none⟩=some vO/\w.cell? ⟨p,3,none⟩=some vR:=by have hc:=h.2.1;refine⟨?_,?_,?_,?_⟩ <;> (rw [cell_of_row _ _ _ _ _ _ hc];rfl)
theorem zi.frozen(h:zi w0 w p ar cr vO vR os r n R)(j:Nat):w.frozen? ⟨p,j,none⟩=false:=frozen_of_row _ _ j _ _ h.2.1
theorem zi.lt(h:zi w0 w p ar cr vO vR os r n R):p<w.heap.size:=(zAg h.2.1).1
theorem zi.below(h:zi w0 w p ar cr vO vR os r n R)(hb:Below w.heap.size w w'):zi w0 w' p ar cr vO vR os r n R:=by obtain⟨h1,h2,h3,h4,h5,h6,h7⟩:=h;exact⟨h1,(hb.block p (zAg h2).1).trans h2,h3,h4.below hb,h5,h6.below hb,h7.trans (hb.mono h7.size)⟩
theorem zi.world(h:zi w0 w p ar cr vO vR os r n R):Below w0.heap.size w0 w:=h.2.2.2.2.2.2
theorem zi.rest(h:zi w0 w p ar cr vO vR os r n R){a2:Option Addr}{c2:Nat}{r2:List Int}(hb:Bs w0 a2 c2 r2):zi w0 (w.setCell ⟨p,0,none⟩ (.slice a2 r2.length c2)) p a2 c2 vO vR os r2 n R:=by obtain⟨h1,h2,h3,h4,h5,h6,h7⟩:=h;exact⟨h1,heap_setCell_same w p 0 _ _ _ h2,hb,h4.lay (Nat.lt_succ_self _),h5,h6.lay (Nat.lt_succ_self _),h7.setCell (by show w0.heap.size<=p;omega) _⟩
theorem zi.place(h:zi w0 w p ar cr vO vR os r n R)(m:Nat):zi w0 (w.setCell ⟨p,1,none⟩ (.int .i64 m)) p ar cr vO vR os r m R:=by obtain⟨h1,h2,h3,h4,h5,h6,h7⟩:=h;exact⟨h1,heap_setCell_same w p 1 _ _ _ h2,h3,h4.lay (Nat.lt_succ_self _),h5,h6.lay (Nat.lt_succ_self _),h7.setCell (by show w0.heap.size<=p;omega) _⟩
theorem zi.object(h:zi w0 w p ar cr vO vR os r n R){v':Value}{y:(Int×Int×Int×Int)×Option Addr×Nat×List Int}(hy:Bs w0 y.2.1 y.2.2.1 y.2.2.2)(hL:bT IY 5 171 w' (p+1) v' (os++[y]))(hb:Below (p+1) w w')
  (hk:∀ j,j<w.heap.size->vO.ownBlock≠some j->w'.heap[j]?=w.heap[j]?):zi w0 (w'.setCell ⟨p,2,none⟩ v') p ar cr v' vR (os++[y]) r n R:=by
 obtain⟨h1,h2,h3,h4,h5,h6,h7⟩:=h;have aM:=(zAg h2).1;have kL:=(hb.block p (Nat.lt_succ_self _)).trans h2;refine⟨h1,heap_setCell_same w' p 2 _ _ _ kL,h3,hL.lay (Nat.lt_succ_self _),fun o ho=>?_,(h4.stays h6 (by decide) hk).lay (Nat.lt_succ_self _),(h7.trans (hb.mono (by omega))).setCell (by show w0.heap.size<=p;omega) _⟩;rcases zMa ho with ho | ho
 ·exact h5 o ho
 ·rw [zMs ho];exact hy
theorem zi.root(h:zi w0 w p ar cr vO vR os r n R){v':Value}{y:(ByteArray×Int)}(hL:bT yC 2 152 w' (p+1) v' (R++[y]))(hb:Below (p+1) w w')
  (hk:∀ j,j<w.heap.size->vR.ownBlock≠some j->w'.heap[j]?=w.heap[j]?):zi w0 (w'.setCell ⟨p,3,none⟩ v') p ar cr vO v' os r n (R++[y]):=by
 obtain⟨h1,h2,h3,h4,h5,h6,h7⟩:=h;have aM:=(zAg h2).1;have kL:=(hb.block p (Nat.lt_succ_self _)).trans h2;exact⟨h1,heap_setCell_same w' p 3 _ _ _ kL,h3,(h6.stays h4 (by decide) hk).lay (Nat.lt_succ_self _),h5,hL.lay (Nat.lt_succ_self _),(h7.trans (hb.mono (by omega))).setCell (by show w0.heap.size<=p;omega) _⟩
end
theorem Rd.below{w0 w w':World}{p n:Nat}{r:List Int}{O:List ((Int×Int×Int×Int)×List Int)}{R:List (ByteArray×Int)}(h:Rd w0 w p r n O R)(hb:Below w.heap.size w w'):Rd w0 w' p r n O R:=by obtain⟨ar,cr,vO,vR,os,h1,h2⟩:=h;exact⟨ar,cr,vO,vR,os,h1.below hb,h2⟩
theorem Rd.world{w0 w:World}{p n:Nat}{r:List Int}{O:List ((Int×Int×Int×Int)×List Int)}{R:List (ByteArray×Int)}(h:Rd w0 w p r n O R):Below w0.heap.size w0 w:=by obtain⟨ar,cr,vO,vR,os,h1,h2⟩:=h;exact h1.world
def Flt(x:Int):Ending:=.panicked [{ v:=.iface 178 (.agg #[.int .i64 x]),recovered:=false }]
theorem nQ(b:Bool)(x:Int)(w:World)(hb:b=true):Calls Tryz.prog 166 #[.bool b,.int .i64 x] w fun e w'=>e=.returned (.tuple #[])/\w=w':=by
 subst hb;go_enter Tryz.func166,Tryz.ntmps166
 go_wp2
 go_end0
 exact⟨rfl,rfl⟩
theorem rH(b:Bool)(x:Int)(w:World)(hb:b=false):Calls Tryz.prog 166 #[.bool b,.int .i64 x] w fun e w'=>e=Flt x/\w=w':=by
 subst hb;go_enter Tryz.func166,Tryz.ntmps166
 go_wp2;exact⟨rfl,rfl,rfl⟩
section
variable {w0 w:World} {p n:Nat} {r:List Int} {O:List ((Int×Int×Int×Int)×List Int)} {R:List (ByteArray×Int)}
theorem oY(h:Rd w0 w p r n O R)(m:Nat)(hm:m<=r.length) :
  Calls Tryz.prog 167 #[.pointer (some ⟨p,0,none⟩),.int .i64 m] w fun e w'=>∃ a' c',e=.returned (.slice a' m c')/\Bs w0 a' c' (r.take m)/\Rd w0 w' p (r.drop m) n O R:=by
 obtain⟨ar,cr,vO,vR,os,hv,rfl⟩:=h;obtain⟨c0,c1,c2,c3⟩:=hv.cells;have f0:=hv.frozen 0;have hb:=hv.2.2.1;have iq:=hb.2.2.1;obtain⟨a1,gP,ay⟩:=jm (P:=Tryz.prog) (t:=30) zu30 aN hb m hm;obtain⟨a2,gM,aK⟩:=db (P:=Tryz.prog) (t:=30) zu30 aN hb m hm;have HN:=af (fun(b:Bool) (W:World) (hx:b=true)=>nQ b 2 W hx);have KU:=af (hv.rest aK);have aL:=af ay;have GQ:(r.drop m).length=r.length-m:=zLd;rw [GQ] at KU;clear hv hb ay aK GQ;generalize hN:r.length=N at *;have SJ:decide ((m:Int)<=(N:Int))=true:=decide_eq_true (by omega);clear hN c1 c2 c3;go_enter Tryz.func167,Tryz.ntmps167
 go_wp2_with fail
 refine(ae HN _ _ (by first | rfl | exact SJ | (simp;done) | (simp;omega))).mono ?_;rintro e w1 ⟨rfl,rfl⟩;go_wp2;go_ret;exact⟨a1,cr,rfl,ae aL,a2,cr-m,vO,vR,os,ae KU,rfl⟩
theorem rB(h:Rd w0 w p r n O R)(m:Nat)(hm:r.length<m) :
  Calls Tryz.prog 167 #[.pointer (some ⟨p,0,none⟩),.int .i64 m] w fun e w'=>e=Flt 2/\Below w0.heap.size w0 w':=by
 obtain⟨ar,cr,vO,vR,os,hv,rfl⟩:=h;obtain⟨c0,c1,c2,c3⟩:=hv.cells;have hb:=hv.2.2.1;have iq:=hb.2.2.1;have HN:=af (fun(b:Bool) (W:World) (hx:b=false)=>rH b 2 W hx);have HB:=af hv.world;clear hv hb;generalize hN:r.length=N at *;have SJ:decide ((m:Int)<=(N:Int))=false:=decide_eq_false (by omega);clear hN c1 c2 c3;go_enter Tryz.func167,Tryz.ntmps167
 go_wp2_with fail
 refine(ae HN _ _ (by first | rfl | exact SJ | (simp;done) | (simp;omega))).mono ?_;rintro e w1 ⟨rfl,rfl⟩;exact⟨rfl,rfl,ae HB⟩
end
theorem Tj{r:List Int}(s:Nat):bz (r.take s) 0 s=bz r 0 s:=by unfold bz;rw [List.drop_zero,List.drop_zero,List.take_take,Nat.min_self]
theorem AV{r:List Int}(h:1<=r.length):bz r 0 1=r.getD 0 0:=by rw [oA _ _ _ (by omega)];simp [bz,numOf]
section
variable {w0 w:World} {p n:Nat} {r:List Int} {O:List ((Int×Int×Int×Int)×List Int)} {R:List (ByteArray×Int)}
theorem Ro(h:Rd w0 w p r n O R)(s:Nat)(h1:1<=s)(h4:s<=4)(hs:s<=r.length) :
  Calls Tryz.prog 223 #[.pointer (some ⟨p,0,none⟩),.int .i64 s] w fun e w'=>e=.returned (.int .i64 (bz r 0 s))/\Rd w0 w' p (r.drop s) n O R:=by
 have HT:=af (oY h s hs);have hl:(r.take s).length=s:=by rw [zLt];omega
 have HG:=af (fun(W:World) (a':Option Addr) (c':Nat) (hb:Bs W a' c' (r.take s))=>jA a' c' (r.take s) 0 s W hb (by omega) (by omega) (by omega) (by omega));rw [hl,zTn,Int.toNat_zero,Tj] at HG;generalize bz r 0 s=V at *;clear h hl;go_enter Tryz.func223,Tryz.ntmps223
 go_wp2_with fail
 refine(ae HT).mono ?_;rintro e w1 ⟨a',c',rfl,ay,sx⟩;have HC:=af (ae HG w1 a' c' (ay.below sx.world));have HR:=af sx;clear ay sx HT HG;go_wp2_with fail
 refine(ae HC).mono ?_;rintro e w2 ⟨rfl,rfl⟩;go_wp2;go_ret;exact⟨rfl,ae HR⟩
theorem Vu(h:Rd w0 w p r n O R)(s:Nat)(hs:r.length<s) :
  Calls Tryz.prog 223 #[.pointer (some ⟨p,0,none⟩),.int .i64 s] w fun e w'=>e=Flt 2/\Below w0.heap.size w0 w':=by
 have HT:=af (rB h s hs);clear h hs;go_enter Tryz.func223,Tryz.ntmps223
 go_wp2_with fail
 refine(ae HT).mono ?_;rintro e w1 ⟨rfl,ay⟩;exact⟨rfl,rfl,ay⟩
theorem rC(h:Rd w0 w p r n O R)(s:Nat)(h1:1<=s)(h4:s<=4) :
  Calls Tryz.prog 223 #[.pointer (some ⟨p,0,none⟩),.int .i64 s] w fun e w'=>(r.length<s/\e=Flt 2/\Below w0.heap.size w0 w')\/(s<=r.length/\e=.returned (.int .i64 (bz r 0 s))/\Rd w0 w' p (r.drop s) n O R):=by
 by_cases hs:s<=r.length
 ·exact(Ro h s h1 h4 hs).mono fun e w' hx=>.inr ⟨hs,hx⟩
 ·exact(Vu h s (by omega)).mono fun e w' hx=>.inl ⟨by omega,hx⟩
theorem xO(h:Rd w0 w p r n O R)(hb:bj r)(m:Nat)(hm:m<=255) :
  Calls Tryz.prog 168 #[.pointer (some ⟨p,0,none⟩),.int .i64 m] w fun e w'=>((r.length=0\/(m:Int)<r.getD 0 0)/\e=Flt 2/\Below w0.heap.size w0 w')\/((1<=r.length/\r.getD 0 0<=m)/\e=.returned (.int .i64 (r.getD 0 0))/\Rd w0 w' p (r.drop 1) n O R):=by
 have HT:=af (rC h 1 zNr (by omega));have HV:=af (fun(hx:1<=r.length)=>AV hx);have sE:=hb.getD 0;have HN:=af (fun(b:Bool) (W:World) (hx:b=false)=>rH b 2 W hx);have HY:=af (fun(b:Bool) (W:World) (hx:b=true)=>nQ b 2 W hx);generalize r.getD 0 0=V at *;clear h hb;go_enter Tryz.func168,Tryz.ntmps168
 go_wp2_with fail
 refine(ae HT).mono ?_;rintro e w1 (⟨hs,rfl,ay⟩ | ⟨hs,rfl,sx⟩)
 ·exact⟨rfl,.inl ⟨.inl (by omega),rfl,ay⟩⟩
 rw [ae HV hs];have HR:=af sx;have HS:=af hs;clear sx hs HT HV;by_cases aM:(m:Int)<V
 ·have SJ:decide (V<=(m:Int))=false:=decide_eq_false (by omega);go_wp2_with fail
  refine(ae HN _ _ (by first | rfl | exact SJ | (simp;done) | (simp;omega))).mono ?_;rintro e w2 ⟨rfl,rfl⟩;exact⟨rfl,.inl ⟨.inr aM,rfl,(ae HR).world⟩⟩
 ·have SJ:decide (V<=(m:Int))=true:=decide_eq_true (by omega);go_wp2_with fail
  refine(ae HY _ _ (by first | rfl | exact SJ | (simp;done) | (simp;omega))).mono ?_;rintro e w2 ⟨rfl,rfl⟩;go_wp2;go_ret;exact .inr ⟨⟨ae HS,by omega⟩,rfl,ae HR⟩
def rR(r:List Int):Int:=if r.length=0 then 2 else if dC (r.getD 0 0)=false then 1 else 0
theorem uc(h:Rd w0 w p r n O R)(hb:bj r) :
  Calls Tryz.prog 224 #[.pointer (some ⟨p,0,none⟩)] w fun e w'=>(rR r≠0/\e=Flt (rR r)/\Below w0.heap.size w0 w')\/((rR r=0/\1<=r.length/\1<=r.getD 0 0/\r.getD 0 0<=40)/\e=.returned (.int .i64 (r.getD 0 0))/\Rd w0 w' p (r.drop 1) n O R):=by
 have HT:=af (rC h 1 zNr (by omega));have HV:=af (fun(hx:1<=r.length)=>AV hx);have HE0:=af (fun(hx:r.length<1)=>show rR r=2 by unfold rR;rw [if_pos (by omega)]);have CA:=af (fun(hx:1<=r.length) (hy:dC (r.getD 0 0)=false)=>show rR r=1 by unfold rR;rw [if_neg (by omega),if_pos hy]);have EI:=af (fun(hx:1<=r.length) (hy:dC (r.getD 0 0)=true)=>show rR r=0 by unfold rR;rw [if_neg (by omega),if_neg (by rw [hy];simp)]);have sE:=hb.getD 0;have HN:=af (fun(b:Bool) (W:World) (hx:b=false)=>rH b 1 W hx);have HY:=af (fun(b:Bool) (W:World) (hx:b=true)=>nQ b 1 W hx);generalize rR r=X at *;generalize r.getD 0 0=V at *;clear h hb;go_enter Tryz.func224,Tryz.ntmps224
 go_wp2_with fail
 refine(ae HT).mono ?_;rintro e w1 (⟨hs,rfl,ay⟩ | ⟨hs,rfl,sx⟩)
 ·exact⟨rfl,.inl ⟨by rw [ae HE0 hs];decide,by rw [ae HE0 hs];rfl,ay⟩⟩
 rw [ae HV hs];have HR:=af sx;have HS:=af hs;clear sx hs HT HV HE0;by_cases h1:1<=V
 ·by_cases h2:V<=40
  ·have HX:=af (ae EI (ae HS) (aF.2 ⟨h1,h2⟩));go_wp2_with fail
   refine(ae HY _ _ (by first | rfl | (simp;done) | (simp;omega))).mono ?_;rintro e w2 ⟨rfl,rfl⟩;go_wp2;go_ret;exact .inr ⟨⟨ae HX,ae HS,h1,h2⟩,rfl,ae HR⟩
  ·have HX:=af (ae CA (ae HS) (by cases hq:dC V with | false=>rfl | true=>exact absurd (aF.1 hq).2 h2));go_wp2_with fail
   refine(ae HN _ _ (by first | rfl | (simp;done) | (simp;omega))).mono ?_;rintro e w2 ⟨rfl,rfl⟩;exact⟨rfl,.inl ⟨by rw [ae HX];decide,by rw [ae HX];rfl,(ae HR).world⟩⟩
 ·have HX:=af (ae CA (ae HS) (by cases hq:dC V with | false=>rfl | true=>exact absurd (aF.1 hq).1 h1));go_wp2_with fail
  refine(ae HN _ _ (by first | rfl | (simp;done) | (simp;omega))).mono ?_;rintro e w2 ⟨rfl,rfl⟩;exact⟨rfl,.inl ⟨by rw [ae HX];decide,by rw [ae HX];rfl,(ae HR).world⟩⟩
end
theorem X7(q:Nat)(x a l t:Int)(ad:Option Addr)(m c:Nat)(h:Int)(w:World)(hq:w.cell? ⟨q,0,none⟩=some (.int .i64 h)) :
  Calls Tryz.prog 250 #[.agg #[.int .i64 x,.int .i64 a,.int .i64 l,.int .i64 t,.slice ad m c],.pointer (some ⟨q,0,none⟩)] w fun e w'=>e=.returned (.bool (x == h))/\Below w.heap.size w w':=by
 have GM:(w.alloc (.cells #[.int .i64 x,.int .i64 a,.int .i64 l,.int .i64 t,.slice ad m c] 171)).cell? ⟨q,0,none⟩=some (.int .i64 h):=(((Below.refl w.heap.size w).alloc zNr _).cell (block_lt_of_cell hq)).trans hq;clear hq;go_enter Tryz.func250,Tryz.ntmps250
 go_wp2;go_ret;exact⟨rfl,zBr.alloc zNr _⟩
theorem IX(q:Nat)(h:Int)(a:Option Addr)(cap:Nat)(l:List ((Int×Int×Int×Int)×Option Addr×Nat×List Int))(w:World)(hs:fG IY 5 w a cap l)(hq:w.cell? ⟨q,0,none⟩=some (.int .i64 h)) :
  Calls Tryz.prog 268 #[.slice a l.length cap,.func (.func 250) #[] #[.pointer (some ⟨q,0,none⟩)]] w fun e w'=>∃ i:Int,e=.returned (.int .i64 i)/\decide (0<=i)=l.any (fun o=>o.1.1 == h)/\Below w.heap.size w w':=by
 have hl:=hs.2.2.1;have HS:=af hs;have HQ:=af hq;clear hs hq;go_enter Tryz.func268,Tryz.ntmps268
 go_wp2;go_loopw [5,8] (fun _ iv wr=>∃ k:Nat,k<=l.length/\iv=.int .i64 k/\(l.take k).any (fun o=>o.1.1 == h)=false/\Below w.heap.size w wr) (fun _ iv _=>l.length-(intOf iv).toNat)
 case atStart=>exact⟨0,Nat.zero_le _,rfl,rfl,zBr⟩
 case round =>
  obtain⟨k,hk,rfl,bB,ao⟩:=hrel;by_cases aM:k<l.length
  ·have aO:l≠[]:=by intro e;rw [e] at aM;simp at aM
   obtain⟨b1,o1,rfl,dR⟩:=((ae HS).below ao).2.2.2 aO;obtain⟨f,hf⟩:∃ f,l[k]?=some f:=⟨l[k],zLg aM⟩;obtain⟨q0,q1,q2,q3,q4⟩:=fG.oj dR hf;have hq:=(ao.cell (block_lt_of_cell (ae HQ))).trans (ae HQ);have HC:=af (X7 q f.1.1 f.1.2.1 f.1.2.2.1 f.1.2.2.2 f.2.1 f.2.2.2.length f.2.2.1 h wr hq);have pY:l.take (k+1)=l.take k++[f]:=by rw [List.take_add_one,hf];rfl
   have nK:=af pY;have oJ:=af bB;have T9:=af (List.mem_of_getElem? hf);have aQ:=af ao;clear dR hf aO hq bB ao pY;cases hx:(f.1.1 == h)
   ·have da:(l.take (k+1)).any (fun o=>o.1.1 == h)=false:=by rw [ae nK,List.any_append,ae oJ];simp [hx]
    have ji:=af da;rw [hx] at HC;clear da hx;generalize f.1.1=x1 at *;generalize f.1.2.1=x2 at *;generalize f.1.2.2.1=x3 at *;generalize f.1.2.2.2=x4 at *;generalize f.2.1=x5 at *;generalize f.2.2.2.length=x6 at *;generalize f.2.2.1=x7 at *;go_wp2_with (go_at_call 250;refine(ae HC).mono ?_;rintro e w1 ⟨rfl,ay⟩;have aL:=zTr aQ ay;clear ay)
    go_roundw
    case rel=>exact⟨k+1,by omega,by go_num,ae ji,ae aL⟩
    case measure=>simp [intOf];omega
   ·have da:l.any (fun o=>o.1.1 == h)=true:=List.any_eq_true.2 ⟨_,ae T9,hx⟩;have ji:=af da;rw [hx] at HC;clear da hx nK T9;generalize f.1.1=x1 at *;generalize f.1.2.1=x2 at *;generalize f.1.2.2.1=x3 at *;generalize f.1.2.2.2=x4 at *;generalize f.2.1=x5 at *;generalize f.2.2.2.length=x6 at *;generalize f.2.2.1=x7 at *;go_wp2_with (go_at_call 250;refine(ae HC).mono ?_;rintro e w1 ⟨rfl,ay⟩;have aL:=zTr aQ ay;clear ay)
    go_ret;exact⟨k,rfl,by rw [ae ji];exact decide_eq_true (by omega),ae aL⟩
  ·obtain rfl:k=l.length:=by omega
   rw [List.take_length] at bB;have oJ:=af bB;have aQ:=af ao;clear bB ao;go_wp2;go_ret;exact⟨-1,rfl,by rw [ae oJ];rfl,ae aQ⟩
theorem Mk(q:Nat)(h:Int)(a:Option Addr)(cap:Nat)(l:List ((Int×Int×Int×Int)×Option Addr×Nat×List Int))(w:World)(hs:fG IY 5 w a cap l)(hq:w.cell? ⟨q,0,none⟩=some (.int .i64 h)) :
  Calls Tryz.prog 249 #[.slice a l.length cap,.func (.func 250) #[] #[.pointer (some ⟨q,0,none⟩)]] w fun e w'=>e=.returned (.bool (l.any (fun o=>o.1.1 == h)))/\Below w.heap.size w w':=by
 have HI:=af (IX q h a cap l w hs hq);generalize l.any (fun o=>o.1.1 == h)=R at *;generalize l.length=N at *;clear hs hq;go_enter Tryz.func249,Tryz.ntmps249
 go_wp2_with fail
 refine(ae HI).mono ?_;rintro e w1 ⟨i,rfl,hi,ay⟩;have HB:=af ay;have HR:=af hi;clear ay hi HI;go_wp2;go_ret;exact⟨by rw [<- ae HR];rfl,ae HB⟩
section
variable {w0 w:World} {p n:Nat} {r:List Int} {O:List ((Int×Int×Int×Int)×List Int)} {R:List (ByteArray×Int)}
theorem X6(os:List ((Int×Int×Int×Int)×Option Addr×Nat×List Int))(h:Int):os.any (fun o=>o.1.1 == h)=jy (os.map jL) h:=by
 unfold jy;rw [List.any_map]
 congr 1
theorem C7(hr:Rd w0 w p r n O R)(hO:O.length<=1000)(h:Int) :
  Calls Tryz.prog 225 #[.pointer (some ⟨p,0,none⟩),.int .i64 h] w fun e w'=>e=.returned (.bool (jy O h))/\Rd w0 w' p r n O R:=by
 have mJ:Below w.heap.size w (w.alloc (.cells #[.int .i64 h] 3)):=zBr.alloc zNr _;have HR:=af (hr.below mJ);obtain⟨ar,cr,vO,vR,os,hv,rfl⟩:=hr;have Xc:=hv.below mJ;rw [<- X6];rw [zLm] at hO;obtain⟨a,c,rfl,hs⟩:=Xc.2.2.2.1.kk FK (by omega);obtain⟨c0,c1,c2,c3⟩:=Xc.cells;have da:(w.alloc (.cells #[.int .i64 h] 3)).cell? ⟨w.heap.size,0,none⟩=some (.int .i64 h):=by rw [cell_of_row _ _ _ _ _ _ (heap_alloc_new w _)];rfl
 have HC:=af (Mk w.heap.size h a c os _ hs da);have hmf:∀ (fn:Fn) (first cap:Array Value) (w:World),(Instr.makeFunc fn first cap).run Tryz.prog w=.ok (.func fn first cap) w:=fun _ _ _ _=>rfl
 generalize os.any (fun o=>o.1.1 == h)=X at *;generalize os.length=N at *;clear hv Xc hs mJ c0 c1 c3;go_enter Tryz.func225,Tryz.ntmps225
 go_wp2_with fail
 refine(ae HC).mono ?_;rintro e w1 ⟨rfl,ay⟩;have vp:=af ((ae HR).below ay);clear ay HC HR;go_wp2;go_ret;exact⟨rfl,ae vp⟩
theorem zcg(t s:ByteArray):(t == s)=decide (t=s):=by
 by_cases e:t=s
 ·rw [decide_eq_true e];exact fF.2 e
 ·rw [decide_eq_false e];cases hq:(t == s) with
  | false=>rfl
  | true=>exact absurd (fF.1 hq) e
theorem MR(q:Nat)(t s:ByteArray)(x:Int)(w:World)(hq:w.cell? ⟨q,0,none⟩=some (.string s)) :
  Calls Tryz.prog 251 #[.agg #[.string t,.int .i64 x],.pointer (some ⟨q,0,none⟩)] w fun e w'=>e=.returned (.bool (t == s))/\Below w.heap.size w w':=by
 have GM:(w.alloc (.cells #[.string t,.int .i64 x] 152)).cell? ⟨q,0,none⟩=some (.string s):=(((Below.refl w.heap.size w).alloc zNr _).cell (block_lt_of_cell hq)).trans hq;have heq:(t.toList == s.toList)=decide (t=s):=by
  by_cases e:t=s
  ·rw [decide_eq_true e];exact tR.2 e
  ·rw [decide_eq_false e];exact Lv e
 clear hq;rw [zcg];generalize decide (t=s)=D at *;go_enter Tryz.func251,Tryz.ntmps251
 go_wp2;go_ret;exact⟨rfl,zBr.alloc zNr _⟩
theorem IV(q:Nat)(s:ByteArray)(a:Option Addr)(cap:Nat)(l:List (ByteArray×Int))(w:World)(hs:fG yC 2 w a cap l)(hq:w.cell? ⟨q,0,none⟩=some (.string s)) :
  Calls Tryz.prog 148 #[.slice a l.length cap,.func (.func 251) #[] #[.pointer (some ⟨q,0,none⟩)]] w fun e w'=>∃ i:Int,e=.returned (.int .i64 i)/\decide (0<=i)=l.any (fun r=>r.1 == s)/\Below w.heap.size w w':=by
 have hl:=hs.2.2.1;have HS:=af hs;have HQ:=af hq;clear hs hq;go_enter Tryz.func148,Tryz.ntmps148
 go_wp2;go_loopw [5,8] (fun _ iv wr=>∃ k:Nat,k<=l.length/\iv=.int .i64 k/\(l.take k).any (fun r=>r.1 == s)=false/\Below w.heap.size w wr) (fun _ iv _=>l.length-(intOf iv).toNat)
 case atStart=>exact⟨0,Nat.zero_le _,rfl,rfl,zBr⟩
 case round =>
  obtain⟨k,hk,rfl,bB,ao⟩:=hrel;by_cases aM:k<l.length
  ·have aO:l≠[]:=by intro e;rw [e] at aM;simp at aM
   obtain⟨b1,o1,rfl,dR⟩:=((ae HS).below ao).2.2.2 aO;obtain⟨f,hf⟩:∃ f,l[k]?=some f:=⟨l[k],zLg aM⟩;obtain⟨q0,q1⟩:=fG.root (cap:=0) dR hf;have hq:=(ao.cell (block_lt_of_cell (ae HQ))).trans (ae HQ);obtain⟨t,x⟩:=f;have HC:=af (MR q t s x wr hq);have pY:l.take (k+1)=l.take k++[(t,x)]:=by rw [List.take_add_one,hf];rfl
   have nK:=af pY;have oJ:=af bB;have T9:=af (List.mem_of_getElem? hf);have aQ:=af ao;dsimp only at *;clear dR hf aO hq bB ao pY;cases hx:(t == s)
   ·have da:(l.take (k+1)).any (fun r=>r.1 == s)=false:=by rw [ae nK,List.any_append,ae oJ];simp [hx]
    have ji:=af da;rw [hx] at HC;clear da hx;go_wp2_with (go_at_call 251;refine(ae HC).mono ?_;rintro e w1 ⟨rfl,ay⟩;have aL:=zTr aQ ay;clear ay)
    go_roundw
    case rel=>exact⟨k+1,by omega,by go_num,ae ji,ae aL⟩
    case measure=>simp [intOf];omega
   ·have da:l.any (fun r=>r.1 == s)=true:=List.any_eq_true.2 ⟨_,ae T9,hx⟩;have ji:=af da;rw [hx] at HC;clear da hx;go_wp2_with (go_at_call 251;refine(ae HC).mono ?_;rintro e w1 ⟨rfl,ay⟩;have aL:=zTr aQ ay;clear ay)
    go_ret;exact⟨k,rfl,by rw [ae ji];exact decide_eq_true (by omega),ae aL⟩
  ·obtain rfl:k=l.length:=by omega
   rw [List.take_length] at bB;have oJ:=af bB;have aQ:=af ao;clear bB ao;go_wp2;go_ret;exact⟨-1,rfl,by rw [ae oJ];rfl,ae aQ⟩
theorem Mf(q:Nat)(s:ByteArray)(a:Option Addr)(cap:Nat)(l:List (ByteArray×Int))(w:World)(hs:fG yC 2 w a cap l)(hq:w.cell? ⟨q,0,none⟩=some (.string s)) :
  Calls Tryz.prog 83 #[.slice a l.length cap,.func (.func 251) #[] #[.pointer (some ⟨q,0,none⟩)]] w fun e w'=>e=.returned (.bool (l.any (fun r=>r.1 == s)))/\Below w.heap.size w w':=by
 have HI:=af (IV q s a cap l w hs hq);generalize l.any (fun r=>r.1 == s)=R at *;generalize l.length=N at *;clear hs hq;go_enter Tryz.func83,Tryz.ntmps83
 go_wp2_with fail
 refine(ae HI).mono ?_;rintro e w1 ⟨i,rfl,hi,ay⟩;have HB:=af ay;have HR:=af hi;clear ay hi HI;go_wp2;go_ret;exact⟨by rw [<- ae HR];rfl,ae HB⟩
theorem IG(hr:Rd w0 w p r n O R)(hR:R.length<=1000)(s:ByteArray) :
  Calls Tryz.prog 226 #[.pointer (some ⟨p,0,none⟩),.string s] w fun e w'=>e=.returned (.bool (yK R s))/\Rd w0 w' p r n O R:=by
 have mJ:Below w.heap.size w (w.alloc (.cells #[.string s] 9)):=zBr.alloc zNr _;have HR:=af (hr.below mJ);obtain⟨ar,cr,vO,vR,os,hv,rfl⟩:=hr;have Xc:=hv.below mJ;unfold yK;obtain⟨a,c,rfl,hs⟩:=Xc.2.2.2.2.2.1.kk mX (by omega);obtain⟨c0,c1,c2,c3⟩:=Xc.cells;have da:(w.alloc (.cells #[.string s] 9)).cell? ⟨w.heap.size,0,none⟩=some (.string s):=by rw [cell_of_row _ _ _ _ _ _ (heap_alloc_new w _)];rfl
 have HC:=af (Mf w.heap.size s a c R _ hs da);have hmf:∀ (fn:Fn) (first cap:Array Value) (w:World),(Instr.makeFunc fn first cap).run Tryz.prog w=.ok (.func fn first cap) w:=fun _ _ _ _=>rfl
 generalize R.any (fun o=>o.1 == s)=X at *;generalize R.length=N at *;clear hv Xc hs mJ c0 c1 c2;go_enter Tryz.func226,Tryz.ntmps226
 go_wp2_with fail
 refine(ae HC).mono ?_;rintro e w1 ⟨rfl,ay⟩;have vp:=af ((ae HR).below ay);clear ay HC HR;go_wp2;go_ret;exact⟨rfl,ae vp⟩
end
section
variable {α:Type} {enc:α->List Value} {k T:Nat}
theorem bT.zee{w:World}{B B':Nat}{v:Value}{l:List α}(h:bT enc k T w B' v l)(hB:B<=B'):bT enc k T w B v l:=by
 refine⟨h.1,?_⟩;rcases h.2 with h0 | ⟨g,cap,cur,hv,hb,h3⟩
 ·exact .inl h0
 ·exact .inr ⟨g,cap,cur,hv,Nat.le_trans hB hb,h3⟩
theorem pL{P:Program}{w:World}{ops:Array Oper}{o:Oper}{a:Act}{K:Act->World->Prop}{Q:Exit->Act->World->Prop}{E:Prop}(pZ:o.guard=none)(s x:Operand)(t:TypeId)
  (ho:o.op=.call { callee:=.builtin .append,args:=#[s,x],argTypes:=#[t,t]}) (B:Nat) (i0:TypeInfo) (z:Value) (bytes:Nat)
  (ht:P.underlying t=some (.slice T)) (hi:P.info? T=some i0) (hz:i0.zero=some z) (xW:i0.size=k) (ik:i0.bytes=bytes) (W7:z.cells.size=k) (cL:0<k) (Cn:bytes<=100)
  (v:Value) (l:List α) (hs:a.eval s=v) (az:bT enc k T w B v l) (g:Nat) (y:α) (hx:a.eval x=.slice (some ⟨g,0,none⟩) 1 1)
  (hy:w.heap[g]?=some (.cells (enc y).toArray T (0,0))) (hk:(enc y).length=k) (h1:∀ u∈enc y,u.oneCell'=true) (hn:l.length<=1000) (hB:B<=w.heap.size)
  (h:∀ g' cap w',bT enc k T w' B (.slice (some ⟨g',0,none⟩) (l.length+1) cap) (l++[y])->Below B w w'->(∀ j,j<w.heap.size->v.ownBlock≠some j->w'.heap[j]?=w.heap[j]?)->K (a.put o.dst (.slice (some ⟨g',0,none⟩) (l.length+1) cap)) w') :
  if Region.wanted o (yielded ops a.tmps)=true then Oper.wp P o a w K Q else E:=by
 refine step_append_lies w pZ s x t ho B T i0 z k bytes ht hi hz xW ik W7 cL v l.length (l.flatMap enc) hs az ⟨g,0,none⟩ 1 1 (enc y) hx (by rw [hk,Nat.one_mul]) (World.news_of_block hy) h1 (by decide) (by unfold maxLen;omega) (Nat.le_trans (Nat.mul_le_mul (show l.length+1<=1001 by omega) Cn) (by decide)) hB w.heap.size rfl ?_;intro g' cap w' xX ow _ _;refine h g' cap w' ?_ (zBr.grown ow hB (fun k hk=>az.block k hk)) (fun j hj aO=>ow.block j hj (fun e=>aO e.symm));unfold bT;rw [zLa,List.flatMap_append];simpa using xX
end
theorem zd4{r:List Int}{a:Nat}{O:List ((Int×Int×Int×Int)×List Int)}(h:rR r≠0):sg r a O=rR r:=by
 unfold rR at h ⊢;unfold sg;by_cases h1:r.length=0
 ·rw [if_pos h1,if_pos h1]
 rw [if_neg h1] at h ⊢;rw [if_neg h1];by_cases h2:dC (r.getD 0 0)=false
 ·rw [if_pos h2,if_pos h2]
 ·rw [if_neg h2] at h;exact absurd rfl h
theorem eY{r:List Int}(h:rR r=0):¬ r.length=0/\¬ dC (r.getD 0 0)=false:=by
 unfold rR at h;by_cases h1:r.length=0
 ·rw [if_pos h1] at h;exact absurd h (by decide)
 rw [if_neg h1] at h;by_cases h2:dC (r.getD 0 0)=false
 ·rw [if_pos h2] at h;exact absurd h (by decide)
 exact⟨h1,h2⟩
section
variable {r:List Int} {a:Nat} {O:List ((Int×Int×Int×Int)×List Int)}
theorem za4(h:rR r=0)(h2:jy O (r.getD 0 0)=true):sg r a O=7:=by unfold sg;rw [if_neg (eY h).1,if_neg (eY h).2,if_pos h2]
theorem zd1(h:rR r=0)(h2:jy O (r.getD 0 0)=false)(h3:r.length<=1):sg r a O=2:=by unfold sg;rw [if_neg (eY h).1,if_neg (eY h).2,if_neg (by rw [h2];simp),if_pos h3]
theorem zd0(h:rR r=0)(h2:jy O (r.getD 0 0)=false)(h3:¬ r.length<=1)(h4:15<r.getD 1 0):sg r a O=1:=by unfold sg;rw [if_neg (eY h).1,if_neg (eY h).2,if_neg (by rw [h2];simp),if_neg h3,if_pos h4]
theorem zd3(h:rR r=0)(h2:jy O (r.getD 0 0)=false)(h3:¬ r.length<=1)(h4:¬ 15<r.getD 1 0)(h5:r.length<4):sg r a O=2:=by unfold sg;rw [if_neg (eY h).1,if_neg (eY h).2,if_neg (by rw [h2];simp),if_neg h3,if_neg h4,if_pos h5]
theorem zd2(h:rR r=0)(h2:jy O (r.getD 0 0)=false)(h4:¬ 15<r.getD 1 0)(h5:¬ r.length<4)(h6:bz r 2 2<1\/1000<bz r 2 2):sg r a O=1:=by unfold sg;rw [if_neg (eY h).1,if_neg (eY h).2,if_neg (by rw [h2];simp),if_neg (by omega),if_neg h4,if_neg h5,if_pos h6]
theorem zd5(h:rR r=0)(h2:jy O (r.getD 0 0)=false)(h4:¬ 15<r.getD 1 0)(h5:¬ r.length<4)(h6:¬ (bz r 2 2<1\/1000<bz r 2 2))(h7:r.length<4+jX r):sg r a O=2:=by unfold sg;rw [if_neg (eY h).1,if_neg (eY h).2,if_neg (by rw [h2];simp),if_neg (by omega),if_neg h4,if_neg h5,if_neg h6,if_pos h7]
theorem zhm(h:rR r=0)(h2:jy O (r.getD 0 0)=false)(h4:¬ 15<r.getD 1 0)(h5:¬ r.length<4)(h6:¬ (bz r 2 2<1\/1000<bz r 2 2))(h7:¬ r.length<4+jX r):sg r a O=if 6400<a+jX r then 4 else 0:=by unfold sg;rw [if_neg (eY h).1,if_neg (eY h).2,if_neg (by rw [h2];simp),if_neg (by omega),if_neg h4,if_neg h5,if_neg h6,if_neg h7]
end
theorem Tm{r:List Int}:bz (r.drop 2) 0 2=bz r 2 2:=by unfold bz;rw [List.drop_zero]
theorem Nq{r:List Int}:(r.drop 1).getD 0 0=r.getD 1 0:=by simp [List.getD]
section
variable {w0 w:World} {p n:Nat} {r:List Int} {O:List ((Int×Int×Int×Int)×List Int)} {R:List (ByteArray×Int)}
theorem Fz(h:Rd w0 w p r n O R)(hb:bj r)(hn:n<=6400)(hO:O.length<=1000) :
  Calls Tryz.prog 169 #[.pointer (some ⟨p,0,none⟩)] w fun e w'=>(sg r n O≠0/\e=Flt (sg r n O)/\Below w0.heap.size w0 w')\/(sg r n O=0/\e=.returned (.tuple #[])/\Rd w0 w' p (r.drop (4+jX r)) (n+jX r) (O++[VU r n]) R):=by
 have H1:=af (uc h hb);have Qx:=af (fun(hx:rR r≠0)=>zd4 (a:=n) (O:=O) hx);have HHA:=af (fun(hx:rR r=0) (h2:jy O (r.getD 0 0)=true)=>za4 (a:=n) hx h2);have HT0:=af (fun(hx:rR r=0) (h2:jy O (r.getD 0 0)=false) h3=>zd1 (a:=n) hx h2 h3);have EG:=af (fun(hx:rR r=0) (h2:jy O (r.getD 0 0)=false) h3 h4=>zd0 (a:=n) hx h2 h3 h4);have HL0:=af (fun(hx:rR r=0) (h2:jy O (r.getD 0 0)=false) h3 h4 h5=>zd3 (a:=n) hx h2 h3 h4 h5);have BY:=af (fun(hx:rR r=0) (h2:jy O (r.getD 0 0)=false) h4 h5 h6=>zd2 (a:=n) hx h2 h4 h5 h6);have iw:=af (fun(hx:rR r=0) (h2:jy O (r.getD 0 0)=false) h4 h5 h6 h7=>zd5 (a:=n) hx h2 h4 h5 h6 h7);have HF:=af (fun(hx:rR r=0) (h2:jy O (r.getD 0 0)=false) h4 h5 h6 h7=>zhm (a:=n) hx h2 h4 h5 h6 h7);have HOX:Hid (VU r n=((r.getD 0 0,(n:Int),bz r 2 2,r.getD 1 0),(r.drop 4).take (jX r))):=af rfl;have HON:Hid (jX r=(bz r 2 2).toNat):=af rfl;have HG1:=af (fun(hx:1<=(r.drop 1).length)=>(AV hx).trans Nq);have HG2:Hid (bz (r.drop 2) 0 2=bz r 2 2):=af Tm;have zjM:=af (hb.getD 1);have HN:=af (fun(x:Int) (b:Bool) (W:World) (hx:b=false)=>rH b x W hx);have HY:=af (fun(x:Int) (b:Bool) (W:World) (hx:b=true)=>nQ b x W hx);generalize sg r n O=X at *;generalize r.getD 0 0=V0 at *;generalize r.getD 1 0=V1 at *;generalize bz r 2 2=V2 at *;generalize VU r n=OX at *;generalize jX r=M at *;clear h hb;go_enter Tryz.func169,Tryz.ntmps169
 go_wp2_with fail
 refine(ae H1).mono ?_;rintro e w1 (⟨hs,rfl,ay⟩ | ⟨⟨hz,hl,hv1,Xc⟩,rfl,sx⟩)
 ·exact⟨rfl,.inl ⟨by rw [ae Qx hs];exact hs,by rw [ae Qx hs];rfl,ay⟩⟩
 have HZ:=af hz;have vG:=af hl;have vp:=af (C7 sx hO V0);clear hz hl sx H1 Qx;go_wp2_with fail
 refine(ae vp).mono ?_;rintro e w2 ⟨rfl,vB⟩;clear vp;cases hq:jy O V0
 case true =>
  have HX:=af (ae HHA (ae HZ) hq);clear hq;go_wp2_with fail
  refine(ae HN _ _ _ (by first | rfl | (simp;done) | (simp;omega))).mono ?_;rintro e w3 ⟨rfl,rfl⟩;exact⟨rfl,.inl ⟨by rw [ae HX];decide,by rw [ae HX];rfl,vB.world⟩⟩
 have HQ:=af hq;have tN:=af (rC vB 1 zNr (by omega));clear hq vB HHA;go_wp2_with fail
 refine(ae HY _ _ _ (by first | rfl | (simp;done) | (simp;omega))).mono ?_;rintro e w3 ⟨rfl,rfl⟩;go_wp2_with fail
 refine(ae tN).mono ?_;clear tN;rintro e w4 (⟨hs,rfl,dO⟩ | ⟨hs,rfl,tF⟩)
 ·have hx:=ae HT0 (ae HZ) (ae HQ) (by rw [zLd] at hs;omega);exact⟨rfl,.inl ⟨by rw [hx];decide,by rw [hx];rfl,dO⟩⟩
 rw [ae HG1 hs];rw [List.drop_drop,show 1+1=2 from rfl] at tF;have kU:¬ r.length<=1:=by rw [zLd] at hs;omega
 have zco:=af kU;have HR4:=af tF;have zmI:=ae zjM;clear hs tF kU HG1 HT0 zjM;by_cases h15:V1<=15
 case neg =>
  have HX:=af (ae EG (ae HZ) (ae HQ) (ae zco) (by omega));go_wp2_with fail
  refine(ae HN _ _ _ (by first | rfl | (simp;done) | (simp;omega))).mono ?_;rintro e w5 ⟨rfl,rfl⟩;exact⟨rfl,.inl ⟨by rw [ae HX];decide,by rw [ae HX];rfl,(ae HR4).world⟩⟩
 have ziP:¬ 15<V1:=by omega
 have H15:=af ziP;have HR5:=af (rC (ae HR4) 2 (by omega) (by omega));clear ziP HR4 EG;go_wp2_with fail
 refine(ae HY _ _ _ (by first | rfl | (simp;done) | (simp;omega))).mono ?_;rintro e w5 ⟨rfl,rfl⟩;go_wp2_with fail
 refine(ae HR5).mono ?_;clear HR5;rintro e w6 (⟨hs,rfl,tK⟩ | ⟨hs,rfl,JE⟩)
 ·have hx:=ae HL0 (ae HZ) (ae HQ) (ae zco) (ae H15) (by have:=ae zco;rw [zLd] at hs;omega);exact⟨rfl,.inl ⟨by rw [hx];decide,by rw [hx];rfl,tK⟩⟩
 rw [ae HG2];rw [List.drop_drop,show 2+2=4 from rfl] at JE;have tI:¬ r.length<4:=by rw [zLd] at hs;omega
 have OA:=af tI;have Zs:=af JE;clear hs JE tI HG2 HL0;by_cases zmm:1<=V2
 case neg =>
  have HX:=af (ae BY (ae HZ) (ae HQ) (ae H15) (ae OA) (.inl (by omega)));go_wp2_with fail
  refine(ae HN _ _ _ (by first | rfl | (simp;done) | (simp;omega))).mono ?_;rintro e w7 ⟨rfl,rfl⟩;exact⟨rfl,.inl ⟨by rw [ae HX];decide,by rw [ae HX];rfl,(ae Zs).world⟩⟩
 by_cases zml:V2<=1000
 case neg =>
  have HX:=af (ae BY (ae HZ) (ae HQ) (ae H15) (ae OA) (.inr (by omega)));go_wp2_with fail
  refine(ae HN _ _ _ (by first | rfl | (simp;done) | (simp;omega))).mono ?_;rintro e w7 ⟨rfl,rfl⟩;exact⟨rfl,.inl ⟨by rw [ae HX];decide,by rw [ae HX];rfl,(ae Zs).world⟩⟩
 have hV2:V2=(M:Int):=by have:=ae HON;omega
 subst hV2;have zhF:¬ ((M:Int)<1\/1000<(M:Int)):=by omega
 have HV2:=af zhF;clear zhF BY HON;go_wp2_with fail
 refine(ae HY _ _ _ (by first | rfl | (simp;done) | (simp;omega))).mono ?_;rintro e w7 ⟨rfl,rfl⟩;by_cases hm:M<=(r.drop 4).length
 case neg =>
  have HX:=af (ae iw (ae HZ) (ae HQ) (ae H15) (ae OA) (ae HV2) (by have:=ae OA;rw [zLd] at hm;omega));have HR7:=af (rB (ae Zs) M (by omega));clear hm Zs;go_wp2_with fail
  refine(ae HR7).mono ?_;rintro e w8 ⟨rfl,SZ⟩;exact⟨rfl,.inl ⟨by rw [ae HX];decide,by rw [ae HX];rfl,SZ⟩⟩
 have tH:¬ r.length<4+M:=by have:=ae OA;rw [zLd] at hm;omega
 have HXF:=af (ae HF (ae HZ) (ae HQ) (ae H15) (ae OA) (ae HV2) tH);have HR7:=af (oY (ae Zs) M hm);have iq:((r.drop 4).take M).length=M:=by rw [zLt];omega
 have vr:=af iq;clear hm tH iq Zs HF iw HZ HQ H15 OA HV2 vG zco;go_wp2_with fail
 refine(ae HR7).mono ?_;clear HR7;rintro e w8 ⟨a8,c8,rfl,SZ,hr8⟩;rw [List.drop_drop] at hr8;generalize (r.drop 4).take M=BD at *;generalize hRD:r.drop (4+M)=RD at hr8;have xx:Hid (r.drop (4+M)=RD):=af hRD;clear hRD;obtain⟨ar,cr,vO,vR,os,hv,qe⟩:=hr8;have La:=af qe;have Cg:os.length<=1000:=by rw [<- qe,zLm] at hO;exact hO
 obtain⟨q0,q1,q2,q3⟩:=hv.cells;have HV:=af hv;have HB8:=af SZ;clear hv SZ qe hO q0 q3;by_cases hf:n+M<=6400
 case neg =>
  have hx:=ae HXF;rw [if_pos (by omega)] at hx;have HX:=af hx;have SJ:decide ((M:Int)<=6400-(n:Int))=false:=decide_eq_false (by omega);clear hx HXF q2;go_wp2_with fail
  refine(ae HN _ _ _ (by first | rfl | exact SJ | (simp;done) | (simp;omega))).mono ?_;rintro e w9 ⟨rfl,rfl⟩;exact⟨rfl,.inl ⟨by rw [ae HX];decide,by rw [ae HX];rfl,(ae HV).world⟩⟩
 have hx:=ae HXF;rw [if_neg (by omega)] at hx;have HX:=af hx;have SJ:decide ((M:Int)<=6400-(n:Int))=true:=decide_eq_true (by omega);clear hx HXF;go_wp2_with fail
 refine(ae HY _ _ _ (by first | rfl | exact SJ | (simp;done) | (simp;omega))).mono ?_;rintro e w9 ⟨rfl,rfl⟩;have Ef:Below w8.heap.size w8 (w8.alloc (.cells #[.int .i64 n,.int .i64 M] 123)):=zBr.alloc zNr _;have hv9:=(ae HV).below Ef;obtain⟨s0,s1,s2,s3⟩:=hv9.cells;have f2:=hv9.frozen 2;have fc:=heap_alloc_new w8 (.cells #[.int .i64 n,.int .i64 M] 123);have t0:(w8.alloc (.cells #[.int .i64 n,.int .i64 M] 123)).cell? ⟨w8.heap.size,0,none⟩=some (.int .i64 n):=by rw [cell_of_row _ _ _ _ _ _ fc];rfl
 have t1:(w8.alloc (.cells #[.int .i64 n,.int .i64 M] 123)).cell? ⟨w8.heap.size,1,none⟩=some (.int .i64 M):=by rw [cell_of_row _ _ _ _ _ _ fc];rfl
 have h9s:w8.heap.size<(w8.alloc (.cells #[.int .i64 n,.int .i64 M] 123)).heap.size:=by simp
 clear s0 s3 fc Ef q2 HV;obtain⟨i0,eP,cY,dw,dz⟩:=info_parts Px;go_wp2_with fail
 clear q1;generalize w8.alloc (.cells #[.int .i64 n,.int .i64 M] 123)=w9 at *;have hd9:Below w9.heap.size w9 w9.drew:=bq zBr;have ha9:Below w9.drew.heap.size w9.drew (w9.drew.alloc (.cells #[.int .i64 V0,.int .i64 n,.int .i64 M,.int .i64 V1,.slice a8 M c8] 171)):=zBr.alloc zNr _;have hvA:=(hv9.below hd9).below ha9;have nB:=af hvA.2.2.2.1;have zhU:=hvA.lt;have zmf:=hv9.lt;have jK:Hid ((w9.drew.alloc (.cells #[.int .i64 V0,.int .i64 n,.int .i64 M,.int .i64 V1,.slice a8 M c8] 171)).heap[w9.heap.size]?=some (.cells (IY ((V0,(n:Int),(M:Int),V1),a8,c8,BD)).toArray 171 (0,0))):=af (by unfold IY;dsimp only;rw [ae vr];exact heap_alloc_new w9.drew _);have HVA:=af hvA;clear hv9 hd9 ha9 hvA;go_region_law (refine pL (by rfl) (.tmp 49) (.tmp 56) 88 (by rfl) (p+1) i0 (.agg #[.int .i64 0,.int .i64 0,.int .i64 0,.int .i64 0,.slice none 0 0]) 56 Tryz.underlying88 eP cY dw dz rfl (by decide) (by decide) _ os (by rfl) (ae nB) w9.heap.size ((V0,(n:Int),(M:Int),V1),a8,c8,BD) (by rfl) (ae jK) rfl (Pe _) Cg (by first | exact zhU | (simp;omega)) ?_;intro g10 c10 w10 Gh wN Ng;have PR:=(wN.block p (Nat.lt_succ_self _)).trans (ae HVA).2.1;have ziu:w10.cell? ⟨p,2,none⟩=some vO:=(by rw [cell_of_row _ _ _ _ _ _ PR];rfl);have zii:=frozen_of_row _ _ 2 _ _ PR;have hvB:=(ae HVA).object (ae HB8) Gh wN Ng)
 all_goals
  obtain⟨s10,s11,s12,s13⟩:=hvB.cells;have f11:=hvB.frozen 1;have Gd:=hvB.place (n+M);rw [Int.natCast_add] at Gd;have KU:=af Gd;have zlS:Hid ((os++[((V0,(n:Int),(M:Int),V1),a8,c8,BD)]).map jL=O++[OX]):=af (by rw [List.map_append,ae La,ae HOX];rfl);clear hvB Gd Gh wN Ng PR ziu zii s10 s12 s13 s1 s2 t0 t1 f2 HVA jK nB;generalize w10.setCell ⟨p,2,none⟩ (.slice (some ⟨g10,0,none⟩) (os.length+1) c10)=w11 at *;go_wp2
  go_end0
  exact .inr ⟨ae HX,rfl,by rw [ae xx];exact⟨_,_,_,_,_,ae KU,ae zlS⟩⟩
end
def pW(L:List Int)(E:List (Int×Int×Int×Int)):List ((Int×Int×Int×Int)×List Int):=E.map (fun e=>(e,cP L e.2.1 e.2.2.1))
theorem RC{L:List Int}{E:List (Int×Int×Int×Int)}{k:Nat}{e:(Int×Int×Int×Int)}(h:E[k]?=some e):pW L (E.take (k+1))=pW L (E.take k)++[(e,cP L e.2.1 e.2.2.1)]:=by unfold pW;rw [l8 h,List.map_append];rfl
theorem B7(a:Option Addr)(cap:Nat)(L:List Int)(w:World)(aX:Bs w a cap L)(hf:aB L) :
  Calls Tryz.prog 42 #[.slice a L.length cap] w fun e w'=>∃ v os,e=.returned (.tuple #[v,.nilIface])/\bT IY 5 171 w' w.heap.size v os/\os.map jL=pW L (entsK L 40)/\(∀ o∈os,Bs w o.2.1 o.2.2.1 o.2.2.2)/\Below w.heap.size w w':=by
 obtain⟨i0,eP,cY,dw,dz⟩:=info_parts Px;have HE:=af (St a cap L w aX);have hlen:=hf.len;have e1:wv L.length=0:=by unfold wv;rw [if_pos hf.cW]
 have e2:yN L=entsK L 40:=by unfold yN;rw [if_pos hf.cW]
 rw [e1,e2,show aR 0=.nilIface from rfl] at HE;have iq:=aX.2.2.1;have HIN:=af (fun e he=>cR hf (x:=e) he);have SR:=b8 L 40;have nC:=af aX;clear aX hf e1 e2;generalize entsK L 40=E at *;go_enter Tryz.func42,Tryz.ntmps42
 go_wp2_with fail
 refine(ae HE).mono ?_;rintro e w1 ⟨v1,rfl,cz,ay⟩;obtain⟨a1,c1,rfl,dL⟩:=cz.kk iI (by omega);have HS:=af dL;have aL:=af ay;have HES:Hid (pW L (E.take E.length)=pW L E):=af (by rw [List.take_length]);clear cz dL ay HE;go_wp2_with fail
 go_loopw [6,19] (fun v iv wr=>∃ (k:Nat) (os:List ((Int×Int×Int×Int)×Option Addr×Nat×List Int)),k<=E.length/\iv=.int .i64 k/\bT IY 5 171 wr w1.heap.size v os/\os.map jL=pW L (E.take k)/\(∀ o∈os,Bs w o.2.1 o.2.2.1 o.2.2.2)/\Below w1.heap.size w1 wr) (fun _ iv _=>E.length-(intOf iv).toNat)
 case atStart=>exact⟨0,[],Nat.zero_le _,rfl,bT.nil _ _,rfl,fun o ho=>(by cases ho),zBr⟩
 case round =>
  obtain⟨k,os,hk,rfl,az,qe,uS,ao⟩:=hrel;obtain⟨va,vm,vc,rfl⟩:=az.shape;by_cases aM:k<E.length
  ·have aO:E≠[]:=by intro e;rw [e] at aM;simp at aM
   obtain⟨b1,o1,rfl,dR⟩:=((ae HS).below ao).2.2.2 aO;obtain⟨f,hf⟩:∃ f,E[k]?=some f:=⟨E[k],zLg aM⟩;obtain⟨q0,q1,q2,q3⟩:=fG.jB (cap:=0) dR hf;obtain⟨ee,r1,r2,rt,r3,r4,r5,r6⟩:=ae HIN f (List.mem_of_getElem? hf);have iB:=RC (L:=L) hf;rw [<- qe] at iB;have Cg:os.length<=40:=by have:=congrArg List.length qe;rw [zLm] at this;rw [this];unfold pW;rw [zLm,zLt];omega
   obtain⟨h,x,l,t⟩:=f;dsimp only at q0 q1 q2 q3 r1 r2 r3 r4 r5 r6 iB;obtain⟨X,rfl⟩:=Int.eq_ofNat_of_zero_le (show 0<=x by omega);obtain⟨N,rfl⟩:=Int.eq_ofNat_of_zero_le (show 0<=l by omega);have zix:=ae nC;obtain⟨a2,gM,aK⟩:=db (P:=Tryz.prog) (t:=30) zu30 aN zix X (by omega);have K5:(L.drop X).length=L.length-X:=zLd;obtain⟨a3,oq,bR⟩:=jm (P:=Tryz.prog) (t:=30) zu30 aN aK N (by omega);rw [K5] at oq;have sE:((L.drop X).take N).length=N:=by rw [zLt];omega
   have pM:cP L (X:Int) (N:Int)=(L.drop X).take N:=by unfold cP;rw [zTn,zTn]
   rw [pM] at iB;generalize (L.drop X).take N=BD at *;have mI:Below wr.heap.size wr (wr.alloc (.cells #[.int .i64 h,.int .i64 X,.int .i64 N,.int .i64 t] 125)):=zBr.alloc zNr _;have fc:=heap_alloc_new wr (.cells #[.int .i64 h,.int .i64 X,.int .i64 N,.int .i64 t] 125);have t0:(wr.alloc (.cells #[.int .i64 h,.int .i64 X,.int .i64 N,.int .i64 t] 125)).cell? ⟨wr.heap.size,0,none⟩=some (.int .i64 h):=by rw [cell_of_row _ _ _ _ _ _ fc];rfl
   have t1:(wr.alloc (.cells #[.int .i64 h,.int .i64 X,.int .i64 N,.int .i64 t] 125)).cell? ⟨wr.heap.size,1,none⟩=some (.int .i64 X):=by rw [cell_of_row _ _ _ _ _ _ fc];rfl
   have t2:(wr.alloc (.cells #[.int .i64 h,.int .i64 X,.int .i64 N,.int .i64 t] 125)).cell? ⟨wr.heap.size,2,none⟩=some (.int .i64 N):=by rw [cell_of_row _ _ _ _ _ _ fc];rfl
   have t3:(wr.alloc (.cells #[.int .i64 h,.int .i64 X,.int .i64 N,.int .i64 t] 125)).cell? ⟨wr.heap.size,3,none⟩=some (.int .i64 t):=by rw [cell_of_row _ _ _ _ _ _ fc];rfl
   have aZ:=az.below mI;have jI:=af (ao.trans (mI.mono ao.size));have cL:=ao.size;have HBD:=af sE;have cT:=af bR;have Lc:=af iB;have OG:=af uS;have hws:w1.heap.size<=(wr.alloc (.cells #[.int .i64 h,.int .i64 X,.int .i64 N,.int .i64 t] 125)).heap.size:=by simp;omega
   clear dR hf aO ao az ee rt aK bR sE pM K5 iB uS zix fc mI qe;go_wp2_with fail
   generalize wr.alloc (.cells #[.int .i64 h,.int .i64 X,.int .i64 N,.int .i64 t] 125)=w9 at *;have hd9:Below w9.heap.size w9 w9.drew:=bq zBr;have ha9:Below w9.drew.heap.size w9.drew (w9.drew.alloc (.cells #[.int .i64 h,.int .i64 X,.int .i64 N,.int .i64 t,.slice a3 N (cap-X)] 171)):=zBr.alloc zNr _;have nB:=af ((aZ.below hd9).below ha9);have sl:=af ((ae jI).trans ((hd9.trans (ha9.mono hd9.size)).mono (ae jI).size));have jK:Hid ((w9.drew.alloc (.cells #[.int .i64 h,.int .i64 X,.int .i64 N,.int .i64 t,.slice a3 N (cap-X)] 171)).heap[w9.heap.size]?=some (.cells (IY ((h,(X:Int),(N:Int),t),a3,cap-X,BD)).toArray 171 (0,0))):=af (by unfold IY;dsimp only;rw [ae HBD];exact heap_alloc_new w9.drew _);clear hd9 ha9 aZ q0 q1 q2 q3 jI;go_region_law (refine pL (by rfl) (.tmp 23) (.tmp 35) 88 (by rfl) w1.heap.size i0 (.agg #[.int .i64 0,.int .i64 0,.int .i64 0,.int .i64 0,.slice none 0 0]) 56 Tryz.underlying88 eP cY dw dz rfl (by decide) (by decide) _ os (by rfl) (ae nB) w9.heap.size ((h,(X:Int),(N:Int),t),a3,cap-X,BD) (by rfl) (ae jK) rfl (Pe _) (by omega) (by first | omega | (simp;omega)) ?_;intro g10 c10 w10 Gh wN Ng)
   all_goals
    have zlU:=af Gh;have kz:=af ((ae sl).trans wN);clear Gh wN Ng nB jK t0 t1 t2 t3;go_wp2;go_roundw
    case rel =>
     refine⟨k+1,_,by omega,by go_num,ae zlU,?_,fun o ho=>?_,ae kz⟩
     ·rw [ae Lc,List.map_append];rfl
     ·rcases zMa ho with ho | ho
      ·exact ae OG o ho
      ·rw [zMs ho];exact ae cT
    case measure=>simp [intOf];omega
  ·obtain rfl:k=E.length:=by omega
   rw [ae HES] at qe;have HO:=af (az.zee (ae aL).size);have HB:=zTr aL ao;have La:=af qe;have OG:=af uS;clear az ao qe uS;go_wp2;go_ret2;exact⟨_,os,rfl,ae HO,ae La,ae OG,ae HB⟩
section
variable {r:List Int} {O:List ((Int×Int×Int×Int)×List Int)} {R:List (ByteArray×Int)}
theorem zha(h:r.length<8):yB r O R=2:=by unfold yB;rw [if_pos h]
theorem zg9(h:¬ r.length<8)(h2:(aT (r.take 8)).2≠0):yB r O R=2:=by unfold yB;rw [if_neg h,if_pos h2]
theorem zhb(h:¬ r.length<8)(h2:(aT (r.take 8)).2=0)(h3:yK R (aT (r.take 8)).1=true):yB r O R=7:=by unfold yB;rw [if_neg h,if_neg (fun hx=>hx h2),if_pos h3]
theorem tq:(r.drop 8).getD 0 0=r.getD 8 0:=by simp [List.getD]
theorem zdI(h:¬ r.length<8)(h2:(aT (r.take 8)).2=0)(h3:yK R (aT (r.take 8)).1=false)(h4:rR (r.drop 8)≠0):yB r O R=rR (r.drop 8):=by
 unfold yB;rw [if_neg h,if_neg (fun hx=>hx h2),if_neg (by rw [h3];simp)];unfold rR at h4 ⊢;rw [tq] at h4 ⊢;by_cases h5:r.length<9
 ·rw [if_pos h5,if_pos (by rw [zLd];omega)]
 rw [if_neg h5];have h6:¬ (r.drop 8).length=0:=by rw [zLd];omega
 rw [if_neg h6] at h4 ⊢;by_cases h7:dC (r.getD 8 0)=false
 ·rw [if_pos h7,if_pos h7]
 ·rw [if_neg h7] at h4;exact absurd rfl h4
theorem zdH(h:¬ r.length<8)(h2:(aT (r.take 8)).2=0)(h3:yK R (aT (r.take 8)).1=false)(h4:rR (r.drop 8)=0):yB r O R=if jy O (r.getD 8 0)=false then 5 else 0:=by obtain⟨h5,h6⟩:=eY h4;rw [tq] at h6;unfold yB;rw [if_neg h,if_neg (fun hx=>hx h2),if_neg (by rw [h3];simp),if_neg (by rw [zLd] at h5;omega),if_neg h6]
end
section
variable {w0 w:World} {p n:Nat} {r:List Int} {O:List ((Int×Int×Int×Int)×List Int)} {R:List (ByteArray×Int)}
theorem L5(h:Rd w0 w p r n O R)(hb:bj r)(hO:O.length<=1000)(hR:R.length<=1000) :
  Calls Tryz.prog 170 #[.pointer (some ⟨p,0,none⟩)] w fun e w'=>(yB r O R≠0/\e=Flt (yB r O R)/\Below w0.heap.size w0 w')\/(yB r O R=0/\e=.returned (.tuple #[])/\Rd w0 w' p (r.drop 9) n O (R++[((aT (r.take 8)).1,r.getD 8 0)])):=by
 have HL0:=af (fun hx=>zha (r:=r) (O:=O) (R:=R) hx);have HN0:=af (fun hx h2=>zg9 (r:=r) (O:=O) (R:=R) hx h2);have HH0:=af (fun hx h2 h3=>zhb (r:=r) (O:=O) (R:=R) hx h2 h3);have Qx:=af (fun hx h2 h3 h4=>zdI (r:=r) (O:=O) (R:=R) hx h2 h3 h4);have BW:=af (fun hx h2 h3 h4=>zdH (r:=r) (O:=O) (R:=R) hx h2 h3 h4);have HG8:Hid ((r.drop 8).getD 0 0=r.getD 8 0):=af tq;have HB8:Hid (bj (r.drop 8)):=af (fun z hz=>hb z (List.mem_of_mem_drop hz));have HN:=af (fun(x:Int) (b:Bool) (W:World) (hx:b=false)=>rH b x W hx);have HY:=af (fun(x:Int) (b:Bool) (W:World) (hx:b=true)=>nQ b x W hx);have jK:=af (fun(W:World) (a':Option Addr) (c':Nat) (hx:Bs W a' c' (r.take 8))=>qS a' c' (r.take 8) W hx);have HTY:=af (fun hx=>oY h 8 hx);have Uw:=af (fun hx=>rB h 8 hx);generalize yB r O R=X at *;generalize r.getD 8 0=V at *;have PI:¬ r.length<8->(r.take 8).length=8:=fun hx=>by rw [zLt];omega
 have HL8:=af PI;clear h hb PI;by_cases h8:r.length<8
 ·have hx:=ae HL0 h8;have HX:=af hx;have HC:=af (ae Uw h8);clear hx h8;go_enter Tryz.func170,Tryz.ntmps170
  go_wp2_with fail
  refine(ae HC).mono ?_;rintro e w1 ⟨rfl,ay⟩;exact⟨rfl,.inl ⟨by rw [ae HX];decide,by rw [ae HX];rfl,ay⟩⟩
 have H8:=af h8;have HC:=af (ae HTY (by omega));have hl:=ae HL8 h8;rw [hl] at jK;clear h8 hl HTY Uw HL0 HL8;generalize (aT (r.take 8)).1=S at *;generalize (aT (r.take 8)).2=E at *;go_enter Tryz.func170,Tryz.ntmps170
 go_wp2_with fail
 refine(ae HC).mono ?_;rintro e w1 ⟨a1,c1,rfl,ay,sx⟩;have mC:=af (ae jK w1 a1 c1 (ay.below sx.world));have vp:=af sx;clear HC jK ay sx;go_wp2_with fail
 refine(ae mC).mono ?_;rintro e w2 ⟨rfl,aK⟩;have tN:=af ((ae vp).below aK);clear aK vp mC;by_cases hE:E=0
 case neg =>
  have HX:=af (ae HN0 (ae H8) hE);rw [aC E hE];go_wp2_with fail
  refine(ae HN _ _ _ (by first | rfl | (simp;done) | (simp;omega))).mono ?_;rintro e w3 ⟨rfl,rfl⟩;exact⟨rfl,.inl ⟨by rw [ae HX];decide,by rw [ae HX];rfl,(ae tN).world⟩⟩
 subst hE;rw [show aR 0=.nilIface from rfl];have vH:=af (IG (ae tN) hR S);clear HN0 tN;go_wp2_with fail
 refine(ae HY _ _ _ (by first | rfl | (simp;done) | (simp;omega))).mono ?_;rintro e w3 ⟨rfl,rfl⟩;go_wp2_with fail
 refine(ae vH).mono ?_;rintro e w4 ⟨rfl,tF⟩;clear vH;cases hq:yK R S
 case true =>
  have HX:=af (ae HH0 (ae H8) (by first | rfl | trivial) hq);clear hq;go_wp2_with fail
  refine(ae HN _ _ _ (by first | rfl | (simp;done) | (simp;omega))).mono ?_;rintro e w5 ⟨rfl,rfl⟩;exact⟨rfl,.inl ⟨by rw [ae HX];decide,by rw [ae HX];rfl,tF.world⟩⟩
 have HQ:=af hq;have HC4:=af (uc tF (ae HB8));rw [ae HG8] at HC4;clear hq tF HH0 HB8;go_wp2_with fail
 refine(ae HY _ _ _ (by first | rfl | (simp;done) | (simp;omega))).mono ?_;rintro e w5 ⟨rfl,rfl⟩;go_wp2_with fail
 refine(ae HC4).mono ?_;clear HC4;rintro e w6 (⟨hs,rfl,tK⟩ | ⟨⟨hz,hl,hv1,Xc⟩,rfl,JE⟩)
 ·have hx:=ae Qx (ae H8) (by first | rfl | trivial) (ae HQ) hs;exact⟨rfl,.inl ⟨by rw [hx];exact hs,by rw [hx];rfl,tK⟩⟩
 have HXF:=af (ae BW (ae H8) (by first | rfl | trivial) (ae HQ) hz);rw [List.drop_drop,show 8+1=9 from rfl] at JE;have HC6:=af (C7 JE hO V);clear hz hl JE Qx BW HQ HG8 H8;go_wp2_with fail
 refine(ae HC6).mono ?_;rintro e w7 ⟨rfl,hr7⟩;clear HC6;cases hq:jy O V
 case false =>
  have hx:=ae HXF;rw [if_pos hq] at hx;have HX:=af hx;clear hq hx;go_wp2_with fail
  refine(ae HN _ _ _ (by first | rfl | (simp;done) | (simp;omega))).mono ?_;rintro e w8 ⟨rfl,rfl⟩;exact⟨rfl,.inl ⟨by rw [ae HX];decide,by rw [ae HX];rfl,hr7.world⟩⟩
 have hx:=ae HXF;rw [if_neg (by rw [hq];simp)] at hx;have HX:=af hx;obtain⟨ar,cr,vO,vR,os,hv,qe⟩:=hr7;have La:=af qe;obtain⟨q0,q1,q2,q3⟩:=hv.cells;have hf3:=hv.frozen 3;have zhU:=hv.lt;have Ef:Below w7.heap.size w7 (w7.alloc (.cells #[.string S,.int .i64 V] 152)):=zBr.alloc zNr _;have hv9:=hv.below Ef;have pS:=af hv9.2.2.2.2.2.1;have HV9:=af hv9;have ji:Hid ((w7.alloc (.cells #[.string S,.int .i64 V] 152)).heap[w7.heap.size]?=some (.cells (yC (S,V)).toArray 152 (0,0))):=af (heap_alloc_new w7 _);obtain⟨i0,eP,cY,dw,dz⟩:=info_parts DM;clear hq hx qe HXF q0 q1 q2 hv Ef hv9;go_wp2_with fail
 refine(ae HY _ _ _ (by first | rfl | (simp;done) | (simp;omega))).mono ?_;rintro e w8 ⟨rfl,rfl⟩;go_wp2_with (at_builtin;refine gj rfl _ _ 91 rfl (p+1) i0 (.agg #[.string ByteArray.empty,.int .i64 0]) 24 Tryz.underlying91 eP cY dw dz rfl (by decide) (by decide) _ R rfl (ae pS) w7.heap.size (S,V) rfl (ae ji) rfl (O4 _) hR (by simp;omega) ?_;intro v10 w10 Gh wN Ng;obtain⟨va10,vm10,vc10,rfl⟩:=Gh.shape;have PR:=(wN.block p (Nat.lt_succ_self _)).trans (ae HV9).2.1;have ziu:w10.cell? ⟨p,3,none⟩=some vR:=(by rw [cell_of_row _ _ _ _ _ _ PR];rfl);have zii:=frozen_of_row _ _ 3 _ _ PR;have HVB:=af ((ae HV9).root Gh wN Ng);clear Gh wN Ng PR)
 go_end0
 exact .inr ⟨ae HX,rfl,⟨_,_,_,_,_,ae HVB,ae La⟩⟩
end
section
variable {b r:List Int} {a:Nat} {O:List ((Int×Int×Int×Int)×List Int)} {R:List (ByteArray×Int)}
theorem VW(k:Nat)(h:sg r a O≠0):obK (k+1) r a O=(sg r a O,[],0,[]):=by
 show(if sg r a O≠0 then _ else _)=_
 rw [if_pos h]
theorem zdZ(k:Nat)(h:sg r a O=0):obK (k+1) r a O=obK k (r.drop (4+jX r)) (a+jX r) (O++[VU r a]):=by
 show(if sg r a O≠0 then _ else _)=_
 rw [if_neg (fun hx=>hx h)]
theorem Vo(k:Nat)(h:yB r O R≠0):roK (k+1) r O R=(yB r O R,[],[]):=by
 show(if yB r O R≠0 then _ else _)=_
 rw [if_pos h]
theorem zdG(k:Nat)(h:yB r O R=0):roK (k+1) r O R=roK k (r.drop 9) O (R++[((aT (r.take 8)).1,r.getD 8 0)]):=by
 show(if yB r O R≠0 then _ else _)=_
 rw [if_neg (fun hx=>hx h)]
theorem VZ(h:sg r a O=0):a+jX r<=6400:=by
 by_cases hx:a+jX r<=6400
 ·exact hx
 ·unfold sg at h;rw [if_pos (show 6400<a+jX r by omega)] at h
  repeat' split at h
  all_goals exact absurd h (by decide)
theorem UQ(h:Ck b=false):mN b=(2,[],[]):=by unfold mN;rw [if_pos h]
theorem zgI(h:Ck b=true)(h2:b.length<5\/40<b.getD 4 0):mN b=(2,[],[]):=by unfold mN;rw [if_neg (by rw [h];simp),if_pos h2]
theorem zgH(h:Ck b=true)(h2:¬ (b.length<5\/40<b.getD 4 0))(h3:(qq b).1≠0):mN b=((qq b).1,[],[]):=by unfold mN;rw [if_neg (by rw [h];simp),if_neg h2,if_pos h3]
theorem zgJ(h:Ck b=true)(h2:¬ (b.length<5\/40<b.getD 4 0))(h3:(qq b).1=0)(h4:(qq b).2.1.length=0\/8<(qq b).2.1.getD 0 0):mN b=(2,[],[]):=by unfold mN;rw [if_neg (by rw [h];simp),if_neg h2,if_neg (fun hx=>hx h3),if_pos h4]
theorem zgG(h:Ck b=true)(h2:¬ (b.length<5\/40<b.getD 4 0))(h3:(qq b).1=0)(h4:¬ ((qq b).2.1.length=0\/8<(qq b).2.1.getD 0 0))(h5:(Lp (qq b)).1≠0):mN b=((Lp (qq b)).1,[],[]):=by unfold mN;rw [if_neg (by rw [h];simp),if_neg h2,if_neg (fun hx=>hx h3),if_neg h4,if_pos h5]
theorem zgK(h:Ck b=true)(h2:¬ (b.length<5\/40<b.getD 4 0))(h3:(qq b).1=0)(h4:¬ ((qq b).2.1.length=0\/8<(qq b).2.1.getD 0 0))(h5:(Lp (qq b)).1=0)(h6:(Lp (qq b)).2.1≠[]):mN b=(2,[],[]):=by unfold mN;rw [if_neg (by rw [h];simp),if_neg h2,if_neg (fun hx=>hx h3),if_neg h4,if_neg (fun hx=>hx h5),if_pos h6]
theorem zdp(h:Ck b=true)(h2:¬ (b.length<5\/40<b.getD 4 0))(h3:(qq b).1=0)(h4:¬ ((qq b).2.1.length=0\/8<(qq b).2.1.getD 0 0))(h5:(Lp (qq b)).1=0)(h6:(Lp (qq b)).2.1=[]):mN b=(0,(qq b).2.2.2,(Lp (qq b)).2.2):=by unfold mN;rw [if_neg (by rw [h];simp),if_neg h2,if_neg (fun hx=>hx h3),if_neg h4,if_neg (fun hx=>hx h5),if_neg (fun hx=>hx h6)]
theorem zbJ(h:b.length<4):Ck b=false:=by unfold Ck;rw [decide_eq_false (by omega)];rfl
theorem XP(h:4<=b.length):Ck b=decide (b.take 4=[79,76,68,49]):=by
 match b,h with
 | x0 :: x1 :: x2 :: x3 :: l,_ =>
  show(decide (4<=(x0 :: x1 :: x2 :: x3 :: l).length) && (decide (x0=79) && (decide (x1=76) && (decide (x2=68) && decide (x3=49)))))=decide ([x0,x1,x2,x3]=[79,76,68,49])
  rw [decide_eq_true (by simp),Bool.true_and];by_cases h0:x0=79 <;> by_cases h1:x1=76 <;> by_cases h2:x2=68 <;> by_cases h3:x3=49 <;> simp [h0,h1,h2,h3]
theorem Hu:gQ { data:=#[79,76,68,49]}=[79,76,68,49]:=by decide
theorem zaq:({ data:=#[79,76,68,49]}:ByteArray).toList=[79,76,68,49]:=by rw [ByteArray.toList_eq]
theorem zbI(h:4<=b.length)(hb:bj b):((strOf (b.take 4)).toList == [79,76,68,49])=Ck b:=by
 rw [XP h,<- zaq];by_cases e:b.take 4=[79,76,68,49]
 ·rw [decide_eq_true e];refine tR.2 ?_;rw [e,<- Hu,zC]
 ·rw [decide_eq_false e];refine Lv (fun hx=>e ?_);rw [<- iK (b.take 4) (fun z hz=>hb z (List.mem_of_mem_take hz)),hx,Hu]
end
section
variable {w0 w:World} {p:Nat} {b:List Int}
theorem Rp(h:Rd w0 w p b 288 [] [])(hb:bj b) :
  Calls Tryz.prog 104 #[.pointer (some ⟨p,0,none⟩)] w fun e w'=>((mN b).1≠0/\e=Flt (mN b).1/\Below w0.heap.size w0 w')\/((mN b).1=0/\e=.returned (.tuple #[])/\∃ r n,Rd w0 w' p r n (mN b).2.1 (mN b).2.2):=by
 have HN:=af (fun(x:Int) (b:Bool) (W:World) (hx:b=false)=>rH b x W hx);have HY:=af (fun(x:Int) (b:Bool) (W:World) (hx:b=true)=>nQ b x W hx);by_cases h4:4<=b.length
 case neg =>
  have HX:=af (UQ (zbJ (b:=b) (by omega)));have HC:=af (rB h 4 (by omega));clear h hb h4;generalize mN b=X at *;go_enter Tryz.func104,Tryz.ntmps104
  go_wp2_with fail
  refine(ae HC).mono ?_;rintro e w1 ⟨rfl,ay⟩;exact⟨rfl,.inl ⟨by rw [ae HX];decide,by rw [ae HX];rfl,ay⟩⟩
 have HC:=af (oY h 4 h4);have Uz:=af (zbI h4 hb);have ic:=af hb;have HCV:=af (fun(W:World) (a':Option Addr) (c':Nat) (hx:Bs W a' c' (b.take 4))=>fU (P:=Tryz.prog) zu30 zu5 zu9 hx);have tI:(b.take 4).length=4:=by rw [zLt];omega
 rw [tI] at HCV;generalize strOf (b.take 4)=S4 at *;clear h hb tI;go_enter Tryz.func104,Tryz.ntmps104
 go_wp2_with fail
 refine(ae HC).mono ?_;rintro e w1 ⟨a1,c1,rfl,ay,sx⟩;have hcv:=ae HCV w1 a1 c1 (ay.below sx.world);have vp:=af sx;clear ay sx HC HCV;have heq:=ae Uz;cases hHD:Ck b
 case false =>
  rw [hHD] at heq;have HX:=af (UQ hHD);clear hHD Uz;go_wp2_with fail
  refine(ae HN _ _ _ (by first | exact heq | rfl | (simp;done))).mono ?_;rintro e w2 ⟨rfl,rfl⟩;exact⟨rfl,.inl ⟨by rw [ae HX];decide,by rw [ae HX];rfl,(ae vp).world⟩⟩
 rw [hHD] at heq;have Qx:=af hHD;have ez:Hid (bj (b.drop 4)):=af (fun z hz=>ae ic z (List.mem_of_mem_drop hz));have mC:=af (xO (ae vp) (ae ez) 40 (by omega));have pZ:(b.drop 4).getD 0 0=b.getD 4 0:=by simp [List.getD]
 rw [pZ] at mC;have sE:=(ae ic).getD 4;clear hHD Uz vp pZ;go_wp2_with fail
 refine(ae HY _ _ _ (by first | exact heq | rfl | (simp;done))).mono ?_;rintro e w2 ⟨rfl,rfl⟩;clear heq hcv;go_wp2_with fail
 refine(ae mC).mono ?_;clear mC;rintro e w3 (⟨hs,rfl,bR⟩ | ⟨⟨hs,h40⟩,rfl,hr3⟩)
 ·have hx:=zgI (ae Qx) (by rw [zLd] at hs;omega);exact⟨rfl,.inl ⟨by rw [hx];decide,by rw [hx];rfl,bR⟩⟩
 have hn:¬ (b.length<5\/40<b.getD 4 0):=by rw [zLd] at hs;omega
 have G0:=af hn;rw [List.drop_drop,show 4+1=5 from rfl] at hr3;have HR3:=af hr3;have HUB:Hid (obK (b.getD 4 0).toNat (b.drop 5) 288 []=qq b):=af rfl;have zlZ:Hid (bj (b.drop 5)):=af (fun z hz=>ae ic z (List.mem_of_mem_drop hz));obtain⟨N,hN⟩:=Int.eq_ofNat_of_zero_le sE.1;have zmN:N<=40:=by omega
 rw [hN,zTn] at HUB;rw [hN];have HXO:=af (fun h3=>zgH (ae Qx) (ae G0) h3);have HXM:=af (fun h3 h4=>zgJ (ae Qx) (ae G0) h3 h4);have HXR:=af (fun h3 h4 h5=>zgG (ae Qx) (ae G0) h3 h4 h5);have HXE:=af (fun h3 h4 h5 h6=>zgK (ae Qx) (ae G0) h3 h4 h5 h6);have HXK:=af (fun h3 h4 h5 h6=>zdp (ae Qx) (ae G0) h3 h4 h5 h6);clear hs h40 hn hr3 sE hN Qx G0 ez ic h4;generalize hXX:mN b=X at *;have HXX:=af hXX;clear hXX;generalize qq b=U at *;go_wp2_with fail
 go_loopw [9] (fun iv wr=>∃ (k:Nat) (r:List Int) (n:Nat) (O:List ((Int×Int×Int×Int)×List Int)),k<=N/\iv=.int .i64 k/\Rd w0 wr p r n O []/\bj r/\n<=6400/\O.length=k/\obK (N-k) r n O=U) (fun iv _=>N-(intOf iv).toNat)
 case atStart=>exact⟨0,_,288,[],Nat.zero_le _,rfl,ae HR3,ae zlZ,by omega,rfl,ae HUB⟩
 case round =>
  obtain⟨k,r,n,O,hk,rfl,hr,ik,hn,hO,hU⟩:=hrel;by_cases aM:k<N
  ·have HC4:=af (Fz hr ik hn (by omega));have Uf:=af ik;have HU:=af hU;clear hr ik hU;go_wp2_with fail
   refine(ae HC4).mono ?_;clear HC4;rintro e w4 (⟨hs,rfl,dO⟩ | ⟨hs,rfl,tF⟩)
   ·have Nn:=ae HU;rw [show N-k=(N-(k+1))+1 by omega,VW _ hs] at Nn;have hx:=ae HXO (by rw [<- Nn];exact hs);rw [<- Nn] at hx;replace hx:=(ae HXX).trans hx;exact⟨rfl,.inl ⟨by rw [hx];exact hs,by rw [hx];rfl,dO⟩⟩
   ·have Nn:=ae HU;rw [show N-k=(N-(k+1))+1 by omega,zdZ _ hs] at Nn;have HU':=af Nn;have BV:=af (VZ hs);have HR4:=af tF;clear Nn tF hs HU;go_wp2;go_roundw
    case rel=>exact⟨k+1,_,_,_,by omega,by go_num,ae HR4,fun z hz=>ae Uf z (List.mem_of_mem_drop hz),ae BV,by rw [zLa,List.length_singleton,hO],ae HU'⟩
    case measure=>simp [intOf];omega
  ·obtain rfl:k=N:=by omega
   rw [Nat.sub_self] at hU;have hU2:U=(0,r,n,O):=hU.symm;subst hU2;have HC5:=af (xO hr ik 8 (by omega));have ziA:=ik.getD 0;have Uf:=af ik;have HUC:Hid (roK (r.getD 0 0).toNat (r.drop 1) O []=Lp (0,r,n,O)):=af rfl;dsimp only at HXM HXR HXE HXK;generalize Lp (0,r,n,O)=V at *;clear hr ik hU aM HXO;go_wp2_with fail
   refine(ae HC5).mono ?_;clear HC5;rintro e w5 (⟨hs,rfl,gJ⟩ | ⟨⟨hs,h8⟩,rfl,sh⟩)
   ·have hx:=ae HXM (by first | rfl | trivial) hs;replace hx:=(ae HXX).trans hx;exact⟨rfl,.inl ⟨by rw [hx];decide,by rw [hx];rfl,gJ⟩⟩
   have wI:¬ (r.length=0\/8<r.getD 0 0):=by omega
   have HN8:=af wI;have HR5:=af sh;have KV:Hid (bj (r.drop 1)):=af (fun z hz=>ae Uf z (List.mem_of_mem_drop hz));obtain⟨M,hM⟩:=Int.eq_ofNat_of_zero_le ziA.1;have hM8:M<=8:=by omega
   rw [hM,zTn] at HUC;rw [hM];clear hs h8 wI sh ziA hM Uf;go_wp2_with fail
   go_loopw [16] (fun iv wr=>∃ (j:Nat) (q:List Int) (R:List (ByteArray×Int)),j<=M/\iv=.int .i64 j/\Rd w0 wr p q n O R/\bj q/\R.length=j/\roK (M-j) q O R=V) (fun iv _=>M-(intOf iv).toNat)
   case atStart=>exact⟨0,_,[],Nat.zero_le _,rfl,ae HR5,ae KV,rfl,ae HUC⟩
   case round =>
    obtain⟨j,q,R,hj,rfl,hr,ik,hRl,hU⟩:=hrel;by_cases aM:j<M
    ·have HC6:=af (L5 hr ik (by omega) (by omega));have Uf:=af ik;have HU:=af hU;clear hr ik hU;go_wp2_with fail
     refine(ae HC6).mono ?_;clear HC6;rintro e w6 (⟨hs,rfl,tK⟩ | ⟨hs,rfl,JE⟩)
     ·have Nn:=ae HU;rw [show M-j=(M-(j+1))+1 by omega,Vo _ hs] at Nn;have hx:=ae HXR (by first | rfl | trivial) (ae HN8) (by rw [<- Nn];exact hs);rw [<- Nn] at hx;replace hx:=(ae HXX).trans hx;exact⟨rfl,.inl ⟨by rw [hx];exact hs,by rw [hx];rfl,tK⟩⟩
     ·have Nn:=ae HU;rw [show M-j=(M-(j+1))+1 by omega,zdG _ hs] at Nn;have HU':=af Nn;have Zs:=af JE;clear Nn JE hs HU;go_wp2;go_roundw
      case rel=>exact⟨j+1,_,_,by omega,by go_num,ae Zs,fun z hz=>ae Uf z (List.mem_of_mem_drop hz),by rw [zLa,List.length_singleton,hRl],ae HU'⟩
      case measure=>simp [intOf];omega
    ·obtain rfl:j=M:=by omega
     rw [Nat.sub_self] at hU;have hU2:V=(0,q,R):=hU.symm;subst hU2;dsimp only at HXE HXK;have HR7:=af hr;obtain⟨ar,cr,vO,vR,os,hv,qe⟩:=hr;obtain⟨q0,q1,q2,q3⟩:=hv.cells;have hql:=hv.2.2.1.2.2.1;clear hU aM ik hv qe q1 q2 q3 HXR;by_cases Cf:q.length=0
     ·have hx:=ae HXK (by first | rfl | trivial) (ae HN8) (by first | rfl | trivial) (List.eq_nil_of_length_eq_zero Cf);replace hx:=(ae HXX).trans hx;have HX:=af hx;clear hx;rw [Cf] at q0;go_wp2_with fail
      refine(ae HY _ _ _ (by first | rfl | (simp;done) | (simp;omega))).mono ?_;rintro e w8 ⟨rfl,rfl⟩;go_wp2
      go_end0
      exact .inr ⟨by rw [ae HX],rfl,q,n,by rw [ae HX];exact ae HR7⟩
     ·have hx:=ae HXE (by first | rfl | trivial) (ae HN8) (by first | rfl | trivial) (fun h=>Cf (by rw [h];rfl));replace hx:=(ae HXX).trans hx;have HX:=af hx;have SJ:decide ((q.length:Int)=0)=false:=decide_eq_false (by omega);clear hx;generalize q.length=Q at *;go_wp2_with fail
      refine(ae HN _ _ _ (by first | rfl | exact SJ | (simp;done) | (simp;omega))).mono ?_;rintro e w8 ⟨rfl,rfl⟩;exact⟨rfl,.inl ⟨by rw [ae HX];decide,by rw [ae HX];rfl,(ae HR7).world⟩⟩
end
def xB(o:(Int×Int×Int×Int)×List Int):List Int:=[o.1.1,o.1.2.2.2,o.1.2.2.1 % 256,o.1.2.2.1 / 256]++o.2
def Lg(O:List ((Int×Int×Int×Int)×List Int)):List Int:=[79,76,68,49,(O.length:Int)]
def wrL(O:List ((Int×Int×Int×Int)×List Int))(R:List (ByteArray×Int)):List Int:=Lg O++O.flatMap xB++[(R.length:Int)]++R.flatMap pF
theorem Vy(n:Int)(h:0<=n/\n<=65535):putK (ag 2) 0 n 2=[n % 256,n / 256]:=by
 show [n / 1 % 256,n / 256 % 256]=_
 rw [Int.ediv_one,Int.emod_eq_of_lt (a:=n / 256) (by omega) (by omega)]
def Zj(o:(Int×Int×Int×Int)×Option Addr×Nat×List Int):Prop:=0<=o.1.1/\o.1.1<=255/\0<=o.1.2.2.2/\o.1.2.2.2<=255/\0<=o.1.2.2.1/\o.1.2.2.1<=1000/\o.2.2.2.length<=1000/\bj o.2.2.2/\o.2.2.2≠[]
theorem zah{o:(Int×Int×Int×Int)×Option Addr×Nat×List Int}(h:Zj o):bj (xB (jL o))/\(xB (jL o)).length<=1004:=by
 obtain⟨h1,h2,h3,h4,h5,h6,h7,h8,h9⟩:=h;unfold xB jL;dsimp only;refine⟨fun z hz=>?_,?_⟩
 ·rcases zMa hz with hz | hz
  ·rcases zMc hz with rfl | hz
   ·omega
   rcases zMc hz with rfl | hz
   ·omega
   rcases zMc hz with rfl | hz
   ·omega
   rw [zMs hz];omega
  ·exact h8 z hz
 ·rw [zLa];simp only [zLc,List.length_nil];omega
theorem ER:∀ (os:List ((Int×Int×Int×Int)×Option Addr×Nat×List Int)),(∀ o∈os,Zj o)->bj ((os.map jL).flatMap xB)/\((os.map jL).flatMap xB).length<=1004 * os.length
 | [],_=>⟨fun z hz=>(by cases hz),by simp⟩
 | o :: os,h=>by
  obtain⟨p1,p2⟩:=zah (h o (by simp));obtain⟨q1,q2⟩:=ER os (fun x hx=>h x (by simp [hx]));rw [List.map_cons,List.flatMap_cons];refine⟨fun z hz=>?_,?_⟩
  ·rcases zMa hz with hz | hz
   ·exact p1 z hz
   ·exact q1 z hz
  ·rw [zLa,zLc];omega
theorem Gr:∀ (R:List (ByteArray×Int)),(∀ r∈R,gA r.1/\0<=r.2/\r.2<=255)->bj (R.flatMap pF)/\(R.flatMap pF).length=9 * R.length
 | [],_=>⟨fun z hz=>(by cases hz),rfl⟩
 | r :: R,h=>by
  obtain⟨p1,p2,p3⟩:=h r (by simp);obtain⟨q1,q2⟩:=Gr R (fun x hx=>h x (by simp [hx]));have hl:=bD r.1 p1.2.1;rw [List.flatMap_cons];refine⟨fun z hz=>?_,?_⟩
  ·rcases zMa hz with hz | hz
   ·unfold pF at hz;rcases zMa hz with hz | hz
    ·exact jc _ z hz
    ·rw [zMs hz];omega
   ·exact q1 z hz
  ·rw [zLa,zLc,q2];unfold pF;rw [zLa,hl,List.length_singleton];omega
def T4(w:World)(B:Nat)(S:Nat->Prop)(v:Value)(L:List Int):Prop:=cj w B v L/\∀ g,v.ownBlock=some g->¬ S g
theorem cj.VR{w:World}{B:Nat}{v:Value}{L:List Int}(h:cj w B v L):∀ g,v.ownBlock=some g->g<w.heap.size:=by
 intro g hg;rcases h.2 with ⟨rfl,_⟩ | ⟨g',cap,cur,rfl,hB,hc,_⟩
 ·cases hg
 ·simp [Value.ownBlock] at hg;subst hg;exact(zAg hc).1
theorem fg{P:Program}{w:World}{ops:Array Oper}{rest:List Oper}{o:Oper}{a:Act}{Q:Exit->Act->World->Prop}(pZ:o.guard=none)(s x:Operand)(t:TypeId)
  (ho:o.op=.call { callee:=.builtin .append,args:=#[s,x],argTypes:=#[t,t]}) (i:TypeInfo) (ht:P.underlying t=some (.slice 5)) (hi:P.info? 5=some i) (hz:i.zero=some (.int .u8 0)) (h4:i.size=1) (h5:i.bytes=1)
  (B:Nat) (S:Nat->Prop) (v:Value) (L:List Int) (hs:a.eval s=v) (az:T4 w B S v L) (hB:B<=w.heap.size) (hS:∀ g,S g->g<w.heap.size) (sp:Option Addr) (n cap:Nat) (l:List Int) (hx:a.eval x=.slice sp n cap) (hn:n=l.length) (h0:l≠[]) (hb:Bs w sp cap l) (hL:L.length+l.length<=140737488351232)
  (h:∀ v' w',T4 w' B S v' (L++l)->Below B w w'->(∀ g,S g->w'.heap[g]?=w.heap[g]?)->wpList P ops Q rest (a.put o.dst v') w') :
  wpList P ops Q (o :: rest) a w:=by
 subst hn;obtain⟨b,off,rfl,hc⟩:=hb.2.2.2.2 h0;refine wpList_append_own_at w pZ s x t ho B 5 i (.int .u8 0) 1 1 ht hi hz h4 h5 rfl (by decide) v _ _ hs az.1 ⟨b,off,none⟩ l.length cap (l.map (Value.int .u8)) hx (by simp) (y7 hb) (dE l) (by unfold maxLen;omega) (by omega) hB (fun v' w' xX ow _ tG=>?_);refine h v' w' ⟨?_,fun g hg hSg=>?_⟩ (zBr.grown ow hB (fun k hk=>az.1.block k hk)) (fun g hSg=>ow.block g (hS g hSg) (fun e=>az.2 g e.symm hSg))
 ·unfold cj;rw [zLa,List.map_append];exact xX
 ·rcases tG with e | e
  ·rw [e] at hg;exact az.2 g hg hSg
  ·rw [e] at hg;have:=hS g hSg;have:=zOi hg;omega
theorem G7(oa ra:Option Addr)(oc rc:Nat)(os:List ((Int×Int×Int×Int)×Option Addr×Nat×List Int))(R:List (ByteArray×Int))(w:World)(qe:fG IY 5 w oa oc os)(uS:∀ o∈os,Bs w o.2.1 o.2.2.1 o.2.2.2)(hrs:fG yC 2 w ra rc R)
  (hO:∀ o∈os,Zj o) (Cg:os.length<=40) (hR:∀ r∈R,gA r.1/\0<=r.2/\r.2<=255) (uJ:R.length<=8) :
  Calls Tryz.prog 44 #[.slice oa os.length oc,.slice ra R.length rc] w (Ends w (wrL (os.map jL) R) .nilIface):=by
 obtain⟨i0,eP,cY,dw,dz⟩:=info_parts dQ;have kc:=fun(w:World) (C:Array Value) (n c:Nat)=>Lib.run_convert_bytes_const (P:=Tryz.prog) w 30 5 C n c zu30 zu5
 have Z5:(os.length:Int) % 256=(os.length:Int):=by omega
 have hmr:(R.length:Int) % 256=(R.length:Int):=by omega
 have La:=af qe;have OG:=af uS;have HRS:=af hrs;have HO:=af hO;have HR:=af hR;have mI:Below w.heap.size w ((w.alloc (.cells #[.int .u8 79,.int .u8 76,.int .u8 68,.int .u8 49] 5 (4,5))).alloc (.cells #[.int .u8 os.length] 5)):=(zBr.alloc zNr _).alloc (by simp) _;have kj:=af mI;have hOL:∀ j u,([.int .u8 79,.int .u8 76,.int .u8 68,.int .u8 49]:List Value)[j]?=some u->((w.alloc (.cells #[.int .u8 79,.int .u8 76,.int .u8 68,.int .u8 49] 5 (4,5))).alloc (.cells #[.int .u8 os.length] 5)).cell? (Addr.add ⟨w.heap.size,0,none⟩ j)=some u:=fun j u hj=>by rw [addr_add,Nat.zero_add];have hb:=((Below.refl (w.alloc (.cells #[.int .u8 79,.int .u8 76,.int .u8 68,.int .u8 49] 5 (4,5))).heap.size (w.alloc (.cells #[.int .u8 79,.int .u8 76,.int .u8 68,.int .u8 49] 5 (4,5)))).alloc zNr (.cells #[.int .u8 os.length] 5)).block w.heap.size (by simp);rw [cell_of_row _ _ _ _ _ _ (hb.trans (heap_alloc_new w _))];simpa using hj
 have hNE:∀ j u,([.int .u8 os.length]:List Value)[j]?=some u->((w.alloc (.cells #[.int .u8 79,.int .u8 76,.int .u8 68,.int .u8 49] 5 (4,5))).alloc (.cells #[.int .u8 os.length] 5)).cell? (Addr.add ⟨w.heap.size+1,0,none⟩ j)=some u:=fun j u hj=>by rw [addr_add,Nat.zero_add];have hb:=heap_alloc_new (w.alloc (.cells #[.int .u8 79,.int .u8 76,.int .u8 68,.int .u8 49] 5 (4,5))) (.cells #[.int .u8 os.length] 5);rw [show(w.alloc (.cells #[.int .u8 79,.int .u8 76,.int .u8 68,.int .u8 49] 5 (4,5))).heap.size=w.heap.size+1 by simp] at hb;rw [cell_of_row _ _ _ _ _ _ hb];simpa using hj
 have HOL:=af hOL;have T8:=af hNE;clear qe uS hrs hO hR mI hOL hNE;go_enter Tryz.func44,Tryz.ntmps44
 go_wp2_with (at_builtin;refine wpList_append_grows _ rfl _ _ 30 rfl 5 i0 (.int .u8 0) 1 1 zu30 eP cY dw dz rfl (by decide) (some ⟨w.heap.size,0,none⟩) 4 4 [.int .u8 79,.int .u8 76,.int .u8 68,.int .u8 49] rfl (fun h=>(by cases h)) rfl (fun b hb=>by cases hb;exact ae HOL) ⟨w.heap.size+1,0,none⟩ 1 1 [.int .u8 os.length] rfl rfl (ae T8) (fun u hu=>by rw [zMs hu];rfl) (by decide) (by decide) (by decide) ?_;intro v1 w1 cz JO;have DY:cj w1 w.heap.size v1 (Lg (os.map jL)):=(by unfold cj Lg;rw [zLm];exact(show _ by have h9:=cz;exact⟨h9.1,h9.2.elim .inl (fun⟨g,cap,cur,hv,hb,r⟩=>.inr ⟨g,cap,cur,hv,Nat.le_trans (ae kj).size hb,r⟩)⟩));have aL:=af ((ae kj).grown JO (ae kj).size (fun k hk=>by cases hk));clear cz JO)
 have BX:=af DY;have HES:Hid (((os.take os.length).map jL).flatMap xB=(os.map jL).flatMap xB):=af (by rw [List.take_length]);have hhl:(Lg (os.map jL)).length=5:=rfl;clear DY HOL T8 kj;go_wp2_with fail
 go_loopw [6,24] (fun v iv wr=>∃ k:Nat,k<=os.length/\iv=.int .i64 k/\cj wr w.heap.size v (Lg (os.map jL)++((os.take k).map jL).flatMap xB)/\Below w.heap.size w wr) (fun _ iv _=>os.length-(intOf iv).toNat)
 case atStart=>exact⟨0,Nat.zero_le _,rfl,by simpa using ae BX,ae aL⟩
 case round =>
  obtain⟨k,hk,rfl,az,ao⟩:=hrel;by_cases aM:k<os.length
  ·have aO:os≠[]:=by intro e;rw [e] at aM;simp at aM
   obtain⟨b1,o1,rfl,dR⟩:=((ae La).below ao).2.2.2 aO;obtain⟨f,hf⟩:∃ f,os[k]?=some f:=⟨os[k],zLg aM⟩;obtain⟨q0,q1,q2,q3,q4⟩:=fG.oj dR hf;have Un:=ae OG f (List.mem_of_getElem? hf);have SH:=ae HO f (List.mem_of_getElem? hf);have iB:((os.take (k+1)).map jL).flatMap xB=((os.take k).map jL).flatMap xB++xB (jL f):=by rw [l8 hf,List.map_append,List.flatMap_append];simp
   obtain⟨z1,z2⟩:=ER (os.take k) (fun o ho=>ae HO o (List.mem_of_mem_take ho));have SM:(Lg (os.map jL)++((os.take k).map jL).flatMap xB).length<=100000:=by rw [zLa,hhl];rw [zLt] at z2;omega
   obtain⟨⟨h,x,l,t⟩,ad,cc,BD⟩:=f;have hwo:xB (jL ((h,x,l,t),ad,cc,BD))=[h,t]++([l % 256,l / 256]++BD):=rfl;rw [hwo,<- List.append_assoc,<- List.append_assoc] at iB;obtain⟨m1,m2,m3,m4,m5,m6,m7,m8,m9⟩:=SH;dsimp only at q0 q1 q2 q3 q4 Un m1 m2 m3 m4 m5 m6 m7 m8 m9;have Lc:Hid (Lg (os.map jL)++((os.take (k+1)).map jL).flatMap xB=Lg (os.map jL)++((os.take k).map jL).flatMap xB++[h,t]++[l % 256,l / 256]++BD):=af (by rw [iB];simp only [List.append_assoc]);generalize Lg (os.map jL)++((os.take k).map jL).flatMap xB=LL at *;have mI:Below wr.heap.size wr (wr.alloc (.cells #[.int .i64 h,.int .i64 x,.int .i64 l,.int .i64 t,.slice ad BD.length cc] 171)):=zBr.alloc zNr _;have fc:=heap_alloc_new wr (.cells #[.int .i64 h,.int .i64 x,.int .i64 l,.int .i64 t,.slice ad BD.length cc] 171);have qd:=af fc;have t2:(wr.alloc (.cells #[.int .i64 h,.int .i64 x,.int .i64 l,.int .i64 t,.slice ad BD.length cc] 171)).cell? ⟨wr.heap.size,2,none⟩=some (.int .i64 l):=by rw [cell_of_row _ _ _ _ _ _ fc];rfl
   have zeM:wr.heap.size<(wr.alloc (.cells #[.int .i64 h,.int .i64 x,.int .i64 l,.int .i64 t,.slice ad BD.length cc] 171)).heap.size:=by simp
   have jI:=af (ao.trans (mI.mono ao.size));have ki:=af (az.below mI);have HFO:=af Un;have zhX:=az.VR;have Zu:=af zhX;clear zhX;have uO:h % 256=h:=by omega
   have iP:t % 256=t:=by omega
   have Nb:∀ w',Sem.run Tryz.prog (Instr.makeSlice 30 (.int .i64 2) (.int .i64 2)) w'=.ok (.slice (some ⟨w'.heap.size,0,none⟩) 2 2) (Dq w' 2):=fun w'=>mR w' 2 (by decide)
   have GO:=Vy l ⟨m5,by omega⟩;clear dR hf aO Un iB z1 z2 hwo mI fc az ao;go_wp2_with fail
   generalize wr.alloc (.cells #[.int .i64 h,.int .i64 x,.int .i64 l,.int .i64 t,.slice ad BD.length cc] 171)=w9 at *;have Up:Below w9.drew.heap.size w9.drew (Dq w9.drew 2):=rJ w9.drew 2;have zeW:Below w9.heap.size w9 w9.drew:=bq zBr;have XY:=zeW.trans (Up.mono zeW.size);have t2m:(Dq w9.drew 2).cell? ⟨wr.heap.size,2,none⟩=some (.int .i64 l):=(XY.cell (p:=⟨wr.heap.size,2,none⟩) (block_lt_of_cell t2)).trans t2;have hP:=ue (some ⟨w9.drew.heap.size,0,none⟩) 2 (ag 2) 0 2 l (Dq w9.drew 2) ((y8 w9.drew 2).bs (bW 2) (by decide)) (by omega) (by omega) m5 (by show ¬ nS ((2:Nat):Int)<l;simp [nS];omega) (by rw [aj];omega);rw [GO,aj] at hP;have HP:Hid (Calls Tryz.prog 102 #[.slice (some ⟨w9.heap.size,0,none⟩) 2 2,.int .i64 0,.int .i64 l,.int .i64 2] (Dq w9.drew 2) fun e w'=>∃ g2,e=.returned (.tuple #[.slice (some ⟨g2,0,none⟩) 2 2,.nilIface])/\w9.heap.size<=g2/\fH w' g2 [l % 256,l / 256]/\Below w9.heap.size w9 w'/\w'.cell? ⟨wr.heap.size,2,none⟩=some (.int .i64 l)):=af (hP.mono fun e w' ⟨g2,he,qg,aK,cD⟩=>⟨g2,he,Nat.le_trans XY.size qg,aK,XY.trans (cD.mono XY.size),(cD.cell (p:=⟨wr.heap.size,2,none⟩) (block_lt_of_cell t2m)).trans t2m⟩);clear hP Up zeW XY;go_region_held3 (fun w'=>w'.cell? ⟨wr.heap.size,2,none⟩=some (.int .i64 l)) (first | exact t2m | go_keep | exact r2)
    ((go_at_call 102;refine(ae HP).mono ?_;rintro e w2 ⟨g2,rfl,qg,gO,cD,r2⟩))
   have j6:=(cD.block wr.heap.size zeM).trans (ae qd);have s0:w2.cell? ⟨wr.heap.size,0,none⟩=some (.int .i64 h):=by rw [cell_of_row _ _ _ _ _ _ j6];rfl
   have s3:w2.cell? ⟨wr.heap.size,3,none⟩=some (.int .i64 t):=by rw [cell_of_row _ _ _ _ _ _ j6];rfl
   have gC:=(ae ki).below cD;have yL:=zTs jI cD;have zmh:=gO.lt;have hws:=yL.size;have X0:Below w2.heap.size w2 (w2.alloc (.cells #[.int .u8 h,.int .u8 t] 5)):=zBr.alloc zNr _;have zlO:Hid (T4 (w2.alloc (.cells #[.int .u8 h,.int .u8 t] 5)) w.heap.size (fun g=>g=wr.heap.size\/g=g2) _ LL):=af ⟨gC.below X0,fun g hg hSg=>by have:=ae Zu g hg;rcases hSg with rfl | rfl <;> omega⟩;have HSS:Hid (∀ g,(g=wr.heap.size\/g=g2)->g<(w2.alloc (.cells #[.int .u8 h,.int .u8 t] 5)).heap.size):=af (fun g hg=>by
    have e:(w2.alloc (.cells #[.int .u8 h,.int .u8 t] 5)).heap.size=w2.heap.size+1:=by simp
    have:=cD.size;rcases hg with rfl | rfl <;> omega)
   have HBX:Hid (Bs (w2.alloc (.cells #[.int .u8 h,.int .u8 t] 5)) (some ⟨w2.heap.size,0,none⟩) 2 [h,t]):=af (fH.bs (l:=[h,t]) (heap_alloc_new w2 _) (fun z hz=>by
    rcases zMc hz with rfl | hz
    ·omega
    ·rw [zMs hz];omega) (by simp))
   have OF:=af (yL.trans (X0.mono yL.size));have tA:=af ((X0.block wr.heap.size (by have:=cD.size;omega)).trans j6);have xy:=af (gO.below X0);have zek:w.heap.size<=(w2.alloc (.cells #[.int .u8 h,.int .u8 t] 5)).heap.size:=by simp;omega
   have vr:Hid (bj [l % 256,l / 256]):=af (fun z hz=>by
    rcases zMc hz with rfl | hz
    ·omega
    ·rw [zMs hz];omega)
   clear j6 gC yL X0 gO cD r2 ki jI qd Zu HP t2 t2m q0 q1 q2 q3 q4;go_wp2_with (first
    | (at_builtin;refine fg rfl _ _ 30 rfl i0 zu30 eP cY dw dz w.heap.size (fun g=>g=wr.heap.size\/g=g2) _ LL rfl (ae zlO) zek (ae HSS) (some ⟨w2.heap.size,0,none⟩) 2 2 [h,t] rfl rfl (by simp) (ae HBX) (by simp;omega) ?_;intro v3 w3 uL bR GR;have cT:=af ((ae OF).trans bR);have zbA:=(ae cT).size;have Cj:=(GR wr.heap.size (.inl rfl)).trans (ae tA);have s4:w3.cell? ⟨wr.heap.size,4,none⟩=some (.slice ad BD.length cc):=(by rw [cell_of_row _ _ _ _ _ _ Cj];rfl);have Uc:=af Cj;have HK3:=af ((GR g2 (.inr rfl)).trans (ae xy));have nB:=af uL;clear uL bR GR Cj)
    | (at_builtin;refine fg rfl _ _ 30 rfl i0 zu30 eP cY dw dz w.heap.size (fun g=>g=wr.heap.size\/g=g2) _ (LL++[h,t]) rfl (ae nB) zbA (fun g hg=>by rcases hg with rfl | rfl;exact(zAg (ae Uc)).1;exact(zAg (ae HK3)).1) (some ⟨g2,0,none⟩) 2 2 [l % 256,l / 256] rfl rfl (by simp) (fH.bs (l:=[l % 256,l / 256]) (ae HK3) (ae vr) (by simp)) (by simp;omega) ?_;intro v4 w4 ho4 dO PN;have ez:=af ((ae cT).trans dO);have zbz:=(ae ez).size;have yH:=(PN wr.heap.size (.inl rfl)).trans (ae Uc);have s5:w4.cell? ⟨wr.heap.size,4,none⟩=some (.slice ad BD.length cc):=(by rw [cell_of_row _ _ _ _ _ _ yH];rfl);have zmP:=af yH;have qb:=af ho4;clear ho4 dO PN yH)
    | (at_builtin;refine fg rfl _ _ 30 rfl i0 zu30 eP cY dw dz w.heap.size (fun g=>False) _ (LL++[h,t]++[l % 256,l / 256]) rfl ⟨(ae qb).1,fun _ _ hf=>hf⟩ zbz (fun g hg=>hg.elim) ad BD.length cc BD rfl rfl m9 ((ae HFO).below (ae ez)) (by simp;omega) ?_;intro v5 w5 ho5 gJ XD;have lj:=af ((ae ez).trans gJ);have Lb:=af ho5;clear ho5 gJ XD))
   go_roundw
   case rel=>exact⟨k+1,by omega,by go_num,by rw [ae Lc];exact(ae Lb).1,ae lj⟩
   case measure=>simp [intOf];omega
  ·obtain rfl:k=os.length:=by omega
   rw [ae HES] at az;obtain⟨z1,z2⟩:=ER os (ae HO);have SM:(Lg (os.map jL)++(os.map jL).flatMap xB).length<=100000:=by rw [zLa,hhl];omega
   have ziv:bj (Lg (os.map jL)++(os.map jL).flatMap xB):=fun z hz=>by
    rcases zMa hz with hz | hz
    ·unfold Lg at hz;rw [zLm] at hz;simp only [List.mem_cons,List.not_mem_nil,or_false] at hz;omega
    ·exact z1 z hz
   have zlY:=af ziv;have Uz:Hid (wrL (os.map jL) R=Lg (os.map jL)++(os.map jL).flatMap xB++[(R.length:Int)]++R.flatMap pF):=af rfl;generalize Lg (os.map jL)++(os.map jL).flatMap xB=LL at *;generalize wrL (os.map jL) R=WL at *;have nk:Below wr.heap.size wr (wr.alloc (.cells #[.int .u8 R.length] 5)):=zBr.alloc zNr _;have HOX:Hid (T4 (wr.alloc (.cells #[.int .u8 R.length] 5)) w.heap.size (fun _=>False) _ LL):=af ⟨az.below nk,fun _ _ hf=>hf⟩;have HBX:Hid (Bs (wr.alloc (.cells #[.int .u8 R.length] 5)) (some ⟨wr.heap.size,0,none⟩) 1 [(R.length:Int)]):=af (fH.bs (l:=[(R.length:Int)]) (heap_alloc_new wr _) (fun z hz=>by rw [zMs hz];omega) (by simp));have BF:=af (ao.trans (nk.mono ao.size));have zek:w.heap.size<=(wr.alloc (.cells #[.int .u8 R.length] 5)).heap.size:=by have:=ao.size;simp;omega
   have HER:Hid ((R.take R.length).flatMap pF=R.flatMap pF):=af (by rw [List.take_length]);clear az ao nk ziv z1 z2 aM hk OG HO La HES BX aL hhl;go_wp2_with (at_builtin;refine fg rfl _ _ 30 rfl i0 zu30 eP cY dw dz w.heap.size (fun _=>False) _ LL rfl (ae HOX) zek (fun g hg=>hg.elim) (some ⟨wr.heap.size,0,none⟩) 1 1 [(R.length:Int)] rfl rfl (by simp) (ae HBX) (by simp;omega) ?_;intro v3 w3 uL bR GR;have cT:=af ((ae BF).trans bR);have nB:=af uL;clear uL bR GR)
   go_loopw [6,67] (fun v iv wq=>∃ j:Nat,j<=R.length/\iv=.int .i64 j/\cj wq w.heap.size v (LL++[(R.length:Int)]++(R.take j).flatMap pF)/\Below w.heap.size w wq) (fun _ iv _=>R.length-(intOf iv).toNat)
   case atStart=>exact⟨0,Nat.zero_le _,rfl,by simpa using (ae nB).1,ae cT⟩
   case round =>
    obtain⟨j,hj,rfl,az,ao⟩:=hrel;by_cases aM:j<R.length
    ·have aO:R≠[]:=by intro e;rw [e] at aM;simp at aM
     obtain⟨b1,o1,rfl,dR⟩:=((ae HRS).below ao).2.2.2 aO;obtain⟨f,hf⟩:∃ f,R[j]?=some f:=⟨R[j],zLg aM⟩;obtain⟨q0,q1⟩:=fG.root (cap:=0) dR hf;obtain⟨n1,n2,n3⟩:=ae HR f (List.mem_of_getElem? hf);have iB:(R.take (j+1)).flatMap pF=(R.take j).flatMap pF++pF f:=by rw [l8 hf,List.flatMap_append];simp
     have hrk:=(Gr (R.take j) (fun r hr=>ae HR r (List.mem_of_mem_take hr))).2;obtain⟨sn,z⟩:=f;dsimp only at q0 q1 n1 n2 n3;have Lc:Hid (LL++[(R.length:Int)]++(R.take (j+1)).flatMap pF=LL++[(R.length:Int)]++(R.take j).flatMap pF++bf sn++[z]):=af (by rw [iB];unfold pF;simp only [List.append_assoc]);have lR:(LL++[(R.length:Int)]++(R.take j).flatMap pF).length<=200000:=by rw [zLa,zLa,hrk,zLt,List.length_singleton];omega
     generalize LL++[(R.length:Int)]++(R.take j).flatMap pF=L2 at *;have nk:Below wr.heap.size wr (wr.alloc (.cells #[.string sn,.int .i64 z] 152)):=zBr.alloc zNr _;have fc:=heap_alloc_new wr (.cells #[.string sn,.int .i64 z] 152);have HPN:=af (qA sn (wr.alloc (.cells #[.string sn,.int .i64 z] 152)) n1.1 n1.2.1 n1.2.2);have zeM:wr.heap.size<(wr.alloc (.cells #[.string sn,.int .i64 z] 152)).heap.size:=by simp
     have qd:=af fc;have jI:=af (ao.trans (nk.mono ao.size));have ki:=af (az.below nk);have Zu:=af az.VR;have uO:z % 256=z:=by omega
     have wH:=bD sn n1.2.1;have HNB:=af (jc sn);have zk7:bf sn≠[]:=by intro e;rw [e] at wH;simp at wH
     generalize bf sn=NM at *;clear dR hf aO iB hrk nk fc az ao n1;go_wp2_with fail
     refine(ae HPN).mono ?_;rintro e w2 ⟨g2,rfl,qg,gO,cD⟩;have j6:=(cD.block wr.heap.size zeM).trans (ae qd);have yL:=zTs jI cD;have gC:T4 w2 w.heap.size (fun g=>g=wr.heap.size) _ L2:=⟨(ae ki).below cD,fun g hg hSg=>by have:=ae Zu g hg;omega⟩;have zm:=af gC;have zkR:=yL.size;have tA:=af j6;have br:=af yL;have xy:=af gO;clear gC yL j6 gO cD HPN ki jI Zu qd qg;go_wp2_with (first
      | (at_builtin;refine fg rfl _ _ 30 rfl i0 zu30 eP cY dw dz w.heap.size (fun g=>g=wr.heap.size) _ L2 rfl (ae zm) zkR (fun g hg=>by rw [hg];exact(zAg (ae tA)).1) (some ⟨g2,0,none⟩) 8 8 NM rfl wH.symm zk7 (by have h9:=(ae xy).bs (ae HNB) (by omega);rw [wH] at h9;exact h9) (by omega) ?_;intro v4 w4 ho4 dO PN;have np:=(ae br).trans dO;have yH:=(PN wr.heap.size rfl).trans (ae tA);have s1:w4.cell? ⟨wr.heap.size,1,none⟩=some (.int .i64 z):=(by rw [cell_of_row _ _ _ _ _ _ yH];rfl);have zeX:Below w4.heap.size w4 (w4.alloc (.cells #[.int .u8 z] 5)):=zBr.alloc zNr _;have qb:Hid (T4 (w4.alloc (.cells #[.int .u8 z] 5)) w.heap.size (fun _=>False) v4 (L2++NM)):=af ⟨ho4.1.below zeX,fun _ _ hf=>hf⟩;have zl0:Hid (Bs (w4.alloc (.cells #[.int .u8 z] 5)) (some ⟨w4.heap.size,0,none⟩) 1 [z]):=af (fH.bs (l:=[z]) (heap_alloc_new w4 _) (fun y hy=>by rw [zMs hy];omega) (by simp));have ez:=af (np.trans (zeX.mono np.size));have zkQ:w.heap.size<=(w4.alloc (.cells #[.int .u8 z] 5)).heap.size:=(ae ez).size;clear ho4 dO PN np yH zeX)
      | (at_builtin;refine fg rfl _ _ 30 rfl i0 zu30 eP cY dw dz w.heap.size (fun _=>False) _ (L2++NM) rfl (ae qb) zkQ (fun g hg=>hg.elim) (some ⟨w4.heap.size,0,none⟩) 1 1 [z] rfl rfl (by simp) (ae zl0) (by rw [zLa,List.length_singleton];omega) ?_;intro v5 w5 ho5 gJ XD;have lj:=af ((ae ez).trans gJ);have Lb:=af ho5;clear ho5 gJ XD))
     go_roundw
     case rel=>exact⟨j+1,by omega,by go_num,by rw [ae Lc];exact(ae Lb).1,ae lj⟩
     case measure=>simp [intOf];omega
    ·obtain rfl:j=R.length:=by omega
     rw [ae HER] at az;obtain⟨y1,y2⟩:=Gr R (ae HR);have ik:bj (LL++[(R.length:Int)]++R.flatMap pF):=fun z hz=>by
      rcases zMa hz with hz | hz
      ·rcases zMa hz with hz | hz
       ·exact ae zlY z hz
       ·rw [zMs hz];omega
      ·exact y1 z hz
     obtain⟨a9,c9,rfl,mr⟩:=az.bs ik (by rw [zLa,zLa,y2,List.length_singleton];omega);rw [<- ae Uz] at mr;have jI:=af mr;have zl1:=af ao;have vG:Hid ((LL++[(R.length:Int)]++R.flatMap pF).length=WL.length):=af (by rw [ae Uz]);clear az ao mr y1 y2 ik aM;go_wp2;go_ret2;exact⟨a9,c9,by rw [<- ae vG];rfl,ae jI,ae zl1⟩
def dwL(L:List Int):List Int:=if sH L=0 then Ut L else []
theorem zgC{L:List Int}(hf:aB L):wrL (pW L (entsK L 40)) (ak L 8)=Ut L:=by
 have h1:(pW L (entsK L 40)).flatMap xB=(entsK L 40).flatMap (rX L):=by
  have:∀ E:List (Int×Int×Int×Int),(∀ e∈E,e∈entsK L 40)->(pW L E).flatMap xB=E.flatMap (rX L):=by
   intro E;induction E with
   | nil=>intro _;rfl
   | cons e E ih =>
    intro h;have he:=cR hf (h e (by simp));have tG:aD L e.1=(e.2.2.2,cP L e.2.1 e.2.2.1):=by unfold aD gu;rw [if_neg he.2.2.2.1,<- he.1]
    show xB (e,cP L e.2.1 e.2.2.1)++(pW L E).flatMap xB=rX L e++E.flatMap (rX L)
    rw [ih (fun x hx=>h x (by simp [hx]))];unfold xB rX;rw [tG]
  exact this _ (fun e he=>he)
 have h2:(pW L (entsK L 40)).length=(entsK L 40).length:=by unfold pW;rw [zLm]
 unfold wrL Lg Ut dnB;rw [h1,h2];simp only [List.append_assoc]
theorem za1{L:List Int}(hf:aB L)(hb:bj L){os:List ((Int×Int×Int×Int)×Option Addr×Nat×List Int)}(h:os.map jL=pW L (entsK L 40)):(∀ o∈os,Zj o)/\os.length<=40:=by
 refine⟨fun o ho=>?_,?_⟩
 ·have hm:jL o∈pW L (entsK L 40):=by rw [<- h];exact List.mem_map.2 ⟨o,ho,rfl⟩
  obtain⟨e,he,heq⟩:=List.mem_map.1 hm;obtain⟨ee,e1,e2,et,e3,e4,e5,e6⟩:=cR hf he;have ht:=hf.jB e1 e2 et;rw [<- ee] at ht;unfold jL at heq;simp only [Prod.mk.injEq] at heq;obtain⟨q1,q2⟩:=heq;have hlen:(cP L e.2.1 e.2.2.1).length=e.2.2.1.toNat:=by unfold cP;rw [zLt,zLd];omega
  unfold Zj;rw [<- q1,<- q2,hlen];refine⟨by omega,by omega,by omega,by omega,by omega,by omega,by omega,fun z hz=>hb z (List.mem_of_mem_drop (List.mem_of_mem_take hz)),fun hx=>?_⟩;rw [hx] at hlen;simp at hlen;omega
 ·have:=congrArg List.length h;rw [zLm] at this;rw [this];unfold pW;rw [zLm];exact b8 L 40
theorem Rg{L:List Int}(hf:aB L)(hb:bj L):∀ r∈ak L 8,gA r.1/\0<=r.2/\r.2<=255:=fun r hr=>by
 obtain⟨i,hi,hq,rfl⟩:=cy.1 hr;obtain⟨g1,g2,g3⟩:=mg hf hi hq;have hZ:=fu.1 ((eB.1 (bV.1 hf.ok).2).1 i hi hq);have hrb:bj ((rowAt L i).take 8):=fun z hz=>hb z (List.mem_of_mem_drop (List.mem_of_mem_take (List.mem_of_mem_take hz)))
 exact⟨(iM hrb hZ.1).2.1,by show 0<=(rowAt L i).getD 10 0;omega,by show(rowAt L i).getD 10 0<=255;omega⟩
theorem RK(a:Option Addr)(cap:Nat)(L:List Int)(w:World)(aX:Bs w a cap L) :
  Calls Tryz.prog 13 #[.slice a L.length cap] w (Ends w (dwL L) (aR (sH L))):=by
 have HC:=af (Qk a cap L w aX);have iq:=aX.2.2.1;unfold dwL;cases hq:b9 L.length with
 | false =>
  have e1:sH L=3:=by unfold sH;rw [if_pos hq]
  have e2:wv L.length=3:=by unfold wv;rw [if_neg (by rw [hq];simp)]
  rw [e1,if_neg (by decide),aC 3 (by decide)];rw [e2,aC 3 (by decide)] at HC;clear aX hq e1 e2;generalize L.length=N at *;go_enter Tryz.func13,Tryz.ntmps13
  go_wp2_with fail
  refine(ae HC).mono ?_;rintro e w1 ⟨v1,rfl,Yb,dm⟩;have HB:=af dm;clear Yb dm HC;go_wp2;go_ret2;exact⟨none,0,rfl,eC _,ae HB⟩
 | true =>
  have e2:wv L.length=0:=by unfold wv;rw [if_pos hq]
  have e3:yP L=bh L:=by unfold yP;rw [if_pos hq]
  rw [e2,e3,show aR 0=.nilIface from rfl] at HC;by_cases hf0:bh L=[]
  ·have e1:sH L=0:=by unfold sH;rw [if_neg (by rw [hq];simp),if_pos hf0]
   rw [e1,if_pos rfl,show aR 0=.nilIface from rfl];have hlen:=bF.1 hq;have hf:aB L:=⟨by omega,hf0⟩;have Uz:=af (zgC hf);have BW:=af (fun(W:World) (hx:Bs W a cap L)=>B7 a cap L W hx hf);have HRT:=af (fun(W:World) (hx:Bs W a cap L)=>MY a cap L W hx);have e4:roots L=ak L 8:=by unfold roots;rw [if_pos hq]
   rw [e2,e4,show aR 0=.nilIface from rfl] at HRT;have zjt:=af (fun(os:List ((Int×Int×Int×Int)×Option Addr×Nat×List Int)) hx=>za1 hf aX.1 (os:=os) hx);have BV:=af (Rg hf aX.1);have nC:=af aX;have hr8:=eA L 8;rw [hf0] at HC;clear aX hq e1 e2 e3 e4 hf0 hf;generalize pW L (entsK L 40)=OB at *;generalize ak L 8=R at *;generalize Ut L=DL at *;go_enter Tryz.func13,Tryz.ntmps13
   go_wp2_with fail
   refine(ae HC).mono ?_;rintro e w1 ⟨v1,rfl,Yb,dm⟩;obtain⟨a1,c1,rfl,gP⟩:=Yb.kk fM (by simp);have aL:=af dm;have BX:=af (ae BW w1 ((ae nC).below dm));clear Yb dm gP HC BW;rw [List.length_nil];go_wp2_with fail
   refine(ae BX).mono ?_;rintro e w2 ⟨v2,os,rfl,JX,qe,uS,cD⟩;have yL:=zTs aL cD;obtain⟨m1,m2⟩:=ae zjt os qe;obtain⟨a2,c2,rfl,gM⟩:=JX.kk FK (by omega);have yU:=af gM;have OG:=af uS;have La:=af qe;have br:=af yL;have Ld:=af cD;have KS:=af m1;have tN:=af (ae HRT w2 ((ae nC).below yL));clear JX qe uS cD yL gM m1 BX zjt HRT aL;go_wp2_with fail
   refine(ae tN).mono ?_;rintro e w3 ⟨v3,rfl,hL3,j8⟩;obtain⟨a3,c3,rfl,oq⟩:=hL3.kk mX (by omega);have ziN:=zTs br j8;have ziy:∀ o∈os,Bs w3 o.2.1 o.2.2.1 o.2.2.2:=fun o ho=>(ae OG o ho).below (zTs Ld j8)
   have hW:=G7 a2 a3 c2 c3 os R w3 ((ae yU).below j8) ziy oq (ae KS) m2 (ae BV) hr8;rw [ae La,ae Uz] at hW;have HW:=af hW;have cT:=af ziN;clear hL3 oq j8 ziN ziy hW yU OG La Ld KS tN br BV;go_wp2_with fail
   refine(ae HW).mono ?_;rintro e w4 ⟨a4,c4,rfl,dO,np⟩;have ez:=af dO;have BF:=zTr cT np;clear dO np HW cT;go_wp2;go_ret2;exact⟨_,_,rfl,ae ez,ae BF⟩
  ·have e1:sH L=6:=by unfold sH;rw [if_neg (by rw [hq];simp),if_neg hf0]
   rw [e1,if_neg (by decide),aC 6 (by decide)];have jf:0<(bh L).length:=List.length_pos_iff.2 hf0;have pN:=mw L;clear aX hq e1 e2 e3 hf0;go_enter Tryz.func13,Tryz.ntmps13
   go_wp2_with fail
   refine(ae HC).mono ?_;rintro e w1 ⟨v1,rfl,Yb,dm⟩;obtain⟨a1,c1,rfl,gP⟩:=Yb.kk fM (by omega);have HB:=af dm;clear Yb dm gP HC;generalize (bh L).length=FN at *;go_wp2;go_ret2;exact⟨none,0,rfl,eC _,ae HB⟩
theorem N8(p q s:Addr)(w:World) :
  CallsD Tryz.prog 103 #[.pointer (some p),.pointer (some q),.pointer (some s)] .returning w fun e u' w'=>e=.returned (.tuple #[])/\u'=.returning/\w'=w:=by
 refine callsD_of_wpS Tryz.func103 rfl fun c₀ cs hu=>?_
 apply wpS_seq;apply wpS_region;simp [wpOpsS,go_sem,recoverD,hu,Tryz.ntmps103,Exit.thenS];refine wpS_of_wp ?_;change Code.wp _ _ _ ⟨#[.pointer (some p),.pointer (some q),.pointer (some s),undef,undef,undef,.nilIface,undef,undef,undef,undef,undef,undef,undef,undef],[]⟩ w;go_wp2;refine⟨rfl,.returning,?_,.tuple #[],results_none rfl _ _ _,rfl,rfl,rfl⟩;rw [<- hu]
theorem Kv(g:Nat)(v0 v1 v2:Value)(x:Int)(older:List PanicEntry)(w:World)(h0:w.heap[g]?=some (.cells #[v0] 88 (0,0)))(h1:w.heap[g+1]?=some (.cells #[v1] 91 (0,0)))(h2:w.heap[g+2]?=some (.cells #[v2] 26 (0,0))) :
  CallsD Tryz.prog 103 #[.pointer (some ⟨g,0,none⟩),.pointer (some ⟨g+1,0,none⟩),.pointer (some ⟨g+2,0,none⟩)] (.panicking ({ v:=.iface 178 (.agg #[.int .i64 x]),recovered:=false } :: older)) w fun e u' w' =>e=.returned (.tuple #[])/\u'=.panicking ({ v:=.iface 178 (.agg #[.int .i64 x]),recovered:=true } :: older)/\w'.heap[g]?=some (.cells #[.slice none 0 0] 88 (0,0))/\w'.heap[g+1]?=some (.cells #[.slice none 0 0] 91 (0,0))/\w'.heap[g+2]?=some (.cells #[.iface 81 (.int .i64 x)] 26 (0,0))/\Below g w w':=by
 have hB:Below w.heap.size w (w.alloc (.cells #[.int .i64 x] 178)):=zBr.alloc zNr _;have aM:=(zAg h2).1;have zld:=(zAg h1).1;have zh3:=(zAg h0).1;have k0:=(hB.block g zh3).trans h0;have k1:=(hB.block (g+1) zld).trans h1;have k2:=(hB.block (g+2) aM).trans h2;have BF:=af (hB.mono (Nat.le_of_lt zh3));have fc:=heap_alloc_new w (.cells #[.int .i64 x] 178);have c0:(w.alloc (.cells #[.int .i64 x] 178)).cell? ⟨g,0,none⟩=some v0:=by rw [cell_of_row _ _ _ _ _ _ k0];rfl
 have c1:(w.alloc (.cells #[.int .i64 x] 178)).cell? ⟨g+1,0,none⟩=some v1:=by rw [cell_of_row _ _ _ _ _ _ k1];rfl
 have c2:(w.alloc (.cells #[.int .i64 x] 178)).cell? ⟨g+2,0,none⟩=some v2:=by rw [cell_of_row _ _ _ _ _ _ k2];rfl
 have c3:(w.alloc (.cells #[.int .i64 x] 178)).cell? ⟨w.heap.size,0,none⟩=some (.int .i64 x):=by rw [cell_of_row _ _ _ _ _ _ fc];rfl
 have f0:=frozen_of_row _ _ 0 _ _ k0;have f1:=frozen_of_row _ _ 0 _ _ k1;have f2:=frozen_of_row _ _ 0 _ _ k2;have G3:=af k0;have GC:=af k1;have xy:=af k2;have n0:¬ w.heap.size=g:=by omega
 have n1:¬ w.heap.size=g+1:=by omega
 have n2:¬ w.heap.size=g+2:=by omega
 have has:∀ (v:Value) (W:World),(Instr.typeAssert (.iface 178 v) 20 178 true).run Tryz.prog W=.ok (.tuple #[v,.bool true]) W:=fun _ _=>by kernel_rfl
 clear h0 h1 h2 fc k0 k1 k2 hB;refine callsD_of_wpS Tryz.func103 rfl fun c₀ cs hu=>?_
 apply wpS_seq;apply wpS_region;simp [wpOpsS,go_sem,recoverD,hu,Tryz.ntmps103,Exit.thenS];refine wpS_of_wp ?_;change Code.wp _ _ _ ⟨#[.pointer (some ⟨g,0,none⟩),.pointer (some ⟨g+1,0,none⟩),.pointer (some ⟨g+2,0,none⟩),undef,undef,undef,.iface 178 (.agg #[.int .i64 x]),undef,undef,undef,undef,undef,undef,undef,undef],[]⟩ w;go_wp2_with fail
 generalize w.alloc (.cells #[.int .i64 x] 178)=W at *;go_region
 have e0:=heap_setCell_same W g 0 _ _ (.slice none 0 0) (ae G3);have e1:=(heap_setCell_other W ⟨g,0,none⟩ (g+1) (.slice none 0 0) (by show g+1≠g;omega)).trans (ae GC);have e2:=(heap_setCell_other W ⟨g,0,none⟩ (g+2) (.slice none 0 0) (by show g+2≠g;omega)).trans (ae xy);have e3:=(heap_setCell_other _ ⟨g+1,0,none⟩ g (.slice none 0 0) (by show g≠g+1;omega)).trans e0;have e4:=heap_setCell_same _ (g+1) 0 _ _ (.slice none 0 0) e1;have e5:=(heap_setCell_other _ ⟨g+1,0,none⟩ (g+2) (.slice none 0 0) (by show g+2≠g+1;omega)).trans e2;have e6:=(heap_setCell_other _ ⟨g+2,0,none⟩ g (.iface 81 (.int .i64 x)) (by show g≠g+2;omega)).trans e3;have e7:=(heap_setCell_other _ ⟨g+2,0,none⟩ (g+1) (.iface 81 (.int .i64 x)) (by show g+1≠g+2;omega)).trans e4;have e8:=heap_setCell_same _ (g+2) 0 _ _ (.iface 81 (.int .i64 x)) e5;refine⟨rfl,_,rfl,.tuple #[],results_none rfl _ _ _,rfl,rfl,e6,e7,e8,?_⟩;exact bq ((((ae BF).setCell zNr _).setCell (by show g<=g+1;omega) _).setCell (by show g<=g+2;omega) _)
theorem Bs.other{w:World}{g:Nat}{x v:Value}{T:TypeId}{a:Option Addr}{cap:Nat}{l:List Int}(h:Bs w a cap l)(hg:w.heap[g]?=some (.cells #[x] T (0,0)))(hx:∀ z,x≠.int .u8 z):Bs (w.setCell ⟨g,0,none⟩ v) a cap l:=by
 obtain⟨h1,h2,h3,h4,h5⟩:=h;refine⟨h1,h2,h3,h4,fun aO=>?_⟩;obtain⟨b,off,rfl,hc⟩:=h5 aO;refine⟨b,off,rfl,fun i hi=>?_⟩;have hq:=hc i hi;by_cases e:b=g
 ·subst e;rw [cell_of_row _ _ _ _ _ _ hg] at hq
  exfalso
  by_cases h0:off+i=0
  ·rw [h0] at hq;simp at hq;exact hx _ hq
  ·rw [Array.getElem?_eq_none (by simp;omega)] at hq;cases hq
 ·exact(World.cell?_of_block (a:=⟨b,off+i,none⟩) (heap_setCell_other w ⟨g,0,none⟩ b v e)).trans hq
theorem Rd.start{w0:World}{a:Option Addr}{cap:Nat}{b:List Int}(hb:Bs w0 a cap b):Rd w0 (w0.alloc (.cells #[.slice a b.length cap,.int .i64 288,.slice none 0 0,.slice none 0 0] 180)) w0.heap.size b 288 [] [] :=⟨a,cap,.slice none 0 0,.slice none 0 0,[],⟨rfl,heap_alloc_new w0 _,hb,bT.nil _ _,fun o ho=>(by cases ho),bT.nil _ _,zBr.alloc zNr _⟩,rfl⟩
theorem L6(a:Option Addr)(cap:Nat)(b:List Int)(w:World)(aX:Bs w a cap b) :
  Calls Tryz.prog 45 #[.slice a b.length cap] w fun e w'=>∃ vO vR os,e=.returned (.tuple #[vO,vR,aR (mN b).1])/\bT IY 5 171 w' w.heap.size vO os/\os.map jL=(mN b).2.1/\(∀ o∈os,Bs w' o.2.1 o.2.2.1 o.2.2.2)/\bT yC 2 152 w' w.heap.size vR (mN b).2.2/\Below w.heap.size w w':=by
 have hmf:∀ (fn:Fn) (first cap:Array Value) (w:World),(Instr.makeFunc fn first cap).run Tryz.prog w=.ok (.func fn first cap) w:=fun _ _ _ _=>rfl
 have dm:Below w.heap.size w (w.alloc (.cells #[.slice none 0 0] 88)):=zBr.alloc zNr _;have cD:Below (w.alloc (.cells #[.slice none 0 0] 88)).heap.size (w.alloc (.cells #[.slice none 0 0] 88)) ((w.alloc (.cells #[.slice none 0 0] 88)).alloc (.cells #[.slice none 0 0] 91)):=zBr.alloc zNr _;have j8:Below ((w.alloc (.cells #[.slice none 0 0] 88)).alloc (.cells #[.slice none 0 0] 91)).heap.size ((w.alloc (.cells #[.slice none 0 0] 88)).alloc (.cells #[.slice none 0 0] 91)) (((w.alloc (.cells #[.slice none 0 0] 88)).alloc (.cells #[.slice none 0 0] 91)).alloc (.cells #[.nilIface] 26)):=zBr.alloc zNr _;have k0:(((w.alloc (.cells #[.slice none 0 0] 88)).alloc (.cells #[.slice none 0 0] 91)).alloc (.cells #[.nilIface] 26)).heap[w.heap.size]?=some (.cells #[.slice none 0 0] 88 (0,0)):=(j8.block _ (by simp;omega)).trans ((cD.block _ (by simp)).trans (heap_alloc_new w _));have k1:(((w.alloc (.cells #[.slice none 0 0] 88)).alloc (.cells #[.slice none 0 0] 91)).alloc (.cells #[.nilIface] 26)).heap[w.heap.size+1]?=some (.cells #[.slice none 0 0] 91 (0,0)):=(j8.block _ (by simp)).trans (by have:=heap_alloc_new (w.alloc (.cells #[.slice none 0 0] 88)) (.cells #[.slice none 0 0] 91);simpa using this);have k2:(((w.alloc (.cells #[.slice none 0 0] 88)).alloc (.cells #[.slice none 0 0] 91)).alloc (.cells #[.nilIface] 26)).heap[w.heap.size+2]?=some (.cells #[.nilIface] 26 (0,0)):=by have:=heap_alloc_new ((w.alloc (.cells #[.slice none 0 0] 88)).alloc (.cells #[.slice none 0 0] 91)) (.cells #[.nilIface] 26);simpa using this
 have cL:(((w.alloc (.cells #[.slice none 0 0] 88)).alloc (.cells #[.slice none 0 0] 91)).alloc (.cells #[.nilIface] 26)).heap.size=w.heap.size+3:=by simp
 have Yf:=(dm.trans (cD.mono dm.size)).trans (j8.mono (dm.trans (cD.mono dm.size)).size);have bB:=Rp (Rd.start (aX.below Yf)) aX.1;obtain⟨u1,u2,u3⟩:=OP aX.1;have HU2:=af u2;have nC:=af aX;have oJ:=af bB;have G3:=af k0;have GC:=af k1;have xy:=af k2;have Ld:=af Yf;have Qu:=af cL;clear dm cD j8 Yf bB k0 k1 k2 cL u1 u2 u3 aX;go_enter_defers Tryz.func45,Tryz.ntmps45
 go_wp2_with fail
 generalize ((w.alloc (.cells #[.slice none 0 0] 88)).alloc (.cells #[.slice none 0 0] 91)).alloc (.cells #[.nilIface] 26)=w3 at *;rw [show w.heap.size+1+1+1=w3.heap.size from(ae Qu).symm,show w.heap.size+1+1=w.heap.size+2 from rfl];refine(ae oJ).mono ?_;clear oJ;rintro e w4 (⟨hs,rfl,dO⟩ | ⟨hs,rfl,r,n,tF⟩)
 ·have cL:=ae Qu;have k0:=(dO.block w.heap.size (by omega)).trans (ae G3);have k1:=(dO.block (w.heap.size+1) (by omega)).trans (ae GC);have k2:=(dO.block (w.heap.size+2) (by omega)).trans (ae xy);refine leaves_cons (f:=103) (args:=#[.pointer (some ⟨w.heap.size,0,none⟩),.pointer (some ⟨w.heap.size+1,0,none⟩),.pointer (some ⟨w.heap.size+2,0,none⟩)]) (by simp) (by simp [go_sem]) ?_;refine(Kv w.heap.size _ _ _ _ _ w4 k0 k1 k2).mono ?_;rintro e u' w5 ⟨rfl,rfl,e0,e1,e2,gJ⟩;have c0:w5.cell? ⟨w.heap.size,0,none⟩=some (.slice none 0 0):=by rw [cell_of_row _ _ _ _ _ _ e0];rfl
  have c1:w5.cell? ⟨w.heap.size+1,0,none⟩=some (.slice none 0 0):=by rw [cell_of_row _ _ _ _ _ _ e1];rfl
  have c2:w5.cell? ⟨w.heap.size+2,0,none⟩=some (.iface 81 (.int .i64 (mN b).1)):=by rw [cell_of_row _ _ _ _ _ _ e2];rfl
  simp [Leaves,settle,results,Tryz.results45,go_sem,c0,c1,c2];obtain⟨z1,z2,z3⟩:=ae HU2 hs;rw [z2,z3];have np:=zTs Ld dO;exact⟨_,_,⟨rfl,rfl,(aC _ hs).symm⟩,[],bT.nil _ _,rfl,fun _ _ _ _ _ _ _ h=>(by cases h),bT.nil _ _,np.trans gJ⟩
 ·have cL:=ae Qu;obtain⟨ar,cr,vO,vR,os,hv,qe⟩:=tF;have dO:=hv.world;have k0:=(dO.block w.heap.size (by omega)).trans (ae G3);have k1:=(dO.block (w.heap.size+1) (by omega)).trans (ae GC);have k2:=(dO.block (w.heap.size+2) (by omega)).trans (ae xy);obtain⟨oa,om,oc,rfl⟩:=hv.2.2.2.1.shape;obtain⟨ra,rm,rc,rfl⟩:=hv.2.2.2.2.2.1.shape;obtain⟨q0,q1,q2,q3⟩:=hv.cells;have c0:w4.cell? ⟨w.heap.size,0,none⟩=some (.slice none 0 0):=by rw [cell_of_row _ _ _ _ _ _ k0];rfl
  have c1:w4.cell? ⟨w.heap.size+1,0,none⟩=some (.slice none 0 0):=by rw [cell_of_row _ _ _ _ _ _ k1];rfl
  have c2:w4.cell? ⟨w.heap.size+2,0,none⟩=some .nilIface:=by rw [cell_of_row _ _ _ _ _ _ k2];rfl
  have f0:=frozen_of_row _ _ 0 _ _ k0;have f1:=frozen_of_row _ _ 0 _ _ k1;have f2:=frozen_of_row _ _ 0 _ _ k2;have G3:=af k0;have GC:=af k1;have xy:=af k2;have HV:=af hv;have La:=af qe;have HS:=af hs;rw [cL] at q2 q3;clear q0 q1 k0 k1 k2 hv qe hs dO;go_wp2_with fail
  clear cL;go_region
  all_goals
   go_wp2;refine leaves_cons (f:=103) (args:=#[.pointer (some ⟨w.heap.size,0,none⟩),.pointer (some ⟨w.heap.size+1,0,none⟩),.pointer (some ⟨w.heap.size+2,0,none⟩)]) (by simp) (by simp [go_sem]) ?_;refine(N8 _ _ _ _).mono ?_;rintro e u' w5 ⟨rfl,rfl,rfl⟩;simp [Leaves,settle,results,Tryz.results45,go_sem,c0,c1,c2];have cL:=ae Qu;have hv:=ae HV;have hS:=ae HS;have e0:=ae G3;have e1:=(heap_setCell_other w4 ⟨w.heap.size,0,none⟩ (w.heap.size+1) (.slice oa om oc) (by show w.heap.size+1≠w.heap.size;omega)).trans (ae GC);have e2:=(heap_setCell_other w4 ⟨w.heap.size,0,none⟩ (w.heap.size+2) (.slice oa om oc) (by show w.heap.size+2≠w.heap.size;omega)).trans (ae xy);have e5:=(heap_setCell_other _ ⟨w.heap.size+1,0,none⟩ (w.heap.size+2) (.slice ra rm rc) (by show w.heap.size+2≠w.heap.size+1;omega)).trans e2;refine⟨_,_,⟨rfl,rfl,by rw [hS];rfl⟩,os,?_,ae La,fun x1 x2 x3 x4 x5 x6 x7 hm=>?_,?_,?_⟩
   ·exact bT.zee ((((hv.2.2.2.1.lay (by omega)).lay (by omega)).lay (by omega)).below (bq zBr)) (by omega)
   ·have uS:=((hv.2.2.2.2.1 _ hm).below hv.world);exact(((uS.other e0 (fun z h=>by cases h)).other e1 (fun z h=>by cases h)).other e5 (fun z h=>by cases h)).below (bq zBr)
   ·exact bT.zee ((((hv.2.2.2.2.2.1.lay (by omega)).lay (by omega)).lay (by omega)).below (bq zBr)) (by omega)
   ·exact bq ((((((ae Ld).trans (hv.world.mono (by omega))).setCell zNr _).setCell (by show w.heap.size<=w.heap.size+1;omega) _).setCell (by show w.heap.size<=w.heap.size+2;omega) _))
theorem DB{out:List Int}{o:(Int×Int×Int×Int)×List Int}(h:zcj out o):(ux out o).length=6400/\bj (ux out o)/\(bP out o.1).length=6400/\bP out o.1=splice out (cJ o.1.1) (dB o.1):=by
 obtain⟨h1,h2,h3,h4,h5,h6,h7,h8,h9,h10,h11,h12,h13⟩:=h;have hp:=cH h10 h11;have e:bP out o.1=splice out (cJ o.1.1) (dB o.1):=by unfold bP;rw [if_pos h1]
 have hl:(bP out o.1).length=6400:=by rw [e,length_splice (by show cJ o.1.1+5<=out.length;omega)];exact h2
 have ik:bj (bP out o.1):=by rw [e];exact bN h3 (oE _)
 refine⟨?_,?_,hl,e⟩
 ·unfold ux;rw [length_splice (by omega)];exact hl
 ·unfold ux;exact bN ik h4
theorem WG{O:List ((Int×Int×Int×Int)×List Int)}(h:Qt O (ag 6400)):∀ k,k<=O.length->(mE (O.take k) (ag 6400)).length=6400/\bj (mE (O.take k) (ag 6400))
 | 0,_=>⟨aj _,bW _⟩
 | k+1,hk=>by have hx:O[k]?=some O[k]:=zLg (by omega);rw [Dz hx];have:=DB (h k _ hx);exact⟨this.1,this.2.1⟩
theorem I2:I3 6400=ag 6400/\I4 6400=0:=by unfold I3 I4;exact⟨rfl,rfl⟩
theorem WH(oa ra:Option Addr)(oc rc:Nat)(os:List ((Int×Int×Int×Int)×Option Addr×Nat×List Int))(R:List (ByteArray×Int))(w:World)(qe:fG IY 5 w oa oc os)(uS:∀ o∈os,Bs w o.2.1 o.2.2.1 o.2.2.2)(hrs:fG yC 2 w ra rc R)
  (hO:Qt (os.map jL) (ag 6400)) (hR:Zk R (mE (os.map jL) (ag 6400))) :
  Calls Tryz.prog 46 #[.slice oa os.length oc,.slice ra R.length rc] w (Ends w (pn R 0 (mE (os.map jL) (ag 6400))) .nilIface):=by
 have Cg:=qe.2.2.1;have uJ:=hrs.2.2.1;have ji:=af (FT 6400 w);rw [I2.1,I2.2] at ji;have La:=af qe;have OG:=af uS;have HRS:=af hrs;have HO:=af hO;have HR:=af hR;have HLO:=af (WG hO);have HEO:Hid (mE ((os.map jL).take os.length) (ag 6400)=mE (os.map jL) (ag 6400)):=af (by rw [List.take_of_length_le (by rw [zLm];exact zNr)]);clear qe uS hrs hO hR;go_enter Tryz.func46,Tryz.ntmps46
 go_wp2_with fail
 refine(ae ji).mono ?_;rintro e w1 ⟨a1,c1,rfl,ay,dm⟩;rw [aj,show aR 0=.nilIface from rfl];have aL:=af ay;have zjJ:=af dm;clear ay dm ji;go_wp2_with fail
 go_loopw [6,7,21] (fun bv ev iv wr=>∃ (k:Nat) (a':Option Addr) (c':Nat),k<=os.length/\bv=.slice a' 6400 c'/\ev=.nilIface/\iv=.int .i64 k/\Bs wr a' c' (mE ((os.map jL).take k) (ag 6400))/\Below w.heap.size w wr) (fun _ _ iv _=>os.length-(intOf iv).toNat)
 case atStart=>exact⟨0,a1,c1,Nat.zero_le _,rfl,rfl,rfl,ae aL,ae zjJ⟩
 case round =>
  obtain⟨k,a',c',hk,rfl,rfl,rfl,hb,hB⟩:=hrel;by_cases aM:k<os.length
  ·have aO:os≠[]:=by intro e;rw [e] at aM;simp at aM
   obtain⟨b1,o1,rfl,dR⟩:=((ae La).below hB).2.2.2 aO;obtain⟨f,hf⟩:∃ f,os[k]?=some f:=⟨os[k],zLg aM⟩;obtain⟨q0,q1,q2,q3,q4⟩:=fG.oj dR hf;have Un:=(ae OG f (List.mem_of_getElem? hf)).below hB;have hfp:(os.map jL)[k]?=some (jL f):=by rw [List.getElem?_map,hf];rfl
   have SH:=ae HO k _ hfp;have hlen:=DB SH;have iB:=Dz hfp (ag 6400);generalize mE ((os.map jL).take k) (ag 6400)=L at *;obtain⟨⟨h,x,l,t⟩,ad,cc,BD⟩:=f;replace SH:zcj L ((h,x,l,t),BD):=SH;replace hlen:(splice (bP L (h,x,l,t)) x.toNat BD).length=6400/\bj (splice (bP L (h,x,l,t)) x.toNat BD)/\(bP L (h,x,l,t)).length=6400/\bP L (h,x,l,t)=splice L (cJ h) (dB (h,x,l,t)):=hlen;replace iB:mE ((os.map jL).take (k+1)) (ag 6400)=splice (bP L (h,x,l,t)) x.toNat BD:=iB;dsimp only at q0 q1 q2 q3 q4 Un;obtain⟨m1,m2,m3,m4,m5,m6,m7,m8,m9,m10,m11,m12,m13⟩:=SH;dsimp only at m1 m2 m3 m4 m5 m6 m7 m8 m9 m10 m11 m12 m13;obtain⟨X,rfl⟩:=Int.eq_ofNat_of_zero_le (show 0<=x by omega);rw [zTn] at hlen iB;obtain⟨n1,n2,n3,n4⟩:=hlen;have mI:Below wr.heap.size wr (wr.alloc (.cells #[.int .i64 h,.int .i64 X,.int .i64 l,.int .i64 t,.slice ad BD.length cc] 171)):=zBr.alloc zNr _;have lh:=af (uH a' c' L h X l t _ (hb.below mI) m1);rw [m2] at lh;have HFO:=af (Un.below mI);have kj:=af (hB.trans (mI.mono hB.size));have fc:=heap_alloc_new wr (.cells #[.int .i64 h,.int .i64 X,.int .i64 l,.int .i64 t,.slice ad BD.length cc] 171);have qd:=af fc;have ZC:Hid ((splice L (cJ h) (dB (h,(X:Int),l,t))).length=6400):=af (by rw [<- n4];exact n3);have Lc:=af iB;have ic:=af n2;have qc:=af n1;have yV:=af n4;have hBl:BD.length<=1000:=m9;have hXB:X+BD.length<=6400:=by omega
   have hBn:BD≠[]:=by intro e;rw [e] at m8;simp at m8
   have HBN:=af hBn;clear dR hf aO hfp Un iB n1 n2 n3 n4 mI fc hb hB m1 m2 m3 m4 m7 m10 m11 m12 m13 hBn;go_wp2_with fail
   refine(ae lh).mono ?_;rintro e w2 ⟨g2,c2,cur2,rfl,jR,cD⟩;rw [ae ZC];have j6:=(cD.block wr.heap.size (by simp)).trans (ae qd);have t1:w2.cell? ⟨wr.heap.size,1,none⟩=some (.int .i64 X):=by rw [cell_of_row _ _ _ _ _ _ j6];rfl
   have t4:w2.cell? ⟨wr.heap.size,4,none⟩=some (.slice ad BD.length cc):=by rw [cell_of_row _ _ _ _ _ _ j6];rfl
   have hlc:=jR.2.2.1;rw [ae ZC] at hlc;have hcut:=rY (P:=Tryz.prog) zu30 aN g2 c2 6400 X (by omega) hlc (by omega);have AD:Row w2.drew _ g2 c2 cur2 _:=jR.below (bq zBr);have D7:∀ ty,Sem.run Tryz.prog (Builtin.copy_ #[30,30] ty #[.slice (some ⟨g2,X,none⟩) (6400-X) (c2-X),.slice ad BD.length cc]) w2.drew=.ok (.int .i64 BD.length) (fJ w2.drew g2 cur2 X BD) :=fun ty=>fz w2.drew _ _ ty zu30 aN _ g2 X _ _ c2 cur2 ad cc _ BD (by omega) (ae HBN) (by rw [ae ZC];exact hXB) AD (((ae HFO).below cD).below (bq zBr))
   have DT:=jb AD (show X+BD.length<=_ by rw [ae ZC];exact hXB);rw [<- ae yV] at DT;have zfG:=af (DT.bs (ae ic) (by rw [ae qc];omega));have cT:=af (gh (cur:=cur2) (l:=BD) (off:=X) (bq (zTs kj cD)) (Nat.le_trans (ae kj).size jR.1));have ZI:=af D7;have e0:(0:Int)<=(X:Int):=by omega
   have e1:(X:Int)<=6400:=by omega
   clear D7 DT AD jR cD j6 hlc lh HFO kj qd ZC q0 q1 q2 q3 q4 m5 m6;generalize fJ w2.drew g2 cur2 X BD=w3 at *;go_wp2_with fail
   go_region_law (refine nD (by rfl) (.tmp 40) (.tmp 42) 30 30 (by rfl) (.slice (some ⟨g2,X,none⟩) (6400-X) (c2-X)) (.slice ad BD.length cc) (by rfl) (by rfl) (.int .i64 BD.length) w3 (ae ZI _) ?_)
   all_goals
    go_wp2;go_roundw
    case rel=>exact⟨k+1,_,_,by omega,rfl,rfl,by go_num,by rw [ae Lc];exact ae zfG,ae cT⟩
    case measure=>simp [intOf];omega
  ·obtain rfl:k=os.length:=by omega
   rw [ae HEO] at hb;have SM:=(ae HLO os.length (by rw [zLm];exact zNr));rw [ae HEO] at SM;have HLL:=af SM;have HB:=af hb;have BF:=af hB;have HER:Hid (pn (R.take R.length) 0 (mE (os.map jL) (ag 6400))=pn R 0 (mE (os.map jL) (ag 6400))):=af (by rw [List.take_length]);clear aM hb hB SM HLO HEO HO OG La aL zjJ;generalize mE (os.map jL) (ag 6400)=L0 at *;go_wp2_with fail
   go_loopw [6,7,47] (fun bv ev iv wr=>∃ (j:Nat) (a':Option Addr) (c':Nat),j<=R.length/\bv=.slice a' 6400 c'/\ev=.nilIface/\iv=.int .i64 j/\Bs wr a' c' (pn (R.take j) 0 L0)/\(pn (R.take j) 0 L0).length=6400/\Below w.heap.size w wr) (fun _ _ iv _=>R.length-(intOf iv).toNat)
   case atStart=>exact⟨0,_,_,Nat.zero_le _,rfl,rfl,rfl,ae HB,(ae HLL).1,ae BF⟩
   case round =>
    obtain⟨j,a2,c2,hj,rfl,rfl,rfl,hb,iq,hB⟩:=hrel;by_cases aM:j<R.length
    ·have aO:R≠[]:=by intro e;rw [e] at aM;simp at aM
     obtain⟨b1,o1,rfl,dR⟩:=((ae HRS).below hB).2.2.2 aO;obtain⟨f,hf⟩:∃ f,R[j]?=some f:=⟨R[j],zLg aM⟩;obtain⟨q0,q1⟩:=fG.root (cap:=0) dR hf;obtain⟨SD,GO,hp3⟩:=ae HR j f hf;have iB:=Sg hf L0;have hns:f.1.size<=140737488351232:=by
      obtain⟨_,_,_,F6⟩:=gB.1 SD;unfold eF at F6;by_cases h0:gv f=true
      ·have:=(eX.1 h0).1;omega
      ·rw [if_neg h0] at F6;by_cases h1:dC f.2=false
       ·rw [if_pos h1] at F6;exact absurd F6 (by decide)
       rw [if_neg h1] at F6;by_cases h2:du f.1=true
       ·have:=(bZ.1 h2).2.1;omega
       ·rw [if_neg h2] at F6;exact absurd F6 (by decide)
     have pM:(je (pn (R.take j) 0 L0) j f).length=6400:=by obtain⟨_,p1,p2,F6⟩:=gB.1 SD;unfold je;rw [if_pos SD,length_splice,GO];have:=kC F6;rw [zTn,this,GO];omega
     have mI:Below wr.heap.size wr (wr.alloc (.cells #[.string f.1,.int .i64 f.2] 152)):=zBr.alloc zNr _;have lh:=af (pr a2 c2 (pn (R.take j) 0 L0) j f _ (hb.below mI) hns);rw [SD,show aR 0=.nilIface from rfl,iq] at lh;unfold xK at lh;have kj:=af (hB.trans (mI.mono hB.size));have Lc:=af iB;have yw:=af pM;obtain⟨s,z⟩:=f;dsimp only at q0 q1 lh;clear dR hf aO SD GO hp3 iB hns pM mI hb iq hB;go_wp2_with fail
     refine(ae lh).mono ?_;rintro e w5 ⟨a5,c5,rfl,gJ,zc⟩;rw [ae yw];have lj:=af gJ;have zl2:=zTr kj zc;clear gJ zc lh kj q0 q1;go_wp2;go_roundw
     case rel=>exact⟨j+1,_,_,by omega,rfl,rfl,by go_num,by rw [ae Lc];exact ae lj,by rw [ae Lc];exact ae yw,ae zl2⟩
     case measure=>simp [intOf];omega
    ·obtain rfl:j=R.length:=by omega
     rw [ae HER] at hb iq;have HB:=af hb;have BF:=af hB;have vr:=af iq;clear hb hB iq aM;go_wp2;go_ret2;exact⟨_,_,by rw [ae vr];rfl,ae HB,ae BF⟩
theorem zdn(a:Option Addr)(cap:Nat)(b:List Int)(w:World)(aX:Bs w a cap b) :
  Calls Tryz.prog 14 #[.slice a b.length cap] w (Ends w (Ui b).2 (aR (Ui b).1)):=by
 obtain⟨u1,u2,u3⟩:=OP aX.1;have xx:=af (L6 a cap b w aX);have iq:=aX.2.2.1;rw [u1];by_cases h0:(mN b).1=0
 ·obtain⟨z1,z2,z3,z4,z5⟩:=u3 h0;rw [h0,show aR 0=.nilIface from rfl] at xx;rw [h0,show aR 0=.nilIface from rfl,z1];have HL:=af (fun(oa ra:Option Addr) (oc rc:Nat) (os:List ((Int×Int×Int×Int)×Option Addr×Nat×List Int)) (W:World) (e:os.map jL=(mN b).2.1) h1 h2 h3=>WH oa ra oc rc os (mN b).2.2 W h1 h2 h3 (by rw [e];exact z2) (by rw [e];exact z3));clear aX u1 u2 u3 h0 z1 z2 z3;generalize (mN b).2.1=O at *;generalize (mN b).2.2=R at *;go_enter Tryz.func14,Tryz.ntmps14
  go_wp2_with fail
  refine(ae xx).mono ?_;rintro e w1 ⟨vO,vR,os,rfl,hLO,qe,uS,hLR,dm⟩;have Cg:os.length<=40:=by rw [<- qe,zLm] at z4;exact z4
  obtain⟨oa,oc,rfl,hsO⟩:=hLO.kk FK (by omega);obtain⟨ra,rc,rfl,hsR⟩:=hLR.kk mX (by omega);have hC:=ae HL oa ra oc rc os w1 qe hsO uS hsR;rw [qe] at hC;have HC:=af hC;have aL:=af dm;generalize pn R 0 (mE O (ag 6400))=LL at *;clear hLO qe uS hLR dm hsO hsR xx HL hC z4;go_wp2_with fail
  refine(ae HC).mono ?_;rintro e w2 ⟨a2,c2,rfl,aK,cD⟩;have br:=af aK;have BF:=zTr aL cD;clear aK cD HC aL;go_wp2;go_ret2;exact⟨_,_,rfl,ae br,ae BF⟩
 ·obtain⟨z1,z2,z3⟩:=u2 h0;rw [z1,aC _ h0];rw [aC _ h0] at xx;clear aX u1 u2 u3 h0 z1 z2 z3;generalize (mN b).1=X at *;go_enter Tryz.func14,Tryz.ntmps14
  go_wp2_with fail
  refine(ae xx).mono ?_;rintro e w1 ⟨vO,vR,os,rfl,hLO,qe,uS,hLR,dm⟩;have aL:=af dm;clear hLO qe uS hLR dm xx;go_wp2;go_ret2;exact⟨none,0,rfl,eC _,ae aL⟩
end Go.Proofs.YtcimhnnendlblaaGreat
