import Derived.Test.YtoiebmeajhpgcaaGreatDoorJRef
import Derived.Test.YtoiebmeajhpgcaaGreatDoorJRv
import Derived.Test.YtoiebmeajhpgcaaGreatDoorJPh
import Derived.Deep.CutRange
set_option maxRecDepth 100000
set_option maxHeartbeats 16000000
set_option linter.all false
namespace Go.Proofs.YtoiebmeajhpgcaaGreatDoor
variable {n s:Int}{b l ml:LI}{k i L p q m:Nat}{w w' w0 w'':World}{S S' S0:Nat->Prop}{X X':DS×Int}{bv:Value}
open Tryz
open Go.RowKit
def Hm(n:Int)(j:Nat):Int:=n / 256 ^ j%256
theorem pow_two j:(2:Int) ^ (8*j)=256 ^ j:=by rw[Int.pow_mul];rfl
theorem Io n j(h:j<4):(side n).getD j 0=Hm n j:=by have:=tB (af 4) 0 n 4 j h YG;rw[qAl]at this;unfold side Hm;rw[this,pow_two]
def spot(n:Int)(b:LI)(k i j:Nat):Int:=if j<i then Hm n j else if 28<=j/\j<28+i then Hm n (j-28)else if 4<=j/\j<4+k then b.getD (j-4) 0 else 0
def Part(n:Int)(b:LI)(k i:Nat)(l:LI):Prop:=l.length=32/\∀j,j<32->l.getD j 0=spot n b k i j
theorem Fu(l:LI) i j x(hi:i<l.length):(l.set i x).getD j 0=if i=j then x else l.getD j 0:=by
 simp only[qAC,List.getElem?_set];by_cases h:i=j
 ·rw[zy h,zy h,zy hi];rfl
 ·rw[zn h,zn h]
theorem nG n j:(af n).getD j 0=0:=by unfold af;simp only[qAC,qBx];split <;> rfl
theorem Part.zero n b:Part n b 0 0 (af 32):=⟨ag 32,fun j hj=>by rw[nG];unfold spot;rw[zn Sg,zn Sg,zn Sg]⟩
theorem Part.body(h:Part n b k 0 l)(hk:k<24):Part n b (k+1) 0 (l.set (4+k) (b.getD k 0)):=by
 refine⟨by rw[qAz];exact h.1,fun j hj=>?_⟩;rw[Fu _ _ _ _ (by rw[h.1];omega),h.2 j hj];unfold spot;by_cases e:4+k=j
 ·subst e;rw[zy rfl,zn Sg,zn Sg,zy Sg];exact Qm
 ·rw[zn e]
  repeat' split
  all_goals first | rfl | omega
theorem Part.side(h:Part n b k i l)(hi:i<4)(hk:k<=24):Part n b k (i+1) ((l.set i (Hm n i)).set (28+i) (Hm n i)):=by
 refine⟨by rw[qAz,qAz];exact h.1,fun j hj=>?_⟩;rw[Fu _ _ _ _ (by rw[qAz,h.1];omega),Fu _ _ _ _ (by rw[h.1];omega),h.2 j hj];unfold spot;by_cases e:28+i=j
 ·subst e;rw[zy rfl,zn Sg,zy Sg];exact Qm
 ·rw[zn e];by_cases e2:i=j
  ·subst e2;rw[zy rfl,zy Sg]
  ·rw[zn e2]
   repeat' split
   all_goals first | rfl | omega
theorem Part.whole(h:Part n b b.length 4 l)(hb:b.length<=24):l=cD n b:=by
 refine cr (by rw[h.1,dK n b hb]) (fun j hj=>?_);rw[h.1]at hj;rw[h.2 j hj,Di n b hb];have hs:=db n;have l1:(b++af (24-b.length)).length=24:=by simp[af];omega
 unfold spot;by_cases h1:j<4
 ·rw[zy h1,<-Io n j h1];simp only[qAC];rw[qAZ Sg]
 ·rw[zn h1];simp only[qAC];rw[qAR Sg,hs];by_cases h2:28<=j/\j<28+4
  ·rw[zy h2,<-Io n (j-28) Sg,qAR Sg,l1,qAC,show j-4-24=j-28 by omega]
  ·rw[zn h2,qAZ Sg];by_cases h3:4<=j/\j<4+b.length
   ·rw[zy h3,qAZ Sg]
   ·rw[zn h3,qAR Sg];have:=nG (24-b.length) (j-4-b.length);rw[qAC]at this;exact this.symm
theorem NZ n a len cap w(h:n<1\/4294967295<n) :
  zC 16 #[zi n,.slice a len cap] w (zr (.tuple #[.slice none 0 0,zi 1]) fun w'=>w=w'):=by
 by_cases h1:n<1
 ·exact MY
 ·have h2:4294967295<n:=by omega
  exact MY
theorem SZ n a len cap w(h1:¬n<1)(h2:¬4294967295<n)(h3:24<len) :
  zC 16 #[zi n,.slice a len cap] w (zr (.tuple #[.slice none 0 0,zi 4]) fun w'=>w=w'):=by
 exact MY
theorem zem(n:Int) i:n / 256 ^ i / 256=n / 256 ^ (i+1):=by rw[qCn,Int.ediv_ediv_of_nonneg (Int.pow_nonneg Si)]
theorem Yo n a cap b w(hb:Bs w a cap b)(h1:¬n<1)(h2:¬4294967295<n)(h3:b.length<=24) :
  zC 16 #[zi n,.slice a b.length cap] w fun e w'=>∃g,e=zt #[.slice (zo g) 32 32,zi 0]/\gz w' g (cD n b)/\zB w w':=by
 obtain⟨i0,dU,cO,cU,cV⟩:=qAO dw;have HB:=ae hb;clear hb;go_enter func16,ntmps16
 go_wp2_with (at_make;refine bV rfl _ _ 29 rfl i0 underlying29 dU cO cU cV _ _ _ _ 32 rfl rfl rfl rfl Sg ?_)
 intro w1 kF fQ ay;have DH:=ae kF;have aQ:=ae ay;clear kF ay fQ;go_wp2_with fail
 go_loopw [7] (fun v wr=>∃ (k:Nat) (l:LI),k<=b.length/\v=zi k/\gz wr w.heap.size l/\Part n b k 0 l/\zB w wr) (fun v _=>b.length-(intOf v).toNat)
 case atStart=>exact⟨0,af 32,Sg,rfl,DH,Part.zero n b,aQ⟩
 case round =>
  obtain⟨k,l,hk,rfl,hblk,uj,ai⟩:=hrel;clear DH aQ;by_cases aB:k<b.length
  ·have aG:b≠[]:=by intro e;rw[e]at aB;simp at aB
   obtain⟨gb,off,rfl,hc⟩:=HB.2.2.2.2 aG;have q:=(ai.cell (p:=⟨gb,off+k,none⟩) (qAA (hc k aB))).trans (hc k aB);have oI:=hblk.frozen (4+k);have kS:=hblk.cell (4+k) (by rw[uj.1];omega);have HK:=ae (hblk.set (4+k) (b.getD k 0));have HPT:=ae (uj.body (k:=k) Sg);have aH:zB w (wr.setCell ⟨w.heap.size,4+k,none⟩ (.int .u8 (b.getD k 0))):=ai.setCell zNr _;have pQ:=ae aH;generalize b.getD k 0=bk at*;go_wp2;go_roundw
   case rel=>exact⟨k+1,_,Sg,Tc,HK,HPT,pQ⟩
   case measure=>exact Te
  ·obtain rfl:k=b.length:=by omega
   have HK:=ae hblk;have HPT:=ae uj;have pQ:=ae ai;go_wp2_with fail
   go_loopw [8,9] (fun nv v wr=>∃ (i:Nat) (l:LI),i<=4/\v=zi i/\nv=zi (n / 256 ^ i)/\gz wr w.heap.size l/\Part n b b.length i l/\zB w wr) (fun _ v _=>4-(intOf v).toNat)
   case atStart=>exact⟨0,l,Sg,rfl,Sk,HK,HPT,pQ⟩
   case round =>
    obtain⟨i,l,hi,rfl,rfl,hblk,uj,ai⟩:=hrel;have T9:=zem n i;have hny:0<=n / 256 ^ i/\n / 256 ^ i<=4294967295:=by have hp:(0:Int)<256 ^ i:=Int.pow_pos Si;refine⟨Int.ediv_nonneg Sg Sg,Int.le_trans (Int.ediv_le_self _ Sg) Sg⟩
    have zkN:Hm n i=n / 256 ^ i%256:=rfl;by_cases aB:i<4
    ·have k1:=hblk.set i (Hm n i);have k2:=k1.set (28+i) (Hm n i);have zsl:=hblk.frozen i;have zdH:=hblk.cell i (by rw[uj.1];omega);have zsk:=k1.frozen (28+i);have zqv:=k1.cell (28+i) (by rw[qAz,uj.1];omega);have ay:zB w (wr.setCell (zw w.heap.size i) (.int .u8 (Hm n i))):=ai.setCell zNr _;have aK:zB w ((wr.setCell (zw w.heap.size i) (.int .u8 (Hm n i))).setCell ⟨w.heap.size,28+i,none⟩ (.int .u8 (Hm n i))):=ay.setCell zNr _;have HK:=ae k2;have pQ:=ae aK;have HPT:=ae (uj.side aB h3);have hdb:0<=Hm n i/\Hm n i<=255:=by rw[zkN];omega
     have hm:(n / 256 ^ i).tmod 256=Hm n i:=by rw[qCL hny.1];exact zkN.symm
     have hq:(n / 256 ^ i).tdiv 256=n / 256 ^ (i+1):=by rw[qCe hny.1];exact T9
     clear k1 k2 ay aK hblk uj ai zkN T9;have zp9:0<=n / 256 ^ (i+1)/\n / 256 ^ (i+1)<=4294967295:=by have hp:(0:Int)<256 ^ (i+1):=Int.pow_pos Si;exact⟨Int.ediv_nonneg Sg Sg,Int.le_trans (Int.ediv_le_self _ Sg) Sg⟩
     generalize Hm n i=d at*;obtain⟨ny2,qT⟩:∃ny2,n / 256 ^ (i+1)=ny2:=⟨_,rfl⟩;rw[qT]at hq zp9;have HQ2:=ae qT;clear qT;generalize n / 256 ^ i=ny at*;go_wp2;go_roundw
     case rel=>exact⟨i+1,_,Sg,Tc,by rw[aa HQ2],HK,HPT,pQ⟩
     case measure=>exact Te
    ·obtain rfl:i=4:=by omega
     have HK:=ae hblk;have HPT:=ae (uj.whole h3);have pQ:=ae ai;clear hblk uj ai aB hi;generalize n / 256 ^ 4=ny at*;go_wp2;go_ret2;exact⟨_,rfl,by rw[<-aa HPT];exact HK,pQ⟩
theorem II n a cap b w(hb:Bs w a cap b) :
  zC 16 #[zi n,.slice a b.length cap] w (Ends w (dH n b).1 (zi (dH n b).2)):=by
 unfold dH;by_cases h:n<1\/4294967295<n
 ·rw[zy h];exact(NZ n a b.length cap w h).mono fun e w' ⟨he,hw⟩=>gi he hw
 ·rw[zn h];by_cases h3:24<b.length
  ·rw[zy h3];exact(SZ n a b.length cap w (fun h1=>h (.inl h1)) (fun h1=>h (.inr h1)) h3).mono fun e w' ⟨he,hw⟩=>gi he hw
  ·rw[zn h3];refine(Yo n a cap b w hb (fun h1=>h (.inl h1)) (fun h1=>h (.inr h1)) Sg).mono fun e w' ⟨g,he,hk,ai⟩=>⟨some (zp g),32,?_,?_,ai⟩
   ·rw[he,dK n b Sg]
   ·have:=gz.bs hk (nZ n b hb.1) (by rw[dK n b Sg];decide);rwa[dK n b Sg]at this
theorem NY a len cap w(h:len≠32) :
  zC 66 #[.slice a len cap] w (zr (.tuple #[zi 0,.slice none 0 0,zi 3]) fun w'=>w=w'):=by
 go_enter func66,ntmps66
 go_wp2;go_ret3;exact Uq
theorem Yl a cap l w(hb:Bs w a cap l) :
  zC 66 #[.slice a l.length cap] w (zfm w (bL l).1 (bL l).2.1 (zi (bL l).2.2)):=by
 by_cases h:l.length≠32
 ·unfold bL;rw[zy h];exact(NY a l.length cap w h).mono fun e w' ⟨he,hw⟩=>pN he hw
 ·have hl:l.length=32:=by omega
  obtain⟨x1,p1,s1⟩:=jK (P:=prog) (t:=29) underlying29 aT hb 4 Sg;obtain⟨x2,p2,s2⟩:=iy (P:=prog) (t:=29) underlying29 aT hb 28 Sg;obtain⟨x3,p3,s3⟩:=dP (P:=prog) (t:=29) underlying29 aT hb 4 28 Si Sg;have l1:(l.take 4).length=4:=Tb;have l2:(l.drop 28).length=4:=Tb;have l3:((l.drop 4).take 24).length=24:=Tb;have n1:=Dn x1 cap (l.take 4) w s1 Sg;have n2:=Dn x2 (cap-28) (l.drop 28) w s2 Sg;rw[l1,<-qg]at n1;rw[l2,<-xl l hl]at n2;rw[hl]at p1 p2 p3;rw[show((4:Nat):Int)=4 from rfl]at p1;rw[show((28:Nat):Int)=28 from rfl,show 32-28=4 from rfl]at p2;rw[show((4:Nat):Int)=4 from rfl,show((28:Nat):Int)=28 from rfl,show 28-4=24 from rfl]at p3;rw[show 28-4=24 from rfl]at s3;have N1:=ae n1;have N2:=ae n2;have S3:=ae s3;unfold bL;rw[zn h];rw[hl];generalize dm l 0 4=x,dm l 28 4=y,(l.drop 4).take 24=L at*;by_cases h2:x=y
  ·subst h2;rw[zn (fun h=>h rfl)];by_cases h3:x=0
   ·subst h3;rw[zy rfl];exact Iy
   ·rw[zn h3];go_enter func66,ntmps66
    go_wp2_with fail
    refine N1.m ?_;rintro w1 rfl;go_wp2_with fail
    refine N2.m ?_;rintro w1 rfl;go_wp2_with fail
    go_quiet (fail)
    go_wp2;go_ret3;exact⟨x3,cap-4,by rw[l3];rfl,S3,below_drewN zBr _⟩
  ·rw[zy h2];exact Iy
def gX(w:World)(q m:Nat)(s:Int)(L:Nat):Prop:=w.heap[q]?=some (.cells #[zq m,zi s,zi (L:Int)] 55 (0,0))
section
variable {w w':World} {q m L:Nat} {s:Int} {S S':Nat->Prop}
theorem gX.c0(h:gX w q m s L):w.cell? (zp q)=some (zq m):=by rw[qAD w q 0 _ _ (0,0) h];rfl
theorem gX.c1(h:gX w q m s L):w.cell? (zw q 1)=some (zi s):=by rw[qAD w q 1 _ _ (0,0) h];rfl
theorem gX.c2(h:gX w q m s L):w.cell? (zw q 2)=some (zi (L:Int)):=by rw[qAD w q 2 _ _ (0,0) h];rfl
theorem gX.lt(h:gX w q m s L):q<w.heap.size:=(zAg h).1
theorem gX.fr(h:gX w q m s L) i:w.frozen? (zw q i)=false:=qAd w q i _ _ h
theorem gX.same(h:gX w q m s L)(e:w'.heap[q]?=w.heap[q]?):gX w' q m s L:=e.trans h
theorem gX.below(h:gX w q m s L)(hb:zB w w'):gX w' q m s L:=h.same (hb.block q h.lt)
theorem gX.cQ(h:gX w q m s L)(ht:au S S' w w')(hn:¬S q):gX w' q m s L/\¬S' q:=⟨h.same (ht.block q h.lt hn),fun hs=>hn (ht.bA q h.lt hs)⟩
theorem gX.set(h:gX w q m s L) t:gX (w.setCell (zw q 1) (zi t)) q m t L:=by unfold gX;rw[qAI _ _ _ _ _ _ h];rfl
end
section
variable {w:World} {p:Nat} {S:Nat->Prop} {D:DS}
theorem ET(h:Ref w p S D)(hL:eo D.secs.length=L)(ew:0<D.secs.length) :
  zC 15 #[zq p] w (zr (zi (L:Int)) fun w'=>w=w'):=by
 obtain⟨sv,lv,left,h⟩:=h;have c0:=h.c0;have hlen:=h.ok.len;obtain⟨g,cap,rfl,eT,lI,_⟩:=h.lP ew;unfold maxLen at lI;unfold eo at hL;generalize D.secs.length=n at*;by_cases h1:(n:Int)-48<=200
 ·rw[zy h1]at hL;have h2:¬(n:Int)-48<0:=by omega
  exact Ql
 ·rw[zn h1]at hL;exact Ql
theorem N3(h:Ref w p S D)(hL:eo D.secs.length=L)(hL1:1<=L)(ew:0<D.secs.length) :
  zC 5 #[zq p] w fun e w'=>∃q,e=zt #[zq q,zi (bG D).2]/\∃S',Ref w' p S' (bG D).1/\au S S' w w'/\gX w' q p 2 L/\¬S' q/\w.heap.size<=q:=by
 have HC:=ae (ET h hL ew);have tN:=II 2 none 0 [] w (eu w);have hmo:dH 2 []=(cD 2 [],0):=by unfold dH;rw[zn Si,zn Si]
 rw[hmo]at tN;have W8:=ae tN;have H:=ae h;obtain⟨i0,dU,cO,cU,cV⟩:=qAO dw;have hLi:¬(L:Int)=0:=Sg;obtain⟨X1,e1⟩:∃X1,X1=dq (D,0) 0 (cD 2 []):=⟨_,rfl⟩;obtain⟨X2,e2⟩:∃X2,X2=dq X1 1 (af 32):=⟨_,rfl⟩;have e3:bG D=di X2:=by rw[e2,e1];rfl
 rw[e3];obtain⟨X3,e4⟩:∃X3,X3=di X2:=⟨_,rfl⟩;rw[<-e4];have HXF:=ae e4;have Ms:X1=(D.write 0 (cD 2 []),D.bN 0 (cD 2 [])):=by rw[e1];exact me rfl _ _
 have jC:X1.1.secs.length=D.secs.length:=by rw[Ms];show(D.write _ _).secs.length=_;rw[fS]
 have gS:X2.1.secs.length=D.secs.length:=by
  rw[e2];unfold dq;split
  ·show(X1.1.write _ _).secs.length=_;rw[fS];exact jC
  ·exact jC
 have re:=ae Ms;have W4:=ae e2;have Mk:=ae (And.intro jC gS);clear h tN hmo e1 e2 e3 e4 Ms jC gS;go_enter func5,ntmps5
 go_wp2_with fail
 refine HC.m ?_;rintro w1 rfl;go_wp2_with fail
 refine W8.mono ?_;rintro e w1 ⟨a1,c1,rfl,ay,Jv⟩
 try dsimp only at ay
 have ku:=mH 0 a1 c1 (cD 2 []) (H.below Jv) ew ay;have hE1:D.bN 0 (cD 2 [])=X1.2:=by rw[aa re]
 have hD1:D.write 0 (cD 2 [])=X1.1:=by rw[aa re]
 rw[hE1,hD1]at ku
 try dsimp only
 rw[show(cD 2 []).length=32 from wO.1]at*;have rE:=ae ku;have Hv:=ae (au.aI (S:=S) Jv);clear ku ay Jv W8 HC hE1 hD1;go_wp2_with fail
 refine rE.m ?_;rintro w2 ⟨S2,ui,gw⟩;have lJ:=ae ui;have oK:=ae (Hv.trans gw);clear ui gw rE Hv re;have kP:∀ (w3:World) (S3:Nat->Prop) (X:DS×Int),Ref w3 p S3 X.1->au S S3 w w3->∃S',Ref (w3.alloc (.cells #[zq p,zi 2,zi (L:Int)] 55)) p S' X.1/\au S S' w (w3.alloc (.cells #[zq p,zi 2,zi (L:Int)] 55))/\gX (w3.alloc (.cells #[zq p,zi 2,zi (L:Int)] 55)) w3.heap.size p 2 L/\¬S' w3.heap.size/\w.heap.size<=w3.heap.size:=fun w3 S3 X hr ht =>⟨S3,hr.below (zBr.alloc zNr _),ht.trans (au.alloc S3 _ _),qAB _ _,fun hs=>by have:=hr.lt _ hs;omega,ht.size⟩
 have AO:=ae kP;clear kP;by_cases hE1:X1.2=0
 ·have mh:X2=(X1.1.write 1 (af 32),X1.1.bN 1 (af 32)):=by rw[aa W4];exact me hE1 _ _
  rw[hE1];have HX3:=ae mh;clear mh W4 hE1;go_wp2_with (at_make;refine bV rfl _ _ 29 rfl i0 underlying29 dU cO cU cV _ _ _ _ 32 rfl rfl rfl rfl Sg ?_)
  intro w3 Af xF bD;have ku:=mH 1 (some (zp w2.heap.size)) 32 (af 32) (lJ.below bD) (by rw[Mk.1];exact ew) (rC Af mF);have hE2:X1.1.bN 1 (af 32)=X2.2:=by rw[aa HX3]
  have hD2:X1.1.write 1 (af 32)=X2.1:=by rw[aa HX3]
  rw[hE2,hD2,ag]at ku;have rE:=ae ku;have MD:=ae (oK.trans (au.aI bD));go_wp2_with fail
  refine rE.m ?_;rintro w4 ⟨S4,rG,vM⟩;have HR4:=ae rG;have HT4:=ae (MD.trans vM);by_cases hE2:X2.2=0
  ·have yE:=pq hE2;have lF:=pY HR4 (by rw[Mk.2];exact ew);rw[<-aa HXF]at yE;have hE3:X2.1.cG=X3.2:=by rw[yE]
   have hD3:X2.1.ba=X3.1:=by rw[yE]
   rw[hE3,hD3]at lF;have Hy:=ae lF;rw[hE2];clear lF yE hE3 hD3 hE2 HR4;go_wp2_with fail
   refine Hy.m ?_;rintro w5 ⟨uP,Pk⟩;have sg:=AO w5 S4 X3 uP (HT4.trans Pk);have ze6:=ae sg;clear sg uP Pk;exact zkO
  ·have yE:X3=X2:=by rw[aa HXF];exact eO hE2
   subst yE;have sg:=AO w4 S4 X3 HR4 HT4;have ze6:=ae sg;clear sg;exact zkO
 ·have mh:X2=X1:=by rw[aa W4];exact iV hE1 _ _
  have yE:X3=X1:=by rw[aa HXF,mh];exact eO hE1
  subst yE;have sg:=AO w2 S2 X3 lJ oK;have ze6:=ae sg;clear sg mh W4;exact zkO
end
theorem zlC(l:List (Int×LI)) z k:(List.range k).any (fun j=>(l.getD j (0,[])).1 == z)=true ↔ ∃j,j<k/\(l.getD j (0,[])).1=z:=by
 rw[qBH];constructor
 ·rintro ⟨j,hj,hz⟩;exact⟨j,qAw.1 hj,by simpa using hz⟩
 ·rintro ⟨j,hj,hz⟩;exact⟨j,qAw.2 hj,by simpa using hz⟩
theorem QE x i b:(dq x i b).1.secs.length=x.1.secs.length:=by
 unfold dq;split
 ·show(x.1.write i b).secs.length=_;rw[fS]
 ·rfl
theorem QG x:(di x).1.secs.length=x.1.secs.length:=by
 unfold di;split
 ·rw[CB]
 ·rfl
theorem Dc x f:∀k,(iY x f k).1.secs.length=x.1.secs.length
 | 0=>rfl
 | k+1=>by
  show(dq (iY x f k) _ _).1.secs.length=_
  rw[QE,Dc x f k]
theorem Og{base e size}{v}{n}{xs}(h:w.ownsRow base e size v n xs)(ht:au S S' w w')(hn:∀g,v.ownBlock=some g->¬S g):w'.ownsRow base e size v n xs/\∀g,v.ownBlock=some g->¬S' g :=⟨bJ h (fun g hg=>ht.block g (KR h g hg) (hn g hg)),fun g hg hs=>hn g hg (ht.bA g (KR h g hg) hs)⟩
structure Rc (w0 w:World) (p q L:Nat) (s:Int) (S0 S:Nat->Prop) (X:DS×Int) (bv:Value) (ml:LI):Prop where
 ref:Ref w p S X.1
 pg:gX w q p s L
 out:¬S q
 cQ:au S0 S w0 w
 own:cW w w0.heap.size bv ml
 zgA:∀g,bv.ownBlock=some g->¬S g
theorem Rc.step(h:Rc w0 w p q L s S0 S X bv ml)(hr:Ref w' p S' X'.1)(ht:au S S' w w'):Rc w0 w' p q L s S0 S' X' bv ml :=⟨hr,(h.pg.cQ ht h.out).1,(h.pg.cQ ht h.out).2,h.cQ.trans ht,(Og h.own ht h.zgA).1,(Og h.own ht h.zgA).2⟩
theorem Rc.below(h:Rc w0 w p q L s S0 S X bv ml)(hb:zB w w'):Rc w0 w' p q L s S0 S X bv ml :=h.step (h.ref.below hb) (au.aI hb)
theorem Rc.append{v':Value}{ml':LI}{o}(h:Rc w0 w p q L s S0 S X bv ml)(hg:(w.alloc o).grownBy w' bv.ownBlock)(ho:cW w' w0.heap.size v' ml')(rI:v'.ownBlock=bv.ownBlock\/v'.ownBlock=some (w.alloc o).heap.size):Rc w0 w' p q L s S0 S X v' ml':=by
 have fC:∀k,k<w.heap.size->bv.ownBlock≠some k->w'.heap[k]?=w.heap[k]?:=fun k hk aG=>(hg.block k Tb (fun e=>aG e.symm)).trans (qAb _ _ hk)
 have bW:w.heap.size<=w'.heap.size:=by have:=hg.size;simp at this;omega
 refine⟨h.ref.same bW (fun k hk=>fC k (h.ref.lt k hk) (fun e=>h.zgA k e hk)),h.pg.same (fC q h.pg.lt (KQ h.own h.pg Si)),h.out,?_,ho,fun g Px hs=>?_⟩
 ·refine⟨hg.os.trans h.cQ.os,hg.tape.trans h.cQ.tape,hg.output.trans h.cQ.output,qAF h.cQ.size bW,fun k hk hn=>?_,h.cQ.bA⟩;rw[fC k (qAL hk h.cQ.size) (fun e=>by have:=rU h.own k e;omega)];exact h.cQ.block k hk hn
 ·rcases rI with e|e
  ·exact h.zgA g (e.symm.trans Px) hs
  ·rw[e]at Px;have:=h.ref.lt g hs;have e2:=zOi Px;simp at e2;omega
def Qt(w w':World):Prop:=zB w w'/\∀k:Nat,w'.heap[k]?=w.heap[k]?
theorem Qt.refl w:Qt w w:=⟨zBr,fun _=>rfl⟩
theorem Qt.drewN(h:Qt w w') n:Qt w (w'.drewN n):=⟨below_drewN h.1 n,h.2⟩
theorem Qt.cell(h:Qt w w') a:w'.cell? a=w.cell? a:=qAJ (h.2 a.block)
section
variable {w:World} {p q:Nat} {S:Nat->Prop} {D:DS} {s:Int} {L:Nat}
theorem KM a n cap(hn:23<n)(hm:n<=140737488351232) :
  zC 34 #[zq q,.slice a n cap] w (zr (zi 4) fun w'=>w=w'):=by
 go_enter func34,ntmps34
 exact Tt
theorem N5(h:Ref w p S D)(hq:gX w q p s L) a cap :
  zC 34 #[zq q,.slice a 0 cap] w (zr (zi (if D.down then 9 else 0)) fun w'=>w=w'):=by
 have c0:=hq.c0;obtain⟨sv,lv,left,h⟩:=h;have c3:=h.c3;cases hd:D.down
 ·exact FU
 ·exact FU
theorem KL(h:Ref w p S D)(hq:gX w q p s L)(Rk:¬S q) b off cap l(hl:qz w S (some ⟨b,off,none⟩) cap l)(hbq:b≠q)(aG:l≠[])(hn:l.length<=23)(zoj:48+L<=D.secs.length)(Wo:L<=200)(h0:0<=s)(h1:s<10000) :
  zC 34 #[zq q,.slice (some ⟨b,off,none⟩) l.length cap] w (zr (zi (aj D s L l).2.2) fun w'=>∃S',Ref w' p S' (aj D s L l).1/\gX w' q p (aj D s L l).2.1 L/\¬S' q/\au (plus S q) (plus S' q) w w'):=by
 obtain⟨C1,e1⟩:∃C1,C1=di (iY (D,0) (fun i=>(2+23*((s+1)%2)+i,(l.getD i (0,[])).2)) l.length):=⟨_,rfl⟩;obtain⟨C2,e2⟩:∃C2,C2=di (dq C1 ((s+1)%2) (cD (s+1) (bM l))):=⟨_,rfl⟩;obtain⟨C3,e3⟩:∃C3,C3=di (iY C2 (fun i=>(48+(l.getD i (0,[])).1,(l.getD i (0,[])).2)) l.length):=⟨_,rfl⟩;have C4:cH L l=chkK L l l.length:=by unfold cH;rw[zn Sg]
 have Mg:Hid (chkK L l l.length=0->aj D s L l=(C3.1,if C3.2=0 then s+1 else s,C3.2)):=ae (fun hz=>by
  have hv:=lO (show cH L l=0 by rw[C4];exact hz);rw[xZ (by rw[C4];exact hz) aG Sg Sg];have hm:dH (s+1) (bM l)=(cD (s+1) (bM l),0):=(lA hv Sg Sg).1;have hB:bE C1 ((s+1)%2) (s+1) l=C2:=by
   unfold bE;by_cases hx:C1.2=0
   ·rw[zy hx,hm,zy rfl,e2]
   ·rw[zn hx,e2,iV hx]
  have cF:aM D s l=C3:=by unfold aM;rw[show bR D ((s+1)%2) l=C1 from e1.symm,hB,e3];rfl
  rw[cF])
 have HDN:Hid (chkK L l l.length=0->D.down=true->aj D s L l=(D,s,9)):=ae (fun hz hd=>by unfold aj;rw[zn (by rw[C4,hz];exact fun h=>h rfl),zy hd]);have Mm:Hid (chkK L l l.length≠0->aj D s L l=(D,s,chkK L l l.length)):=ae (fun hz=>by unfold aj;rw[zy (by rw[C4];exact hz),C4]);have HVL:Hid (chkK L l l.length=0->Valid L l):=ae (fun hz=>lO (by rw[C4];exact hz));generalize hR:aj D s L l=R at*;have HPO:=ae hl;obtain⟨jC,gS,l7⟩:=hl;obtain⟨b',off',e',hSb,bf⟩:=l7 aG;simp only[qAQ,qBI,qBj]at e';obtain⟨rfl,rfl⟩:=e';have H:=ae h;have HQ:=ae hq;have HC:=ae bf;have E1:=ae e1;have E2:=ae e2;have E3:=ae e3;have ew:0<l.length:=qBE.2 aG;have xG:b<w.heap.size:=qAA (bf 0 ew).1;clear bf l7 aG hR C4 e1 e2 e3 h hq;generalize hN:l.length=N at*;have HN:=ae hN;clear hN;obtain⟨K,hK⟩:∃K,chkK L l N=K:=⟨_,rfl⟩;rw[hK]at Mg HDN Mm HVL;have HK:=ae hK;clear hK;go_enter func34,ntmps34
 go_upto_region 3 with fail
 go_cut [5]from 18 to 18 (fun v wx=>v=zi 0/\wx=w)
 case first =>
  go_wp2;go_meet
  case rel=>exact Uq
 case rest =>
  obtain⟨rfl,rfl⟩:=hcut;refine(‹∀ (a:Act) (w:World),Code.wp prog (Code.block _ _) _ a w->_›) _ _ ?_;go_cut [5]from 18 to 64 (fun v wx=>K=0/\Qt wc wx)
  case first =>
   -- the check
   go_wp2_with fail
   go_loopw [5] (fun v wr=>∃k:Nat,k<=N/\v=zi k/\Qt wc wr/\chkK L l k=0) (fun v _=>N-(intOf v).toNat)
   case atStart=>exact⟨0,qAH _,rfl,Qt.refl _,rfl⟩
   case round =>
    obtain⟨k,hk,rfl,ku,hz⟩:=hrel;by_cases aB:k<N
    ·obtain⟨c0,ab,capb,c1,aH,_,Lm,ui⟩:=HC k aB;rw[<-qBq]at c1;have Ju:=aH.2.2.1;have yK:chkK L l (k+1)=ik L l k:=by show(if chkK L l k=0 then _ else _)=_;rw[zy hz]
     have vN:ik L l k≠0->K=ik L l k:=fun hp=>by rw[<-aa HK,BZ (k:=k+1) (by rw[yK];exact hp) N Sg,yK]
     unfold ik at yK vN;have Vd:=ae yK;have U8:=ae vN;have zaH:=ae (zlC l (l.getD k (0,[])).1 k);have d0:wr.cell? ⟨b,off+k*2,none⟩=some (zi (l.getD k (0,[])).1):=by rw[ku.cell];exact c0
     have d1:wr.cell? ⟨b,off+k*2+1,none⟩=some (.slice ab (l.getD k (0,[])).2.length capb):=by rw[ku.cell];exact c1
     have d2:wr.cell? (zw q 2)=some (zi (L:Int)):=by rw[ku.cell];exact HQ.c2
     have rE:=ae ku;have zid:Hid (∀x,K≠0->∃S',Ref ((wr.drewN x)) p S' R.1/\gX (wr.drewN x) q p R.2.1 L/\¬S' q/\au (plus S q) (plus S' q) wc (wr.drewN x)):=ae (fun x hk=>by rw[Mm hk];have hb:zB wc (wr.drewN x):=(ku.drewN x).1;exact⟨S,H.below hb,HQ.below hb,Rk,(au.aI hb).plus q⟩);clear hz aH yK vN c0 c1 ku;generalize hzz:(l.getD k (0,[])).1=z at*;generalize (l.getD k (0,[])).2.length=bl at*;generalize (List.range k).any (fun j=>(l.getD j (0,[])).1 == z)=A at*;have HZZ:=ae hzz;clear hzz;by_cases eT:z<0\/(L:Int)<=z
     ·have hK1:K=1:=by have:=aa U8;rw[zy eT]at this;exact this Si
      have DH:=ae hK1;have Jr:z<0\/(¬z<0/\(L:Int)<=z):=Sg;clear U8 Vd eT hK1;rcases Jr with g1|⟨g1,g2⟩
      all_goals
       go_wp2_with fail
       go_quiet (fail)
       go_wp2;go_ret;have kF:=aa DH;refine⟨zjH,zid _ (by rw[kF];decide)⟩
     ·have yV:=U8;have xK:=Vd;rw[zn eT]at yV xK;have g1:¬z<0:=by omega
      have g2:¬(L:Int)<=z:=Sg;clear eT;go_wp2_with fail
      go_quiet (fail)
      have HWQ:=ae (rE.drewN nq);generalize wr.drewN nq=wq at*;have b0:=(HWQ.cell ⟨b,off+k*2,none⟩).trans (HC k aB).1;have b1:wq.cell? ⟨b,off+k*2+1,none⟩=some (.slice ab bl capb):=(HWQ.cell _).trans ((rE.cell _).symm.trans d1);rw[aa HZZ]at b0;have ziZ:Hid (∀wx,Qt wc wx->K≠0->∃S',Ref wx p S' R.1/\gX wx q p R.2.1 L/\¬S' q/\au (plus S q) (plus S' q) wc wx):=ae (fun wx Mt hk=>by rw[Mm hk];exact⟨S,H.below Mt.1,HQ.below Mt.1,Rk,(au.aI Mt.1).plus q⟩);clear d0 d1 d2 zid U8 Vd;by_cases lI:bl≠32
      ·have hK3:K=3:=by have:=aa yV;rw[zy lI]at this;exact this Si
       have JW:=ae hK3;have zqx:¬(bl:Int)=32:=Sg;clear yV xK lI hK3;go_wp2;go_ret;have kF:=aa JW;exact⟨zjH,ziZ _ HWQ (by rw[kF];decide)⟩
      ·rw[zn lI]at yV xK;obtain rfl:bl=32:=by omega
       clear lI;go_wp2_with fail
       go_loopw [6] (fun v wr=>∃j:Nat,j<=k/\v=zi j/\Qt wc wr/\∀i,i<j->(l.getD i (0,[])).1≠z) (fun v _=>k-(intOf v).toNat)
       case atStart=>exact⟨0,qAH _,rfl,HWQ,fun i hi=>absurd hi (qAX i)⟩
       case round =>
        obtain⟨j,hj,rfl,Mt,bQ⟩:=hrel;by_cases hjk:j<k
        ·have j0:=(Mt.cell ⟨b,off+j*2,none⟩).trans (HC j Sg).1;have k0:=(Mt.cell ⟨b,off+k*2,none⟩).trans (HC k aB).1;rw[aa HZZ]at k0;have HQT:=ae Mt;have AP:=ae bQ;have AY:Hid ((l.getD j (0,[])).1=z->A=true):=ae (fun e=>zaH.2 ⟨j,hjk,e⟩);clear Mt bQ b0 b1;generalize hjj:(l.getD j (0,[])).1=zj at*;have HJJ:=ae hjj;clear hjj;have e1:(j:Int)<(N:Int):=by omega
         have e2:(k:Int)<(N:Int):=Sg;by_cases hzj:zj=z
         ·have hA:=AY hzj;have hK7:K=7:=by have:=aa yV;rw[zy hA]at this;exact this Si
          have HK7:=ae hK7;clear hK7 hA yV xK;subst hzj;go_wp2_with fail
          go_quiet (fail)
          go_wp2;go_ret;have kF:=aa HK7;exact⟨zjH,ziZ _ (HQT.drewN _) (by rw[kF];decide)⟩
         ·have HZJ:=ae hzj;go_wp2_with fail
          go_quiet (fail)
          go_wp2;go_roundw
          case rel=>exact⟨j+1,Sg,Tc,HQT.drewN _,fun i hi=>by
           by_cases e:i=j
           ·subst e;rw[aa HJJ];exact HZJ
           ·exact AP i Sg⟩
          case measure=>exact Te
        ·obtain rfl:j=k:=by omega
         have hA:¬A=true:=fun hA=>by obtain⟨i,hi,he⟩:=zaH.1 hA;exact bQ i hi he
         have vP:=aa xK;rw[zn hA]at vP;have HC0:=ae vP;have HQT:=ae Mt;clear hA vP Mt bQ yV xK;go_wp2;go_roundw
         case rel=>exact⟨j+1,Sg,Tc,HQT,HC0⟩
         case measure=>exact Te
    ·obtain rfl:k=N:=by omega
     have hK0:K=0:=by rw[<-aa HK];exact hz
     have HK0:=ae hK0;have CO:=ae ku;clear hz hK0 ku;go_wp2;go_meet
     case rel=>exact⟨HK0,CO⟩
   -- behind it
  case rest =>
   obtain⟨hK0,Mt⟩:=hcut;have hr:=H.below Mt.1;have sl:=HQ.below Mt.1;have q0:=sl.c0;have q1:=sl.c1;have uQ:wc.cell? (zw p 3)=some (.bool D.down):=by obtain⟨sv,lv,left,hh⟩:=hr;exact hh.c3
   have oZ:=HVL hK0;by_cases hd:D.down=true
   ·rw[hd]at uQ;have Fp:=HDN hK0 hd;have HR:=ae hr;have HPG:=ae sl;have HQT:=ae Mt;clear hr sl Mt Mg Mm HDN;go_wp2;go_ret;rw[Fp];exact⟨rfl,S,HR,HPG,Rk,(au.aI HQT.1).plus q⟩
   ·rw[show D.down=false by simpa using hd]at uQ;have Fp:=Mg hK0;have HRR:=ae Fp;have hpo:=HPO.below Mt.1;have HCW:Hid (∀wx Sx,au S Sx wc wx->∀i,i<N->wx.cell? ⟨b,off+i*2,none⟩=some (zi (l.getD i (0,[])).1)/\∃ab capb,wx.cell? ⟨b,off+i*2+1,none⟩=some (.slice ab (l.getD i (0,[])).2.length capb)/\Bs wx ab capb (l.getD i (0,[])).2):=ae (fun wx Sx ht i hi=>by obtain⟨_,_,h3⟩:=hpo.cQ ht;obtain⟨b',off',e',_,hc⟩:=h3 (by intro e;have:=aa HN;rw[e]at this;simp at this;omega);simp only[qAQ,qBI,qBj]at e';obtain⟨rfl,rfl⟩:=e';obtain⟨c0,ab,capb,c1,aH,_⟩:=hc i zhP;rw[<-qBq]at c1;exact⟨c0,ab,capb,c1,aH⟩);have W6:Hid (∀i,i<N->0<=(l.getD i (0,[])).1/\(l.getD i (0,[])).1<=255):=ae (fun i hi=>by have:=oZ.num i zhP;omega);have HMB:Hid (fq (l.map (·.1)) N=bM l):=ae (by unfold fq bM;rw[qAP (by rw[zLm,aa HN];exact zNr),zLm]);have HMS:Hid (∀k,k<N->fq (l.map (·.1)) (k+1)=fq (l.map (·.1)) k++[(l.getD k (0,[])).1]):=ae (fun k hk=>by rw[ER (by rw[zLm,aa HN];exact hk),pJ l (by rw[aa HN];exact hk)]);have HM0:Hid (fq (l.map (·.1)) 0=[(N:Int)]):=ae (by unfold fq;rw[zLm,aa HN];rfl);have HML:Hid (∀k,k<=N->(fq (l.map (·.1)) k).length=k+1):=ae (fun k hk=>by unfold fq;simp;rw[aa HN];omega);have HBM:Hid (bZ (bM l)):=ae (JS oZ Wo);have zfe:Hid ((bM l).length=N+1):=ae (by rw[iQ,aa HN]);generalize l.map (·.1)=cz at*;have hRf:=ae hr;have HPG:=ae sl;have HQT:=ae Mt;have ziD:0<D.secs.length:=by omega
    clear hr sl Mt Mm HDN Mg oZ hpo HVL HK HC H HQ Fp;obtain⟨i0,dU,cO,cU,cV⟩:=qAO dw;have zrF:(N:Int)<=255:=Sg;have tL:(s+1)%2=0\/(s+1)%2=1:=Sg;obtain⟨W,hW⟩:∃W:Nat->DS×Int,W=iY (D,0) (fun i=>(2+23*((s+1)%2)+i,(l.getD i (0,[])).2)):=⟨_,rfl⟩;have MC:Hid (W 0=(D,0)):=ae zcY;have HWS:Hid (∀k,W (k+1)=dq (W k) (2+23*((s+1)%2)+k) (l.getD k (0,[])).2):=ae (fun k=>zcY);have HWL:Hid (∀k,(W k).1.secs.length=D.secs.length):=ae (fun k=>by rw[hW];exact Dc _ _ k);have qt:Hid (C1=di (W N)):=ae (by rw[hW];exact E1);clear hW E1;generalize hwA:wc=wA at*;clear hwA;have hnz:((N:Int) == 0)=false:=Tb;go_upto_region 23 with fail
    generalize (s+1)%2=sd at*;have sd0:0<=sd:=Sg;have sd1:sd<=1:=Sg;have zns:Rc wA (wA.alloc (.cells #[.int .u8 (N:Int)] 5)) p q L s S S (W 0) (.slice (some (zp wA.heap.size)) 1 1) (fq cz 0):=by
     have hb:zB wA (wA.alloc (.cells #[.int .u8 (N:Int)] 5)):=zBr.alloc zNr _;refine⟨by rw[aa MC];exact hRf.below hb,HPG.below hb,Rk,au.aI hb,?_,fun g hg hs=>?_⟩
     ·rw[aa HM0];exact Oi zNr (qAB _ _)
     ·have:=hRf.lt g hs;simp[Value.ownBlock]at hg;omega
    have zlN:=ae zns;clear zns hRf HPG;go_cut [11]from 86 to 86 (fun v wx=>v=zi 0/\wx=wA.alloc (.cells #[.int .u8 (N:Int)] 5))
    case first =>
     go_wp2;go_meet
     case rel=>exact Uq
    case rest =>
     obtain⟨rfl,rfl⟩:=hcut;refine(‹∀ (a:Act) (w:World),Code.wp prog (Code.block _ _) _ a w->_›) _ _ ?_;go_cut [9,10,11]from 86 to 117 (fun u v _ wx=>∃S3,v=zi (W N).2/\Rc wA wx p q L s S S3 (W N) u (bM l))
     case first =>
      go_wp2_with fail
      go_loopw [9,10,11] (fun u v x wr=>∃ (k:Nat) (S3:Nat->Prop),k<=N/\x=zi k/\v=zi (W k).2/\Rc wA wr p q L s S S3 (W k) u (fq cz k)) (fun _ _ x _=>N-(intOf x).toNat)
      case atStart=>exact⟨0,S,qAH _,rfl,by rw[aa MC],zlN⟩
      case round =>
       obtain⟨k,S3,hk,rfl,rfl,o5⟩:=hrel;clear zlN;by_cases aB:k<N
       ·obtain⟨c0,ab,capb,c1,aH⟩:=HCW wr S3 o5.cQ k aB;obtain⟨z0,z1⟩:=W6 k aB;have az:=o5.own;unfold cW at az;rw[HML k hk]at az;have HO:=ae (qBP az (.cells #[.int .u8 (l.getD k (0,[])).1] 5));have HSU:=ae (HMS k aB);have Ct:=HML (k+1) Sg;have bW:=o5.cQ.size;have HRC:=ae o5;have HWK:=ae (HWS k);have znu:0<(W k).1.secs.length:=by rw[HWL k];exact ziD
        clear az aH o5 c1;generalize (l.getD k (0,[])).1=z at*;go_wp2_with (at_builtin;refine wpList_append_own_at _ rfl _ _ 29 rfl wA.heap.size 5 i0 (.int .u8 0) 1 1 underlying29 dU cO cU cV rfl Si _ _ _ rfl HO (zp wr.heap.size) 1 1 [.int .u8 z] rfl rfl (xx _ _ _) (ed [z]) Ts Sg Tb ?_)
        intro v9 w9 aU l8 _ zof;have ho9:cW w9 wA.heap.size v9 (fq cz (k+1)):=by unfold cW;rw[Ct,aa HSU,qAc];exact aU
        have Zq:=HRC.append l8 ho9 (by simp only[zB,size_alloc];exact zof);obtain⟨_,ab2,capb2,c1,gy⟩:=HCW w9 S3 Zq.cQ k aB;have q09:=Zq.pg.c0;have ku:∀wx,Qt w9 wx->zC 17 #[zq p,zi (2+23*sd+k),.slice ab2 (l.getD k (0,[])).2.length capb2] wx (zr (zi ((W k).1.bN (2+23*sd+k) (l.getD k (0,[])).2)) fun w'=>∃S4,Ref w' p S4 ((W k).1.write (2+23*sd+k) (l.getD k (0,[])).2)/\au S3 S4 w9 w'):=fun wx hx =>(mH (2+23*sd+k) ab2 capb2 (l.getD k (0,[])).2 (Zq.ref.below hx.1) znu (gy.below hx.1)).mono fun e w' ⟨he,S4,hr,ht⟩=>⟨he,S4,hr,(au.aI hx.1).trans ht⟩
        have zh9:Hid (¬S3 b):=ae (fun hs=>hSb (Zq.cQ.bA b (by have:=HQT.1.size;omega) hs));have rE:=ae ku;have ze7:=ae Zq;clear aU l8 zof ho9 Zq ku gy HO HRC HSU Ct;generalize (l.getD k (0,[])).2=bd at*;have HLB:Hid (∃bl,bd.length=bl):=ae ⟨_,rfl⟩;obtain⟨bl,fC⟩:=aa HLB;rw[fC]at c1 rE;clear fC HLB;by_cases hE:(W k).2=0
        ·have hW1:W (k+1)=((W k).1.write (2+23*sd+k) bd,(W k).1.bN (2+23*sd+k) bd):=by rw[aa HWK];exact me hE _ _
         rw[hE];have jF:=ae hW1;have Rw:Hid (IntKind.i64.wrap (IntKind.i64.wrap (2+IntKind.i64.wrap (23*sd))+(k:Int))=2+23*sd+k):=ae zaO;clear hW1 hE;go_wp2_with fail
         go_region_held3 (fun w'=>w'.cell? (zp q)=some (zq p)/\w'.cell? ⟨b,off+k*2+1,none⟩=some (.slice ab2 bl capb2)) (first | go_keep | (go_split_ands;refine⟨?_,?_⟩ <;> go_keep))
          (first | (go_at_call 17;rw[aa Rw];refine(rE _ zme).m ?_;rintro wb ⟨S4,rG,vM⟩;have TV:=ze7.step (X':=W (k+1)) (by rw[aa jF];exact rG) vM;have rb1:=TV.pg.c0;have rb2:wb.cell? ⟨b,off+k*2+1,none⟩=some (.slice ab2 bl capb2):=zpq))
         all_goals
          go_wp2;go_roundw
          case rel=>first | exact⟨k+1,S4,Sg,Tc,zaf,TV⟩ | ((repeat apply Exists.intro);exact⟨⟨k+1,S4,Sg,Tc,zaf,TV⟩,rfl⟩)
          case measure=>exact Te
        ·have hW1:W (k+1)=W k:=by rw[aa HWK];exact iV hE _ _
         have jF:=ae hW1;clear hW1;go_wp2;go_roundw
         case rel=>first | exact⟨k+1,S3,Sg,Tc,zaf,by rw[aa jF];exact ze7⟩ | ((repeat apply Exists.intro);exact⟨⟨k+1,S3,Sg,Tc,zaf,by rw[aa jF];exact ze7⟩,rfl⟩)
         case measure=>exact Te
       ·obtain rfl:k=N:=by omega
        have HRC:=ae o5;clear o5;go_wp2;go_meet
        case rel=>exact⟨S3,rfl,by rw[<-aa HMB];exact HRC⟩
     case rest =>
      obtain⟨S3,rfl,o5⟩:=hcut;clear HWS MC HMS HM0 HML zlN HMB;have Zw:0<(W N).1.secs.length:=by rw[HWL N];exact ziD
      have TX:0<C1.1.secs.length:=by rw[aa qt,QG];exact Zw
      obtain⟨CM,hCM⟩:∃CM,CM=dq C1 sd (cD (s+1) (bM l)):=⟨_,rfl⟩;have hpM:0<CM.1.secs.length:=by rw[hCM,QE];exact TX
      have RJ:Hid (C2=di CM):=ae (by rw[hCM];exact E2);have Zv:0<C2.1.secs.length:=by rw[aa RJ,QG];exact hpM
      have Hz:=ae hCM;clear hCM E2 HWL;generalize W N=X0 at*;have HX:=ae o5;clear o5;go_upto_if 119 with fail
      go_cut [10]from 117 to 126 (fun v wx=>∃S4,v=zi C1.2/\Rc wA wx p q L s S S4 C1 u9 (bM l))
      case first =>
       by_cases hE:X0.2=0
       ·have hx:C1=(X0.1.ba,X0.1.cG):=by rw[aa qt];exact pq hE
        have AT:=HX.pg.c0;have Hy:=ae (pY HX.ref Zw);have sM:=ae hx;rw[hE];clear hx hE;go_wp2_with fail
        refine Hy.m ?_;rintro wb ⟨rG,vM⟩;have fP:=ae (HX.step (X':=C1) zfl vM);clear rG vM Hy;go_wp2;go_meet
        case rel=>exact⟨S3,WV,fP⟩
       ·have hx:C1=X0:=by rw[aa qt];exact eO hE
        have hb:(X0.2 == 0)=false:=zfo;have sM:=ae hx;clear hx;go_wp2;go_meet
        case rel=>exact⟨S3,WV,by rw[aa sM];exact HX⟩
      case rest =>
       obtain⟨S4,rfl,o5⟩:=hcut;obtain⟨a4,c4,hu9,jT⟩:=o5.own.bs HBM (by rw[aa zfe];omega);have tN:=II (s+1) a4 c4 (bM l) wc jT;have hmo:dH (s+1) (bM l)=(cD (s+1) (bM l),0):=by unfold dH;rw[zn Sg,zn (by rw[aa zfe];omega)]
       rw[hmo,aa zfe]at tN;rw[aa zfe]at hu9;subst hu9;have W8:=ae tN;have re:=ae o5;have lE:(cD (s+1) (bM l)).length=32:=dK _ _ (by rw[aa zfe];omega);clear tN hmo jT o5;go_wp2_with fail
       refine W8.mono ?_;rintro e w5 ⟨a5,c5,rfl,il,ziN⟩
       try dsimp only at il
       try dsimp only
       rw[lE];have HX5:=ae (re.below ziN);have oM:=ae il;clear il ziN W8;go_upto_if 132 with fail
       go_cut [10]from 117 to 133 (fun v wx=>v=zi C1.2/\wx=w5)
       case first =>
        by_cases hE:C1.2=0
        ·rw[hE];go_wp2;go_meet
         case rel=>exact⟨by rw[hE],rfl⟩
        ·have hb:(C1.2 == 0)=false:=by simp;exact hE
         go_wp2;go_meet
         case rel=>exact Uq
       case rest =>
        obtain⟨rfl,rfl⟩:=hcut;go_upto_if 135 with fail
        go_cut [10]from 117 to 143 (fun v wx=>∃S6,v=zi CM.2/\Rc wA wx p q L s S S6 CM (.slice a4 (N+1) c4) (bM l))
        case first =>
         by_cases hE:C1.2=0
         ·have hx:CM=(C1.1.write sd (cD (s+1) (bM l)),C1.1.bN sd (cD (s+1) (bM l))):=by rw[aa Hz];exact me hE _ _
          have AT:=HX5.pg.c0;have ku:=mH sd a5 c5 (cD (s+1) (bM l)) HX5.ref TX oM;rw[lE]at ku;have rE:=ae ku;have sM:=ae hx;rw[hE];clear hx hE ku;go_wp2_with fail
          refine rE.m ?_;rintro wb ⟨S6,rG,vM⟩;have fP:=ae (HX5.step (X':=CM) zfl vM);clear rG vM rE;go_wp2;go_meet
          case rel=>exact⟨S6,WV,fP⟩
         ·have hx:CM=C1:=by rw[aa Hz];exact iV hE _ _
          have hb:(C1.2 == 0)=false:=zfo;have sM:=ae hx;clear hx;go_wp2;go_meet
          case rel=>exact⟨S4,WV,by rw[aa sM];exact HX5⟩
        case rest =>
         obtain⟨S6,rfl,o5⟩:=hcut;have HX6:=ae o5;clear o5 HX5 oM re HX;go_upto_if 144 with fail
         go_cut [10]from 117 to 151 (fun v wx=>∃S4,v=zi C2.2/\Rc wA wx p q L s S S4 C2 (.slice a4 (N+1) c4) (bM l))
         case first =>
          by_cases hE:CM.2=0
          ·have hx:C2=(CM.1.ba,CM.1.cG):=by rw[aa RJ];exact pq hE
           have AT:=HX6.pg.c0;have Hy:=ae (pY HX6.ref hpM);have sM:=ae hx;rw[hE];clear hx hE;go_wp2_with fail
           refine Hy.m ?_;rintro wb ⟨rG,vM⟩;have fP:=ae (HX6.step (X':=C2) zfl vM);clear rG vM Hy;go_wp2;go_meet
           case rel=>exact⟨S6,WV,fP⟩
          ·have hx:C2=CM:=by rw[aa RJ];exact eO hE
           have hb:(CM.2 == 0)=false:=zfo;have sM:=ae hx;clear hx;go_wp2;go_meet
           case rel=>exact⟨S6,WV,by rw[aa sM];exact HX6⟩
         case rest =>
          obtain⟨S7,rfl,o5⟩:=hcut;obtain⟨V,hV⟩:∃V:Nat->DS×Int,V=iY C2 (fun i=>(48+(l.getD i (0,[])).1,(l.getD i (0,[])).2)):=⟨_,rfl⟩;have HV0:Hid (V 0=C2):=ae (by rw[hV];rfl);have HVS:Hid (∀k,V (k+1)=dq (V k) (48+(l.getD k (0,[])).1) (l.getD k (0,[])).2):=ae (fun k=>by rw[hV];rfl);have HVL:Hid (∀k,0<(V k).1.secs.length):=ae (fun k=>by rw[hV,Dc];exact Zv);have HVT:Hid (∀j k,(V k).2≠0->V (k+j)=V k):=ae (fun j=>by
           induction j with
           | zero=>intro k h;rfl
           | succ j ih=>intro k h;rw[<-qBq,HVS (k+j),ih k h];exact iV h _ _)
          have HC3:Hid (C3=di (V N)):=ae (by rw[hV];exact E3);have HX7:=ae o5;clear o5 HX6 hV E3 qt RJ Hz lE;generalize hwB:wc=wB at*;clear hwB;go_upto_region 38 with fail
          go_cut [14]from 150 to 150 (fun v wx=>v=zi 0/\wx=wB)
          case first =>
           go_wp2;go_meet
           case rel=>exact Uq
          case rest =>
           obtain⟨rfl,rfl⟩:=hcut;refine(‹∀ (a:Act) (w:World),Code.wp prog (Code.block _ _) _ a w->_›) _ _ ?_;go_cut [10,14]from 150 to 175 (fun v _ wx=>∃S8,v=zi (V N).2/\Rc wA wx p q L s S S8 (V N) (.slice a4 (N+1) c4) (bM l))
           case first =>
            go_wp2_with fail
            go_loopw [10,14] (fun v x wr=>∃ (k:Nat) (S8:Nat->Prop),k<=N/\x=zi k/\v=zi (V k).2/\Rc wA wr p q L s S S8 (V k) (.slice a4 (N+1) c4) (bM l)) (fun _ x _=>N-(intOf x).toNat)
            case atStart=>exact⟨0,S7,qAH _,rfl,by rw[aa HV0],by rw[aa HV0];exact HX7⟩
            case round =>
             obtain⟨k,S8,hk,rfl,rfl,o5⟩:=hrel;clear HX7;by_cases aB:k<N
             ·by_cases hE:(V k).2=0
              ·obtain⟨c0,ab,capb,c1,aH⟩:=HCW wr S8 o5.cQ k aB;obtain⟨z0,z1⟩:=W6 k aB;have q09:=o5.pg.c0;have hW1:V (k+1)=((V k).1.write (48+(l.getD k (0,[])).1) (l.getD k (0,[])).2,(V k).1.bN (48+(l.getD k (0,[])).1) (l.getD k (0,[])).2):=by rw[HVS k];exact me hE _ _
               have ku:∀wx,Qt wr wx->zC 17 #[zq p,zi (48+(l.getD k (0,[])).1),.slice ab (l.getD k (0,[])).2.length capb] wx (zr (zi ((V k).1.bN (48+(l.getD k (0,[])).1) (l.getD k (0,[])).2)) fun w'=>∃S9,Ref w' p S9 ((V k).1.write (48+(l.getD k (0,[])).1) (l.getD k (0,[])).2)/\au S8 S9 wr w'):=fun wx hx =>(mH (48+(l.getD k (0,[])).1) ab capb (l.getD k (0,[])).2 (o5.ref.below hx.1) (HVL k) (aH.below hx.1)).mono fun e w' ⟨he,S9,hr,ht⟩=>⟨he,S9,hr,(au.aI hx.1).trans ht⟩
               have zh9:Hid (¬S8 b):=ae (fun hs=>hSb (o5.cQ.bA b (by have:=HQT.1.size;omega) hs));have rE:=ae ku;have ze7:=ae o5;have jF:=ae hW1;clear o5 ku aH hW1;generalize (l.getD k (0,[])).1=z at*;generalize (l.getD k (0,[])).2=bd at*;have HLB:Hid (∃bl,bd.length=bl):=ae ⟨_,rfl⟩;obtain⟨bl,fC⟩:=aa HLB;rw[fC]at c1 rE;clear fC HLB;rw[hE];have Rw:Hid (IntKind.i64.wrap (48+z)=48+z):=ae zaO;clear hE;go_wp2_with fail
               go_region_held3 (fun w'=>w'.cell? (zp q)=some (zq p)/\w'.cell? ⟨b,off+k*2,none⟩=some (zi z)/\w'.cell? ⟨b,off+k*2+1,none⟩=some (.slice ab bl capb)) (first | go_keep | (go_split_ands;refine⟨?_,?_,?_⟩ <;> go_keep))
                (first | (go_at_call 17;rw[aa Rw];refine(rE _ zme).m ?_;rintro wb ⟨S9,rG,vM⟩;have TV:=ze7.step (X':=V (k+1)) (by rw[aa jF];exact rG) vM;have rb1:=TV.pg.c0;have rb0:wb.cell? ⟨b,off+k*2,none⟩=some (zi z):=(by exact(qAJ (a:=⟨b,off+k*2,none⟩) (vM.block b (qAA c1) zh9)).trans c0);have rb2:wb.cell? ⟨b,off+k*2+1,none⟩=some (.slice ab bl capb):=zpq))
               all_goals
                go_wp2;go_roundw
                case rel=>first | exact⟨k+1,S9,Sg,Tc,zaf,TV⟩ | ((repeat apply Exists.intro);exact⟨⟨k+1,S9,Sg,Tc,zaf,TV⟩,rfl⟩)
                case measure=>exact Te
              ·have hb:((V k).2 == 0)=false:=by simp;exact hE
               have eF:V N=V k:=by have:=HVT (N-k) k hE;rwa[show k+(N-k)=N by omega]at this
               have fP:=ae eF;have HRC:=ae o5;clear o5 eF;go_wp2;go_meet
               case rel=>exact⟨S8,by rw[aa fP],by rw[aa fP];exact HRC⟩
             ·obtain rfl:k=N:=by omega
              have HRC:=ae o5;clear o5;go_wp2;go_meet
              case rel=>exact⟨S8,rfl,HRC⟩
           case rest =>
            obtain⟨S8,rfl,o5⟩:=hcut;have hpV:=HVL N;have HX8:=ae o5;clear o5 HVS HV0 HVL HVT HX7 HCW W6;generalize V N=X8 at*;go_upto_if 177 with fail
            go_cut [10]from 150 to 184 (fun v wx=>∃S4,v=zi C3.2/\Rc wA wx p q L s S S4 C3 (.slice a4 (N+1) c4) (bM l))
            case first =>
             by_cases hE:X8.2=0
             ·have hx:C3=(X8.1.ba,X8.1.cG):=by rw[aa HC3];exact pq hE
              have AT:=HX8.pg.c0;have Hy:=ae (pY HX8.ref hpV);have sM:=ae hx;rw[hE];clear hx hE;go_wp2_with fail
              refine Hy.m ?_;rintro wb ⟨rG,vM⟩;have fP:=ae (HX8.step (X':=C3) zfl vM);clear rG vM Hy;go_wp2;go_meet
              case rel=>exact⟨S8,WV,fP⟩
             ·have hx:C3=X8:=by rw[aa HC3];exact eO hE
              have hb:(X8.2 == 0)=false:=zfo;have sM:=ae hx;clear hx;go_wp2;go_meet
              case rel=>exact⟨S8,WV,by rw[aa sM];exact HX8⟩
            case rest =>
             obtain⟨S9,rfl,o5⟩:=hcut;have q1:=o5.pg.c1;have qf:=o5.pg.fr 1;have HT:=ae (((au.aI (S:=S) HQT.1).trans o5.cQ).plus q);have HX9:=ae o5;clear o5 HX8;by_cases hE:C3.2=0
             ·rw[hE];go_wp2;go_ret;rw[aa HRR];refine⟨by rw[hE];rfl,S9,?_,?_,(aa HX9).out,HT.trans (au.setCell _ _ (.inr rfl))⟩
              ·exact HX9.ref.same Sk (fun g hg=>qAV _ _ _ _ (fun e=>(aa HX9).out (by rw[e]at hg;exact hg)))
              ·simp only[hE,if_true];exact HX9.pg.set (s+1)
             ·have hb:(C3.2 == 0)=false:=by simp;exact hE
              go_wp2;go_ret;rw[aa HRR];refine⟨rfl,S9,HX9.ref,?_,(aa HX9).out,HT⟩;rw[zn hE];exact HX9.pg
end
section
variable {w:World} {p:Nat} {S:Nat->Prop} {D:DS}
end
section
variable {w:World} {p:Nat} {S:Nat->Prop} {D:DS}
theorem Sl{P}{t:TypeId}(hu:P.underlying t=some (.slice 5))(bW:(P.info? 5).map (·.size)=some 1){x}{cap}(hb:Bs w (some x) cap l) i j(hij:i<=j)(hj:j<=l.length) :
  ∃y,(∀w',(Instr.slice t (.slice (some x) l.length cap) (some (zi i)) (some (zi j)) none).run P w'=.ok (.slice (some y) (j-i) (cap-i)) w')/\Bs w (some y) (cap-i) ((l.drop i).take (j-i)):=by
 have he:=kG hu;have ma:=hb.2.1;have hB:=(hb.drop i Sg).take (j-i);have cF:∀w',(Instr.slice t (.slice (some x) l.length cap) (some (zi i)) (some (zi j)) none).run P w'=.ok (.slice (if cap=i then some x else (some x).map (·.add i)) (j-i) (cap-i)) w':=fun w'=>by rw[run_slice_lh (P:=P) (w:=w') t (some x) l.length cap UW .i64 .i64 i j Sg Sg Sg,he,eR w' bW];simp[Result.andThen,sliced]
 by_cases hc:cap=i
 ·rw[zy hc]at hB;exact⟨x,fun w'=>by rw[cF w',zy hc],hB⟩
 ·rw[zn hc]at hB;exact⟨x.add i,fun w'=>by rw[cF w',zn hc];rfl,hB⟩
theorem UE x cap l w(hb:Bs w (some x) cap l) :
  zC 53 #[.slice (some x) l.length cap] w fun e w'=>∃a c,e=.returned (.slice a l.length c)/\Bs w' a c l/\(l≠[]->∀y,a=some y->w.heap.size<=y.block)/\zB w w':=by
 by_cases aG:l=[]
 ·subst aG;obtain⟨i0,dU,cO,cU,cV⟩:=qAO dw;clear hb;go_enter func53,ntmps53
  go_wp2_with (at_builtin;refine qBU (P:=prog) _ rfl _ _ 29 rfl w.heap.size 5 i0 (.int .u8 0) 1 1 underlying29 dU cO cU cV rfl Si (.slice none 0 0) 0 [] rfl (qBp _ _ _ _) x 0 cap [] rfl Sk (by intro j v hj;simp at hj) (ed []) Ts Sg zNr ?_)
  intro v w1 az fE _;have ho:cW w1 w.heap.size v []:=az;obtain⟨a,c,rfl,aH⟩:=ho.bs (fun z hz=>Vt) Sk;have ai:zB w w1:=⟨fE.os,fE.tape,fE.output,fE.size,fun k hk=>fE.block k hk (fun e=>TB)⟩;have HB:=ae aH;have HE:=ae ai;go_wp2;go_ret;exact⟨_,_,rfl,HB,fun h=>absurd rfl h,HE⟩
 ·exact(tY (some x) cap l w hb aG).mono fun e w' ⟨g,c,he,ho,ai⟩=>⟨some (zp g),c,he,ho.bs hb.1 hb.2.2.1,fun _ y hy=>by obtain rfl:=zOi hy;exact ho.base,ai⟩
theorem gX.zm5(h:gX w q m s L) k z:w.cell? (zw q k)≠some (.int .u8 z):=by rw[qAD w q k _ _ (0,0) h];rcases k with _|_|_|k <;> simp
theorem gX.apart(h:gX w q m s L){a}{c}(hb:Bs w a c l)(aG:l≠[]) y(hy:a=some y):y.block≠q:=by obtain⟨b,off,rfl,hc⟩:=hb.2.2.2.2 aG;obtain rfl:=zOi hy;intro e;have e':=e;subst e';exact h.zm5 _ _ (hc 0 (qBE.2 aG))
theorem zav{B:Nat}(h:Below B w w')(hq:B<=q) v:Below B w (w'.setCell (zw q i) v):=by
 have ht:=au.setCell (S:=fun k=>k=q) w' (a:=⟨q,i,none⟩) v rfl;exact⟨ht.os.trans h.os,ht.tape.trans h.tape,ht.output.trans h.output,qAF h.size ht.size,fun k hk=>by
  rcases qBT k w'.heap.size with h1|h1
  ·exact(ht.block k h1 (show ¬k=q by omega)).trans (h.block k hk)
  ·have h2:=h.block k hk;rw[<-h2,Array.getElem?_eq_none Y9,Array.getElem?_eq_none h1]⟩
structure Om (w w':World) (p L:Nat) (x:Int×Nat×LI) (v6 v7:Value):Prop where
 pg:gX w' w.heap.size p x.1 L
 at_:v6=zi (x.2.1:Nat)
 l:∃a c,v7=.slice a x.2.2.length c/\Bs w' a c x.2.2/\(x.2.2≠[]->∀y,a=some y->w.heap.size<y.block)
 below:zB w w'
theorem Om.step{x}{v6 v7}(h:Om w w' p L x v6 v7)(hb:zB w' w''):Om w w'' p L x v6 v7:=by obtain⟨a,c,h1,h2,h3⟩:=h.l;exact⟨h.pg.below hb,h.at_,⟨a,c,h1,h2.below hb,h3⟩,h.below.trans (hb.mono h.below.size)⟩
structure Ol (w w':World) (p L:Nat) (s:Int) (S0:Nat->Prop) (X:DS×Int) (al:OA) (cl:Nat) (l:LI) (S:Nat->Prop):Prop where
 ref:Ref w' p S X.1
 cQ:au S0 S w w'
 pg:gX w' w.heap.size p s L
 out:¬S w.heap.size
 bs:Bs w' al cl l
 nbs:l≠[]->∀y,al=some y->¬S y.block
theorem Ol.step{al}{cl}(h:Ol w w' p L s S0 X al cl l S)(hr:Ref w'' p S' X'.1)(ht:au S S' w' w''):Ol w w'' p L s S0 X' al cl l S' :=⟨hr,h.cQ.trans ht,(h.pg.cQ ht h.out).1,(h.pg.cQ ht h.out).2,(Bs.turns h.bs h.nbs ht).1,(Bs.turns h.bs h.nbs ht).2⟩
theorem zjS{b:LI}(h:(bL b).2.2=0):(bL b).2.1.length=24:=by exact Bl
theorem Ym(h:Ref w p S D)(jB:D.Ok)(hL:eo D.secs.length=L)(hL1:1<=L)(hd:D.down=false) :
  zC 36 #[zq p] w fun e w'=>∃v,e=zt #[v,zi (cj D L).2.2]/\∃S',Ref w' p S' (cj D L).1/\au S S' w w' /\
   ((cj D L).2.2=0->∃q,v=zq q/\gX w' q p (cj D L).2.1 L/\w.heap.size<=q/\¬S' q)/\((cj D L).2.2≠0->v=.pointer none):=by
 have Wo:L<=200/\48+L<=D.secs.length:=zkg;have HC:=ae (ET h hL Sg);have hLi:((L:Int) == 0)=false:=Tb;obtain⟨X,hX0,Mw,PJ⟩:∃X:Nat->Int×Nat×LI,X 0=(0,0,[])/\(∀i,i<2->X (i+1)=pick (X i) i (mark L (D.rd i)))/\X 2=nf L (D.rd 0) (D.rd 1) :=⟨fun i=>if i=0 then (0,0,[])else if i=1 then pick (0,0,[]) 0 (mark L (D.rd 0))else nf L (D.rd 0) (D.rd 1),rfl,fun i hi=>by have:i=0\/i=1:=Sg;rcases this with rfl|rfl <;> rfl,rfl⟩;have HXF:Hid ((X 2).2.1<2/\(X 2).2.2.length<=23/\∀z∈(X 2).2.2,0<=z/\z<(L:Int)):=ae (by
  have eF:∀ (x:Int×Nat×LI) (i:Nat),i<2->(x.2.1<2/\x.2.2.length<=23/\∀z∈x.2.2,0<=z/\z<(L:Int))->((pick x i (mark L (D.rd i))).2.1<2/\(pick x i (mark L (D.rd i))).2.2.length<=23/\∀z∈(pick x i (mark L (D.rd i))).2.2,0<=z/\z<(L:Int)):=fun x i hi hx=>by
   unfold pick;cases hm:mark L (D.rd i)with
   | none=>exact hx
   | some y =>
    obtain⟨s,l⟩:=y;have hf:=dE (jB.rd (show i<D.secs.length by omega)).2 hm;dsimp only;split
    ·exact⟨hi,hf.2.1,hf.2.2.1⟩
    ·exact hx
  rw[Mw 1 Sg];refine eF _ 1 Sg ?_;rw[Mw 0 Sg];refine eF _ 0 Sg ?_;rw[hX0];exact⟨Si,Sk,fun z hz=>Vt⟩)
 have H:=ae h;have re:=ae Mw;have W4:=ae PJ;have HX0:=ae hX0;have HOK:=ae jB;generalize hR:cj D L=R at*;have HR:=ae hR;clear h hX0 Mw PJ jB hR hL;go_enter func36,ntmps36
 go_wp2_with fail
 refine HC.m ?_;rintro w1 rfl;clear HC;go_wp2_with fail
 go_loopw [6,7,8] (fun v6 v7 v8 wr=>∃i:Nat,i<=2/\v8=zi i/\Om w wr p L (X i) v6 v7) (fun _ _ v _=>2-(intOf v).toNat)
 case atStart =>refine⟨0,Sg,rfl,?_⟩;rw[aa HX0];exact⟨qAB _ _,rfl,⟨none,0,rfl,eu _,fun aG=>absurd rfl aG⟩,zBr.alloc zNr _⟩
 case round =>
  obtain⟨i,hi,rfl,hom⟩:=hrel;by_cases aB:i<2
  ·have qx:=Bj i (H.below hom.below) Sg hd;have fI:kC (D.rd i):=HOK.rd Sg;have Rh:=re i aB;have tN:mark L (D.rd i)=if (bL (D.rd i)).2.2=0/\(bL (D.rd i)).2.1.getD 0 0<=23/\(∀z∈fp (bL (D.rd i)).2.1,z<L)then some ((bL (D.rd i)).1,fp (bL (D.rd i)).2.1)else none:=rfl
   rw[tN]at Rh;have h24:=@zjS (D.rd i);have uV:=ae qx;have HOM:=ae hom;have HXS:=ae Rh;have H24:=ae h24;have QO:=ae fI;clear qx hom Rh tN h24 fI;go_wp2_with fail
   refine uV.mono ?_;rintro e w2 ⟨⟨v,rfl,hv⟩,rfl⟩;obtain⟨g,c,rfl,hSg,_,aH⟩:=hv;have sW:=Yl (zo g) c (D.rd i) wr aH;rw[QO.1]at sW;have Hw:=ae sW;clear sW aH uV QO;generalize bL (D.rd i)=o at*;go_wp2_with fail
   refine Hw.mono ?_;rintro e w3 ⟨a3,c3,rfl,bD,PG⟩;have oE:=ae (HOM.step PG);have dF:=ae bD;clear bD PG HOM Hw;by_cases eQ:o.2.2=0
   ·have h24:=H24 eQ;obtain⟨b3,off3,rfl,vP⟩:=Bs.cell0 dF 0 Sg;have hBy:=dF.1;have Ua:∀t,t<24->w3.cell? ⟨b3,off3+t,none⟩=some (.int .u8 (o.2.1.getD t 0))/\0<=o.2.1.getD t 0/\o.2.1.getD t 0<=255:=fun t ht=>by obtain⟨b',o',e',hc⟩:=Bs.cell0 dF t Sg;simp only[qAQ,qBI,qBj]at e';obtain⟨rfl,rfl⟩:=e';refine⟨hc,?_⟩;have hm:=hBy (o.2.1.getD t 0) zjK;exact⟨hm.1,by have:=hm.2;omega⟩
    have MG:=ae Ua;have cO:=(Ua 0 Sg).2.1;rw[eQ,h24];rw[qAq]at vP;obtain⟨K,hK⟩:∃K:Nat,o.2.1.getD 0 0=(K:Int):=⟨(o.2.1.getD 0 0).toNat,Sg⟩;rw[hK]at vP;have HK:=ae hK;clear Ua hBy cO hK;by_cases zqk:K<=23
    ·have Wi:(K:Int)<=23:=by omega
     go_wp2_with fail
     go_loopw [15,16] (fun v15 v16 wx=>∃j:Nat,j<=K/\v16=zi ((j:Int)+1)/\v15=.bool (decide (∀t,t<j->o.2.1.getD (t+1) 0<(L:Int)))/\wx=w3) (fun _ v _=>K+1-(intOf v).toNat)
     case atStart=>exact⟨0,Sg,rfl,Sk,rfl⟩
     case round =>
      obtain⟨j,hj,rfl,rfl,rfl⟩:=hrel;by_cases o7:j<K
      ·obtain⟨hcj,zj0,zj1⟩:=MG (j+1) Sg;have hji:(j:Int)+1<=K:=by omega
       by_cases Ug:∀t,t<j->o.2.1.getD (t+1) 0<(L:Int)
       ·rw[qAE Ug];by_cases Ad:o.2.1.getD (j+1) 0<(L:Int)
        ·have hde:(∀t,t<j+1->o.2.1.getD (t+1) 0<(L:Int)):=fun t ht=>by
          rcases qBT t j with h1|h1
          ·exact Ug t h1
          ·obtain rfl:t=j:=by omega
           exact Ad
         have HDE:=ae hde;clear hde Ug;generalize o.2.1.getD (j+1) 0=z at*;go_wp2;go_roundw
         case rel=>first | exact⟨j+1,Sg,zol,by rw[qAE (aa HDE)],by trivial⟩ | ((repeat apply Exists.intro);exact⟨⟨j+1,Sg,zol,by rw[qAE (aa HDE)],by trivial⟩,rfl⟩)
         case measure=>exact Te
        ·have hde:¬(∀t,t<j+1->o.2.1.getD (t+1) 0<(L:Int)):=fun hc=>Ad (hc j Sg)
         have HDE:=ae hde;clear hde Ug;generalize o.2.1.getD (j+1) 0=z at*;exact se
       ·rw[qAG Ug];have hde:¬(∀t,t<j+1->o.2.1.getD (t+1) 0<(L:Int)):=fun hc=>Ug (fun t ht=>hc t Sg)
        have HDE:=ae hde;clear hde Ug;exact se
      ·obtain rfl:j=K:=by omega
       have hji:¬(j:Int)+1<=j:=Sg;have l6:(∀z∈fp o.2.1,z<(L:Int)) ↔ (∀t,t<j->o.2.1.getD (t+1) 0<(L:Int)):=by
        unfold fp;rw[aa HK,zTn];constructor
        ·intro hz t ht;apply hz;rw[qAC,zLg Sg];refine List.mem_iff_getElem.2 ⟨t,Tb,?_⟩;simp
        ·intro hz z hm;obtain⟨t,ht,rfl⟩:=List.mem_iff_getElem.1 hm;have htj:t<j:=by simp at ht;omega
         have:=hz t htj;rw[qAC,zLg Sg]at this;simpa[Nat.add_comm]using this
       have uv:=oE;obtain⟨sl,rI,⟨al,cl,rfl,fC,lF⟩,rH⟩:=aa oE;have TX:=sl.c1;have hpf:=sl.fr 1;have HHB:=ae fC;have HPG:=ae sl;have qo:=ae rH;clear fC sl rH lF;by_cases Ug:∀t,t<j->o.2.1.getD (t+1) 0<(L:Int)
       ·rw[qAE Ug];have hx:X (i+1)=if (X i).1<o.1 then (o.1,i,fp o.2.1)else X i:=by rw[aa HXS,zy ⟨eQ,by rw[aa HK];omega,l6.2 Ug⟩];rfl
        by_cases hs:(X i).1<o.1
        ·rw[zy hs]at hx;obtain⟨y,psl,zho⟩:=Sl (P:=prog) (t:=29) underlying29 aT dF 1 (1+j) Sg Sg;rw[h24,show 1+j-1=j by omega,show((1:Nat):Int)=1 from rfl,show((1+j:Nat):Int)=1+(j:Int) by omega]at psl;have xU:fp o.2.1=(o.2.1.drop 1).take j:=by unfold fp;rw[aa HK,zTn]
         rw[show 1+j-1=j by omega,<-xU]at zho;have zds:(fp o.2.1).length=j:=by rw[xU];simp;omega
         have yJ:∀wx,Qt (wr.setCell (zw w.heap.size 1) (zi o.1)) wx->zC 53 #[.slice (some y) j (c3-1)] wx fun e w'=>∃a c,e=.returned (.slice a j c)/\Om w w' p L (X (i+1)) (zi i) (.slice a j c):=fun wx hq=>by
          have hc:=UE y (c3-1) (fp o.2.1) wx ((zho.setCell (fun aG y hy=>HPG.apart zho aG y hy) _).below hq.1);rw[zds]at hc;refine hc.mono ?_;rintro e w' ⟨a,c,rfl,aH,kA,ai⟩;refine⟨a,c,rfl,?_⟩;rw[hx];refine⟨((HPG.set o.1).below hq.1).below ai,rfl,⟨a,c,by rw[zds],aH,fun aG y hy=>?_⟩,?_⟩
          ·have h1:=kA aG y hy;have h2:=hq.1.size;have h3:=HPG.lt;simp at h2;omega
          ·exact(zav qo zNr _).trans (((hq.1.trans (ai.mono hq.1.size))).mono (by have:=qo.size;simp;omega))
         have HCP:=ae yJ;clear yJ xU zds zho hx l6 Ug;go_wp2_with fail
         refine(HCP _ (Qt.refl _)).mono ?_;rintro e w5 ⟨a5,c5,rfl,znz⟩;have zoN:=ae znz;clear znz HCP;go_wp2;go_roundw
         case rel=>first | exact⟨i+1,Sg,Tc,zoN⟩ | ((repeat apply Exists.intro);exact⟨⟨i+1,Sg,Tc,zoN⟩,rfl⟩)
         case measure=>exact Te
        ·rw[zn hs]at hx;exact yT
       ·rw[qAG Ug];have hx:X (i+1)=X i:=by rw[aa HXS,zn (fun hc=>Ug (l6.1 hc.2.2))];rfl
        exact yT
    ·have hx:X (i+1)=X i:=by rw[aa HXS,zn (fun hc=>by have:=hc.2.1;rw[aa HK]at this;omega)];rfl
     have sM:=ae hx;have hkk:(23:Int)<K:=Sg;exact BY
   ·have vQ:(o.2.2 != 0)=true:=by simp;exact eQ
    have hx:X (i+1)=X i:=by rw[aa HXS,zn (fun hc=>eQ hc.1)];rfl
    have sM:=ae hx;exact BY
  ·obtain rfl:i=2:=by omega
   clear re HX0;obtain⟨sl,rfl,⟨al,cl,rfl,fC,lF⟩,rH⟩:=hom;have Fp:R=if (X 2).1=0 then (D,0,5)else ((cP D (X 2).2.1 (X 2).2.2).1,if (cP D (X 2).2.1 (X 2).2.2).2=0 then (X 2).1 else 0,(cP D (X 2).2.1 (X 2).2.2).2):=by rw[<-aa HR,aa W4];unfold cj;rw[zn zae]
   obtain⟨ha2,zqc,hnz⟩:=aa HXF;clear HR W4 HXF;generalize X 2=x at*;obtain⟨s,a,l⟩:=x;dsimp only at sl fC lF Fp ha2 zqc hnz ⊢;have TX:=sl.c1;by_cases hs:s=0
   ·rw[zy hs]at Fp;rw[hs]at TX;have HRR:=ae Fp;have qo:=ae rH;clear Fp sl fC lF rH;go_wp2;go_ret2;rw[aa HRR];exact⟨_,rfl,S,H.below qo,au.aI qo,fun h=>absurd h (show ¬(5:Int)=0 by decide),fun _=>rfl⟩
   ·rw[zn hs]at Fp;have hsb:(s == 0)=false:=by simp;exact hs
    obtain⟨W,hW⟩:∃W:Nat->DS×Int,W=iY (D,0) (fun i=>(48+l.getD i 0,D.rd (2+23*a+i))):=⟨_,rfl⟩;have MC:Hid (W 0=(D,0)):=ae zcY;have HWS:Hid (∀k,W (k+1)=dq (W k) (48+l.getD k 0) (D.rd (2+23*a+k))):=ae (fun k=>zcY);have HWL:Hid (∀k,(W k).1.secs.length=D.secs.length):=ae (fun k=>by rw[hW,Dc]);have HWT:Hid (∀j k,(W k).2≠0->W (k+j)=W k):=ae (fun j=>by
     induction j with
     | zero=>intro k h;rfl
     | succ j ih=>intro k h;rw[<-qBq,HWS (k+j),ih k h];exact iV h _ _)
    have cF:cP D a l=di (W l.length):=zcY;rw[cF]at Fp;have rE:Hid (∀k,k<=l.length->(W k).2=0->(W k).1.down=false/\∀t,t<48->(W k).1.rd t=D.rd t):=ae (fun k=>by
     induction k with
     | zero=>intro _ _;rw[aa MC];exact⟨hd,fun t _=>rfl⟩
     | succ k ih =>
      intro hk hz;by_cases h0:(W k).2=0
      ·rw[HWS k,me h0]at hz ⊢;obtain⟨i1,i2⟩:=ih Sg h0;refine⟨tj hz,fun t ht=>?_⟩;have hzk:=hnz (l.getD k 0) zjK
       show((W k).1.write _ _).rd t=_
       rw[nO hz,zn Sg];exact i2 t ht
      ·rw[HWS k,iV h0]at hz;exact absurd hz h0)
    have HRR:=ae Fp;have Ln:Ol w wr p L s S (W 0) al cl l S:=by rw[aa MC];exact⟨H.below rH,au.aI rH,sl,fun hs=>by have:=H.lt _ hs;omega,fC,fun aG y hy hs=>by have:=H.lt _ hs;have:=lF aG y hy;omega⟩
    have HOL:=ae Ln;clear hW cF Fp Ln sl fC lF rH;go_wp2_with fail
    go_loopw [17] (fun v wx=>∃ (k:Nat) (S3:Nat->Prop),k<=l.length/\v=zi k/\(W k).2=0/\Ol w wx p L s S (W k) al cl l S3) (fun v _=>l.length-(intOf v).toNat)
    case atStart=>exact⟨0,S,qAH _,rfl,by rw[aa MC],HOL⟩
    case round =>
     obtain⟨k,S3,hk,rfl,hz,Ln⟩:=hrel;clear HOL;by_cases aB:k<l.length
     ·obtain⟨hdn,qx⟩:=rE k hk hz;have zkr:=Bj (2+23*a+k) Ln.ref (by rw[HWL k];omega) hdn;rw[qx (2+23*a+k) Sg,show((2+23*a+k:Nat):Int)=2+23*(a:Int)+k by omega]at zkr;obtain⟨bl,offl,rfl,kS⟩:=Bs.cell0 Ln.bs k aB;have hzk:=hnz (l.getD k 0) zjK;have fI:(D.rd (2+23*a+k)).length=32:=(HOK.rd Sg).1;have hW1:W (k+1)=((W k).1.write (48+l.getD k 0) (D.rd (2+23*a+k)),(W k).1.bN (48+l.getD k 0) (D.rd (2+23*a+k))):=by rw[HWS k];exact me hz _ _
      have hwl:0<(W k).1.secs.length:=by rw[HWL k];omega
      obtain⟨cO,cU⟩:=hzk;have zoK:=ae zkr;have HOL:=ae Ln;have jF:=ae hW1;clear zkr Ln qx hdn hW1 hnz;generalize l.getD k 0=z at*;generalize D.rd (2+23*a+k)=bd at*;go_wp2_with fail
      refine zoK.mono ?_;rintro e w2 ⟨⟨v,rfl,hv⟩,rfl⟩;obtain⟨g,c,rfl,hSg,_,aH⟩:=hv;have ku:=mH (48+z) (zo g) c bd HOL.ref hwl aH;rw[fI,show(W k).1.write (48+z) bd=(W (k+1)).1 by rw[aa jF],show(W k).1.bN (48+z) bd=(W (k+1)).2 by rw[aa jF]]at ku;have zoA:=ae ku;clear ku aH zoK;go_wp2_with fail
      refine zoA.m ?_;rintro w3 ⟨S4,rG,vM⟩;have Gh:=ae (HOL.step (X':=W (k+1)) rG vM);clear rG vM zoA HOL;by_cases hE:(W (k+1)).2=0
      ·rw[hE];have HE:=ae hE;clear hE;go_wp2;go_roundw
       case rel=>first | exact⟨k+1,S4,Sg,Tc,HE,Gh⟩ | ((repeat apply Exists.intro);exact⟨⟨k+1,S4,Sg,Tc,HE,Gh⟩,rfl⟩)
       case measure=>exact Te
      ·have hEb:((W (k+1)).2 != 0)=true:=by simp;exact hE
       have eF:W l.length=W (k+1):=by have:=HWT (l.length-(k+1)) (k+1) hE;rwa[show k+1+(l.length-(k+1))=l.length by omega]at this
       have Fp:R=((W (k+1)).1,0,(W (k+1)).2):=by rw[aa HRR,eF,eO hE,zn hE]
       have lJ:=ae Fp;clear Fp eF;go_wp2;go_ret2;rw[aa lJ];exact⟨_,rfl,S4,Gh.ref,Gh.cQ,fun h=>absurd h hE,fun _=>rfl⟩
     ·obtain rfl:k=l.length:=by omega
      have hwl:0<(W l.length).1.secs.length:=by rw[aa HWL];omega
      have Hy:=ae (pY Ln.ref hwl);have HOL:=ae Ln;have Fp:R=((W l.length).1.ba,if (W l.length).1.cG=0 then s else 0,(W l.length).1.cG):=by rw[aa HRR,pq hz]
      have lJ:=ae Fp;clear Fp Ln hnz;go_wp2_with fail
      refine Hy.m ?_;rintro w3 ⟨rG,vM⟩;have Gh:=ae (HOL.step (X':=((W l.length).1.ba,(W l.length).1.cG)) rG vM);clear rG vM Hy HOL;by_cases hF:(W l.length).1.cG=0
      ·rw[hF];go_wp2;go_ret2;rw[aa lJ,hF];exact⟨_,rfl,S3,Gh.ref,Gh.cQ,fun _=>⟨w.heap.size,rfl,Gh.pg,zNr,(aa Gh).out⟩,fun h=>absurd rfl h⟩
      ·have hFb:((W l.length).1.cG != 0)=true:=by simp;exact hF
       go_wp2;go_ret2;rw[aa lJ];exact⟨_,rfl,S3,Gh.ref,Gh.cQ,fun h=>absurd h hF,fun _=>rfl⟩
