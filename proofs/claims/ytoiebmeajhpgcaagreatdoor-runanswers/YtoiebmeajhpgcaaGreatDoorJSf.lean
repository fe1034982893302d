import Derived.Test.YtoiebmeajhpgcaaGreatDoorJMvp
import Derived.Test.YtoiebmeajhpgcaaGreatDoorJWy
import Derived.Test.YtoiebmeajhpgcaaGreatDoorJHq
set_option maxRecDepth 100000
set_option maxHeartbeats 16000000
set_option linter.all false
namespace Go.Proofs.YtoiebmeajhpgcaaGreatDoor
variable {l:List (I2)}{k:Nat}
open Tryz
open Go.RowKit
section
open Go.Sort
open Go.Shelf
theorem r8:∀ {l:List (I2)},(∀e∈l,0<=e.2/\e.2<=6400)->0<=aR l/\aR l<=6400*l.length
 | [],_=>by simp[aR]
 | e::r,h=>by have h1:=h e Sk;have h2:=r8 (l:=r) (fun x hx=>h x UD);rw[iJ,zLc];omega
theorem vF(hk:k<l.length):aR (l.take (k+1))=aR (l.take k)+(l.getD k (0,0)).2:=by have e:l.getD k (0,0)=l[k]:=UR;rw[qAx hk,nA,e];simp[aR]
theorem IX(hk:k<l.length):cM 0 (l.take (k+1))=max (cM 0 (l.take k)) (l.getD k (0,0)).2:=by have e:l.getD k (0,0)=l[k]:=UR;unfold cM;rw[qAx hk,qBb,e];rfl
def sK(w:World)(g:Nat)(o u f m r:Int):Prop:=w.heap[g]?=some (.cells #[zi o,zi u,zi f,zi m,zi r] 92 (0,0))
section
variable {w:World} {g:Nat} {o u f m r:Int}
theorem sK.lt(h:sK w g o u f m r):g<w.heap.size:=(zAg h).1
theorem sK.cells(h:sK w g o u f m r):w.cell? (zp g)=some (zi o)/\w.cell? (zw g 1)=some (zi u)/\w.cell? (zw g 2)=some (zi f)/\w.cell? (zw g 3)=some (zi m)/\w.cell? (zw g 4)=some (zi r):=by simp only[qAD _ _ _ _ _ _ h];exact⟨rfl,rfl,rfl,rfl,rfl⟩
theorem sK.fr(h:sK w g o u f m r) i:w.frozen? (zw g i)=false:=qAd w g i _ _ h
theorem sK.alloc(h:sK w g o u f m r) x:sK (w.alloc x) g o u f m r:=(qAb w x h.lt).trans h
theorem sK.zpJ(h:sK w g o u f m r) z:sK (w.setCell (zw g 1) (zi z)) g o z f m r:=qAI w g 1 _ _ (zi z) h
theorem sK.Eg(h:sK w g o u f m r) z:sK (w.setCell (zw g 2) (zi z)) g o u z m r:=qAI w g 2 _ _ (zi z) h
theorem sK.zjm(h:sK w g o u f m r) z:sK (w.setCell (zw g 3) (zi z)) g o u f z r:=qAI w g 3 _ _ (zi z) h
theorem sK.tr(h:sK w g o u f m r) o' u' f' m' r':sK (((((w.setCell (zp g) (zi o')).setCell (zw g 1) (zi u')).setCell (zw g 2) (zi f')).setCell (zw g 3) (zi m')).setCell (zw g 4) (zi r')) g o' u' f' m' r':=by have h1:=qAI w g 0 _ _ (zi o') h;have h2:=qAI _ g 1 _ _ (zi u') h1;have h3:=qAI _ g 2 _ _ (zi f') h2;have h4:=qAI _ g 3 _ _ (zi m') h3;exact qAI _ g 4 _ _ (zi r') h4
theorem sK.below{w'}{B}(h:sK w g o u f m r)(hb:Below B w w')(hg:g<B):sK w' g o u f m r:=(hb.block g hg).trans h
end
theorem sK.new(w:World) o u f m r:sK (w.alloc (.cells #[zi o,zi u,zi f,zi m,zi r] 92)) w.heap.size o u f m r:=qAB w _
theorem Im:(prog.info? 92).map (·.size)=some 5:=SQ
theorem tz{fn}{p q}(h:fn.results=#[.cell p 92,.tmp q]) tmps w g o u f m r(hp:tmps.getD p undef=zq g)(hg:sK w g o u f m r) :
  (results fn tmps).run prog w=.ok (.tuple #[.agg #[zi o,zi u,zi f,zi m,zi r],tmps.getD q undef]) w:=by
 rw[results_cell_tmp h,hp];have:=run_loadVar_row (P:=prog) w g 92 92 _ (0,0) _ hg underlying92 rfl (by rw[Im];rfl);exact zl5
def stT(n:Int)(l:List (I2)):Int×Int×I3:=if nY n l=0 then ((l.length:Int),aR l,aR (aO n l),cM 0 (aO n l),((aO n l).length:Int))else (0,0,0,0,0)
theorem zbc n a cap l w(hl:xB w a cap l)(hc:nY n l≠0) :
  zC 161 #[zi n,.slice a l.length cap] w (zr (.tuple #[.agg #[zi 0,zi 0,zi 0,zi 0,zi 0],bc (nY n l)]) fun w'=>zB w w'):=by
 have gT:zB w (w.alloc (.cells #[zi 0,zi 0,zi 0,zi 0,zi 0] 92)):=zBr.alloc zNr _;have HC:=ae (pK n a cap l _ (hl.below gT));have HS:=ae (sK.new w 0 0 0 0 0);have iX:=ae gT;rw[aF _ hc]at HC ⊢;generalize nY n l=c,aO n l=h,l.length=N at*;go_enter func161,ntmps161
 go_wp2_with fail
 refine HC.mono ?_;rintro e w1 ⟨v,rfl,_,hb⟩;have hs:=HS.below hb Sk;obtain⟨c0,c1,c2,c3,c4⟩:=hs.cells;have f0:=hs.fr 0;have f1:=hs.fr 1;have f2:=hs.fr 2;have f3:=hs.fr 3;have f4:=hs.fr 4;have sN:=ae hs;have aQ:=ae (iX.trans (hb.mono Sk));go_wp2;refine qBV (tz results161 _ _ w.heap.size _ _ _ _ _ rfl (sN.tr 0 0 0 0 0)) rfl ?_;exact⟨rfl,((((aQ.setCell zNr _).setCell zNr _).setCell zNr _).setCell zNr _).setCell zNr _⟩
theorem zfM n a cap l w(hl:xB w a cap l)(hc:nY n l=0) U F M(hU:U=aR l)(hF:F=aR (aO n l))(hM:M=cM 0 (aO n l)) :
  zC 161 #[zi n,.slice a l.length cap] w (zr (.tuple #[.agg #[zi l.length,zi U,zi F,zi M,zi (aO n l).length],.nilIface]) fun w'=>zB w w'):=by
 obtain⟨tL,hlen⟩:=ez hc;obtain⟨k0,k1,k2,hg⟩:=eZ.1 hc;have gT:zB w (w.alloc (.cells #[zi 0,zi 0,zi 0,zi 0,zi 0] 92)):=zBr.alloc zNr _;have HC:=ae (pK n a cap l _ (hl.below gT));rw[hc,aC]at HC;have HS:=ae (sK.new w 0 0 0 0 0);have iX:=ae gT;have HL:=ae hl;have HU:=ae hU;have HF:=ae hF;have HM:=ae hM;generalize aO n l=fr at*;have HSM:=ae tL;have HG:=ae hg;clear hl hc gT hU hF hM tL hg;go_enter func161,ntmps161
 go_wp2_with fail
 refine HC.mono ?_;rintro e w1 ⟨v,rfl,ho,hb⟩;obtain⟨ah,ch,rfl,hx⟩:=ho.Z9 (fun e he=>by have:=HSM e he;unfold uc;omega) Sg;have HX:=ae hx;have G7:=HS.below hb Sk;have zdu:=G7.lt;have sN:=ae G7;have aQ:=ae (iX.trans (hb.mono Sk));have Gl:=ae (HL.below aQ);go_wp2_with fail
 go_loopw [30] (fun cv wr=>∃k:Nat,k<=l.length/\cv=zi k/\sK wr w1.heap.size l.length (aR (l.take k)) 0 0 fr.length/\zB w1 wr) (fun cv _=>l.length-(intOf cv).toNat)
 case atStart=>exact znQ
 case round =>
  obtain⟨k,hk,rfl,hB,ai⟩:=hrel;by_cases aB:k<l.length
  ·have aG:l≠[]:=by intro e;rw[e]at aB;simp at aB
   obtain⟨b,off,rfl,bf⟩:=Gl.2.2.2 aG;obtain⟨c0,c1⟩:=bf k aB;rw[<-ai.cell (qAA c0)]at c0;rw[<-ai.cell (qAA c1)]at c1;have eF:=vF aB;have iT:=r8 (l:=l.take k) (fun e he=>by have:=HG.all e (qAj he);omega);have fC:(l.take k).length<=200:=Tb;have fu:l.getD k (0,0)∈l:=by exact P7
   have hgk:=HG.all _ fu;generalize l.getD k (0,0)=r at*;obtain⟨d0,d1,d2,d3,d4⟩:=hB.cells;have f1:=hB.fr 1;have xG:=hB.lt;have qo:=ae hB;have sO:=ae ai;have fP:=ae eF;generalize hq:aR (l.take k)=q at*;obtain⟨x,y⟩:=r;dsimp only at*;go_wp2;go_roundw
   case rel=>exact⟨k+1,Sg,Tc,by rw[aa fP];exact(qo.zpJ _).alloc _,(sO.setCell zNr _).alloc (by have:=sO.size;simp;omega) _⟩
   case measure=>exact Te
  ·obtain rfl:k=l.length:=by omega
   rw[qAk,<-aa HU]at hB;have HB:=ae hB;have aJ:=ae ai;go_wp2_with fail
   go_loopw [43] (fun cv wr=>∃k:Nat,k<=fr.length/\cv=zi k/\sK wr w1.heap.size l.length U (aR (fr.take k)) (cM 0 (fr.take k)) fr.length/\zB w1 wr) (fun cv _=>fr.length-(intOf cv).toNat)
   case atStart=>exact⟨0,qAH _,rfl,HB,aJ⟩
   case round =>
    obtain⟨k,hk,rfl,hB,ai⟩:=hrel;by_cases aB:k<fr.length
    ·have aG:fr≠[]:=by intro e;rw[e]at aB;simp at aB
     obtain⟨b,off,rfl,bf⟩:=HX.2.2.2 aG;obtain⟨c0,c1⟩:=bf k aB;rw[<-ai.cell (qAA c0)]at c0;rw[<-ai.cell (qAA c1)]at c1;have eF:=vF aB;have hmt:=IX aB;have iT:=r8 (l:=fr.take k) (fun e he=>by have:=HSM e (qAj he);omega);have fC:(fr.take k).length<=201:=Tb;have fu:fr.getD k (0,0)∈fr:=by exact PS
     have hgk:=HSM _ fu;generalize fr.getD k (0,0)=r at*;obtain⟨d0,d1,d2,d3,d4⟩:=hB.cells;have f2:=hB.fr 2;have f3:=hB.fr 3;have xG:=hB.lt;have qo:=ae hB;have sO:=ae ai;have fP:=ae eF;generalize hq:aR (fr.take k)=q at*;generalize qT:cM 0 (fr.take k)=q2 at*;obtain⟨x,y⟩:=r;dsimp only at*;have HMT:=ae hmt;clear hB ai eF bf aG fu hq qT hmt;by_cases Gv:y > q2
     ·have AN:Hid (max q2 y=y):=ae Sg;exact CG
     ·have AN:Hid (max q2 y=q2):=ae Sg;exact CG
    ·obtain rfl:k=fr.length:=by omega
     rw[qAk,<-aa HF,<-aa HM]at hB;obtain⟨d0,d1,d2,d3,d4⟩:=hB.cells;have hs:=sN.below ai zdu;obtain⟨e0,e1,e2,e3,e4⟩:=hs.cells;have f0:=hs.fr 0;have f1:=hs.fr 1;have f2:=hs.fr 2;have f3:=hs.fr 3;have f4:=hs.fr 4;have HSF:=ae hs;have Q4:=zTr aQ ai;clear hB ai hs;go_wp2;refine qBV (tz results161 _ _ w.heap.size _ _ _ _ _ rfl (HSF.tr _ _ _ _ _)) rfl ?_;exact zmm
theorem zbd n a cap l w(hl:xB w a cap l) O U F M R(h:stT n l=(O,U,F,M,R)) :
  zC 161 #[zi n,.slice a l.length cap] w (zr (.tuple #[.agg #[zi O,zi U,zi F,zi M,zi R],bc (nY n l)]) fun w'=>zB w w'):=by
 unfold stT at h;by_cases hc:nY n l=0
 ·rw[zy hc]at h;simp only[qBs]at h;obtain⟨rfl,h2,h3,h4,rfl⟩:=h;refine(zfM n a cap l w hl hc U F M h2.symm h3.symm h4.symm).mono ?_;rintro e w' ⟨rfl,hb⟩;exact⟨by rw[hc];rfl,hb⟩
 ·rw[zn hc]at h;simp only[qBs]at h;obtain⟨rfl,rfl,rfl,rfl,rfl⟩:=h;exact zbc n a cap l w hl hc
end
section
variable {L c:LI}
theorem A6(hf:aD L):aR (aA L)+aR (aO ((L.length:Int)-288) (aA L))=(L.length:Int)-288:=by rw[rO hf,sH hf];omega
theorem xm(hf:aD L):(aO ((L.length:Int)-288) (aA L)).length<=(aA L).length+1/\(∀r∈aO ((L.length:Int)-288) (aA L),1<=r.2)/\(aR (aO ((L.length:Int)-288) (aA L))=0 ↔ aO ((L.length:Int)-288) (aA L)=[]):=by
 have hc:=jJ hf;have fu:=(ez hc).1;have mi:=mO (fun r hr=>(fu r hr).2.1);refine⟨?_,fun r hr=>(fu r hr).2.1,⟨fun h=>?_,fun h=>by rw[h];rfl⟩⟩
 ·unfold aO dh;rw[zy hc];have h1:=zoqq 0 (ix (aA L)++[((L.length:Int)-288,0)]);have h2:=(DU hf).1.length_eq;rw[zLa,qBM]at h1;omega
 ·refine qBm.2 (fun r hr=>?_);have:=mi.2 r hr;have:=(fu r hr).2.1;omega
theorem YP(hf:aD L):0<=cM 0 (aO ((L.length:Int)-288) (aA L))/\cM 0 (aO ((L.length:Int)-288) (aA L))<=aR (aO ((L.length:Int)-288) (aA L))/\(0<aR (aO ((L.length:Int)-288) (aA L))->1<=cM 0 (aO ((L.length:Int)-288) (aA L))):=by
 obtain⟨r1,r2,r3⟩:=xm hf;generalize aO ((L.length:Int)-288) (aA L)=F at*;have mi:=mO r2;have hm:=(qR (h:=F) (m:=0) (M:=cM 0 F)).1 (qBA _);refine⟨hm.1,qR.2 ⟨mi.1,mi.2⟩,fun ew=>?_⟩;cases F with
 | nil=>exact absurd ew (by simp[aR])
 | cons r F =>have h1:=hm.2 r Sk;have h2:=r2 r Sk;omega
end
section
variable {N:Nat} {X:LI}
structure Hs (X:LI) (O U F M R:Int):Prop where
 o:((aA X).length:Int)=O
 u:aR (aA X)=U
 f:aR (aO ((X.length:Int)-288) (aA X))=F
 m:cM 0 (aO ((X.length:Int)-288) (aA X))=M
 r:((aO ((X.length:Int)-288) (aA X)).length:Int)=R
theorem Hs.of X:Hs X ((aA X).length:Int) (aR (aA X)) (aR (aO ((X.length:Int)-288) (aA X))) (cM 0 (aO ((X.length:Int)-288) (aA X))) ((aO ((X.length:Int)-288) (aA X)).length:Int):=⟨rfl,rfl,rfl,rfl,rfl⟩
theorem Hs.zfK{O U F M R}(s:Hs X O U F M R)(hf:aD X):U+F=(X.length:Int)-288/\0<=U/\0<=M/\M<=F/\R<=O+1/\0<=O/\O<=40/\0<=R/\(F=0 ↔ R=0)/\(0<F->1<=M):=by
 obtain⟨r1,r2,r3⟩:=xm hf;obtain⟨m1,m2,m3⟩:=YP hf;have u0:=A6 hf;have htl:=lh X;have hu:=(mO (h:=aA X) (fun e he=>by obtain⟨h,h1,h2,h3,rfl⟩:=iz.1 he;have:=hf.nE h1 h2 h3;unfold jL;dsimp only;omega)).1;obtain⟨rfl,rfl,rfl,rfl,rfl⟩:=s;generalize aO ((X.length:Int)-288) (aA X)=FL at*;refine⟨u0,hu,m1,m2,Sg,Sg,Sg,Sg,⟨fun h=>?_,fun h=>?_⟩,m3⟩
 ·rw[r3.1 h];rfl
 ·exact r3.2 (qAp Sg)
end
section
open Go.Sort
theorem Nl a cap l w(hs:fF xY 4 w a cap l)(hl:l.length<=40)(fu:∀e∈l,0<=e.2.1/\e.2.1<=65535/\0<=e.2.2.1/\e.2.2.1<=65535) :
  zC 162 #[.slice a l.length cap] w fun e w'=>∃v,e=.returned v/\cX lG 2 122 w' w.heap.size v (l.map jL)/\zB w w':=by
 obtain⟨i0,dU,cO,cU,cV⟩:=qAO E7;have ma:=hs.2.2.1;have HS:=ae hs;have AY:=ae fu;go_enter func162,ntmps162
 go_wp2_with fail
 go_loopw [3,8] (fun v iv wr=>∃k:Nat,k<=l.length/\iv=zi k/\cX lG 2 122 wr w.heap.size v ((l.map jL).take k)/\zB w wr) (fun _ iv _=>l.length-(intOf iv).toNat)
 case atStart=>exact Yq
 case round =>
  obtain⟨k,hk,rfl,az,ai⟩:=hrel;obtain⟨va,vm,vc,rfl⟩:=az.shape;by_cases aB:k<l.length
  ·have aG:l≠[]:=by intro e;rw[e]at aB;simp at aB
   obtain⟨b1,o1,rfl,eT⟩:=(HS.below ai).2.2.2 aG;obtain⟨f,hf⟩:∃f,l[k]?=some f:=⟨l[k],zLg aB⟩;obtain⟨q0,q1,q2,q3⟩:=fF.nE (cap:=0) eT hf;have HT:=ae (Vs hf);have Rp:=AY f (qAs hf);have tM:((l.map jL).take k).length<=40:=Tb;obtain⟨x,y,z,t⟩:=f;dsimp only at*;have ia:=ai.alloc ai.size (.cells #[zi x,zi y,zi z,zi t] 124);have dF:=ae (ia.alloc ia.size (.cells #[zi (y-288),zi z] 122));have oE:=ae ((az.below (zBr.alloc zNr (.cells #[zi x,zi y,zi z,zi t] 124))).below (zBr.alloc zNr (.cells #[zi (y-288),zi z] 122)));have kq:Hid (((wr.alloc (.cells #[zi x,zi y,zi z,zi t] 124)).alloc (.cells #[zi (y-288),zi z] 122)).heap[wr.heap.size+1]?=some (.cells (lG (y-288,z)).toArray 122 (0,0))):=ae zmn;exact xb
  ·exact Le
theorem zmK{L}(hf:aD L):∀e∈aA L,uc e:=fun e he=>zop
section
variable {w:World} {B p g c:Nat} {L:LI} {O U F M R:Int}
theorem Sn(h:Hp w B p g c L)(s:Hs L O U F M R) :
  zC 106 #[zq p] w (zr (.tuple #[.agg #[zi O,zi U,zi F,zi M,zi R],.nilIface]) fun w'=>zB w w'):=by
 have gT:zB w (w.alloc (.cells #[zi 0,zi 0,zi 0,zi 0,zi 0] 92)):=zBr.alloc zNr _;have HB:=ae (ei p g c B L _ (h.below gT));have HS0:=ae (sK.new w 0 0 0 0 0);have iX:=ae gT;have hf:=h.bC;have jm:=h.B2;have hlen:=h.len;have hel:=dt L 40;have htl:=lh L;have yK:=jJ hf;have HE:=ae (fun(W:World) (a:OA) (cap:Nat) (aH:Bs W a cap L)=>mQ a cap L W aH hf.gR);have HT:=ae (fun(W:World) (a:OA) (cap:Nat) (hs:fF xY 4 W a cap (entsK L 40))=>Nl a cap (entsK L 40) W hs hel (Dz hf));have AY:=ae (zmK hf);have eF:stT ((L.length:Int)-288) (aA L)=(O,U,F,M,R):=by unfold stT;rw[zy yK,s.o,s.u,s.f,s.m,s.r]
 have HS:=ae (fun(W:World) (a:OA) (cap:Nat) (hx:xB W a cap (aA L))=>zbd ((L.length:Int)-288) a cap (aA L) W hx _ _ _ _ _ eF);rw[yK,aC]at HS;change Hid (∀ (W:World) (a:OA) (cap:Nat),fF xY 4 W a cap (entsK L 40)->zC 162 #[.slice a (entsK L 40).length cap] W fun e w'=>∃v,e=.returned v/\cX lG 2 122 w' W.heap.size v (aA L)/\zB W w')at HT;have iE:=ae jm;clear h hf jm yK eF s gT;generalize entsK L 40=EN,aA L=TL at*;generalize hN:L.length=N at*;have HN:=ae hN;go_enter func106,ntmps106
 go_wp2_with fail
 refine HB.mono ?_;rintro e w1 ⟨a1,c1,rfl,ru,ay⟩;obtain⟨a1',c1',e1,kT⟩:=ru.bs iE (by rw[aa HN];omega);rw[aa HN]at e1;simp only[qAS,qBL]at e1;obtain⟨rfl,rfl⟩:=e1;have AZ:=ae (HE w1 a1 c1 kT);have sN:=ae (HS0.below ay Sk);have aQ:=ae (iX.trans (ay.mono Sk));go_wp2_with fail
 refine AZ.mono ?_;rintro e w2 ⟨v2,rfl,nU,aK⟩;obtain⟨a2,c2,rfl,gN⟩:=nU.uM pd Sg;have oK:=ae (HT w2 a2 c2 gN);have rJ:=ae (sN.below aK sN.lt);have bz:=zTr aQ aK;clear nU gN aK AZ HT aQ sN;go_wp2_with fail
 refine oK.mono ?_;rintro e w3 ⟨v3,rfl,xi,bD⟩;have znD:oe w3 w2.heap.size v3 TL:=xi;obtain⟨a3,c3,rfl,yE⟩:=znD.Z9 AY Sg;have HC3:=ae (HS w3 a3 c3 yE);have QP:=ae (rJ.below bD rJ.lt);have dF:=zTr bz bD;clear xi znD yE bD oK HS bz AY rJ;go_wp2_with fail
 refine HC3.m ?_;intro w4 eU;have Ll:=QP.below eU QP.lt;obtain⟨c0,c1,c2,c3,c4⟩:=Ll.cells;have f0:=Ll.fr 0;have f1:=Ll.fr 1;have f2:=Ll.fr 2;have f3:=Ll.fr 3;have f4:=Ll.fr 4;have HS4:=ae Ll;have fh:=zTr dF eU;clear eU Ll HC3 QP dF;go_wp2;refine qBV (tz results106 _ _ w.heap.size _ _ _ _ _ rfl (HS4.tr O U F M R)) rfl ?_;exact⟨rfl,((((fh.setCell zNr _).setCell zNr _).setCell zNr _).setCell zNr _).setCell zNr _⟩
