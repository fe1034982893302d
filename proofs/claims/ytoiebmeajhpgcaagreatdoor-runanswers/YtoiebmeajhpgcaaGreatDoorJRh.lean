import Derived.Test.YtoiebmeajhpgcaaGreatDoorJWy
import Derived.Test.YtoiebmeajhpgcaaGreatDoorJRt
import Derived.RangeFuncNested
import Derived.RangeFuncBound
import Derived.RangeFuncCalls
import Derived.RangeFuncLeaves
import Derived.RangeFuncBox
import Derived.Shelf.Abstract
import Derived.Shelf.RegionOpen
import Derived.OwnWalkIn
import Derived.TacticsInMore
import Derived.LoopNIn
import Derived.LoopIn
import Derived.Test.YtoiebmeajhpgcaaGreatDoorJVws
import Derived.Shelf.SlicesG.Reverse
set_option maxRecDepth 100000
set_option maxHeartbeats 16000000
set_option linter.all false
namespace Go.Proofs.YtoiebmeajhpgcaaGreatDoor
variable {w w':World}{B c k T:Nat}{a:OA}{l L:LI}{x:Int}{v:Value}
open Tryz
open Go.RowKit
theorem ZP p g c B L h w(hh:Hp w B p g c L) :
  zC 329 #[zq p,zi h] w (zr (.tuple #[zi (gU L h).2.2.1,bc (aX L h)]) fun w'=>zB w w'):=by
 have HG:=ae (fun W (hW:zB w W)=>Pg (zo g) c L h W (hh.bs.below hW));have hc:=hh.cell;have hl:=hh.len;generalize gU L h=E,aX L h=X,L.length=N at*;obtain⟨e1,e2,e3,e4⟩:=E;unfold kV at HG;dsimp only at HG ⊢;go_enter func329,ntmps329
 exact Mo
theorem zV p g c B L h w(hh:Hp w B p g c L) :
  zC 208 #[zq p,zi h] w (zr (.bool (decide (aX L h=0))) fun w'=>zB w w'):=by
 have HT:=ae (qe p g c B L h w hh);generalize (gU L h).2.2.2=t at*;by_cases hc:aX L h=0
 ·rw[qAE hc];rw[hc,aC]at HT;go_enter func208,ntmps208
  exact qL
 ·rw[qAG hc];rw[aF _ hc]at HT;generalize aX L h=X at*;go_enter func208,ntmps208
  exact qL
theorem cW.zlw(h:cW w B (.slice a l.length c) l)(hb:bZ l)(hl:l.length<=140737488351232):Bs w a c l:=by obtain⟨a2,c2,e2,aK⟩:=h.bs hb hl;simp only[qAS,qBL]at e2;obtain⟨rfl,rfl⟩:=e2;exact aK
def Rf(L:LI)(h:Int):LI:=if aX L h=0 then (bw L h).2.take (bw L h).1.toNat else []
theorem KZ L h(hf:aD L):(Rf L h).length<=15:=by
 unfold Rf;by_cases hc:aX L h=0
 ·rw[zy hc,zLt];obtain⟨q1,q2,q3⟩:=aV.1 hc;have q4:=aN.1 q2;have:=hf.nE q4.1 q4.2 q3;unfold bw nQ;rw[zn q3];exact Tu
 ·rw[zn hc];simp
theorem OI p g c B L h w(hh:Hp w B p g c L) :
  zC 300 #[zq p,zi h] w fun e w'=>∃a' c',e=zt #[.slice a' (Rf L h).length c',bc (aX L h)]/\Bs w' a' c' (Rf L h)/\zB w w':=by
 have HT:=ae (qe p g c B L h w hh);by_cases hc:aX L h=0
 ·obtain⟨q1,q2,q3⟩:=aV.1 hc;have q4:=aN.1 q2;have gj:=hh.bC.nE q4.1 q4.2 q3;have mi:gU L h=ao L h:=by unfold gU;rw[zy hc]
  have HS:=ae (fun(W:World) (hW:zB w W)=>ZP p g c B L h W (hh.below hW));rw[mi,hc,aC]at HT HS;have ho:bw L h=((ao L h).2.2.2,(L.drop (ao L h).2.1.toNat).take (ao L h).2.2.1.toNat):=by unfold bw nQ ju;rw[zn q3]
  have hn:Rf L h=(L.drop ((ao L h).2.1.toNat+0)).take (min (ao L h).2.2.2 (ao L h).2.2.1).toNat:=by unfold Rf;rw[zy hc,ho];dsimp only;rw[qCO,qAq];exact Qm
  have zkB:((min (ao L h).2.2.2 (ao L h).2.2.1).toNat:Int)=min (ao L h).2.2.2 (ao L h).2.2.1:=Sg;have HR:=ae (fun(W:World) (hW:zB w W)=>Jz p g c B L h 0 (min (ao L h).2.2.2 (ao L h).2.2.1).toNat W (hh.below hW) hc Sg);rw[<-hn,zkB]at HR;have xU:(Rf L h).length=(min (ao L h).2.2.2 (ao L h).2.2.1).toNat:=by rw[hn,zLt,zLd];omega
  rw[<-xU]at HR;have iE:Hid (bZ (Rf L h)):=ae (by rw[hn];exact hh.B2.sub _ _);have zr6:=KZ L h hh.bC;rw[hc,aC];clear hh hc q1 q2 q3 q4 mi ho hn zkB xU;generalize Rf L h=NM at*;generalize ao L h=E at*;obtain⟨e1,e2,e3,e4⟩:=E;dsimp only at HT HS HR gj ⊢;obtain⟨n1,n2,n3,n4,n5,n6⟩:=gj;by_cases hm:e4<=e3
  ·rw[show min e4 e3=e4 by omega]at HR;go_enter func300,ntmps300
   go_wp2_with fail
   refine HT.m ?_;intro w1 ay;have sN:=ae (HS w1 ay);have aQ:=ae ay;clear ay HT HS;go_wp2_with fail
   refine sN.m ?_;intro w2 aK;have dr:=zTs aQ aK;have lJ:=ae (HR w2 dr);have bz:=ae dr;clear aK dr sN aQ HR;go_wp2_with fail
   try rw[show min e4 e3=e4 by omega]
   exact zm8
  ·rw[show min e4 e3=e3 by omega]at HR;go_enter func300,ntmps300
   go_wp2_with fail
   refine HT.m ?_;intro w1 ay;have sN:=ae (HS w1 ay);have aQ:=ae ay;go_wp2_with fail
   refine sN.m ?_;intro w2 aK;have dr:=zTs aQ aK;have lJ:=ae (HR w2 dr);have bz:=ae dr;go_wp2_with fail
   try rw[show min e4 e3=e3 by omega]
   exact zm8
 ·have hn:Rf L h=[]:=by unfold Rf;rw[zn hc]
  rw[hn];rw[aF _ hc]at HT ⊢;generalize (gU L h).2.2.2=t,aX L h=X at*;go_enter func300,ntmps300
  go_wp2_with fail
  refine HT.m ?_;intro w1 ay;have HB:=ae ay;go_wp2;go_ret2;exact⟨none,0,rfl,eu _,HB⟩
theorem Pc a cap l x w(hs:fF jx 1 w a cap l) :
  zC 330 #[.slice a l.length cap,zi x] w fun e w'=>∃i:Int,e=.returned (zi i)/\(decide (0<=i)=l.any (fun y=>y == x))/\w=w':=by
 have hl:=hs.2.2.1;have HS:=ae hs;go_enter func330,ntmps330
 go_wp2_with fail
 go_loop [8] (fun iv=>∃k:Nat,k<=l.length/\iv=zi k/\(l.take k).any (fun y=>y == x)=false) (fun iv=>l.length-(intOf iv).toNat)
 case atStart=>exact⟨0,qAH _,rfl,rfl⟩
 case round =>
  obtain⟨k,hk,rfl,bQ⟩:=hrel;by_cases aB:k<l.length
  ·have aG:l≠[]:=by intro e;rw[e]at aB;simp at aB
   obtain⟨b1,o1,rfl,eT⟩:=HS.2.2.2 aG;obtain⟨y,hy⟩:∃y,l[k]?=some y:=⟨l[k],zLg aB⟩;have q0:=fF.num (cap:=0) eT hy;have uO:l.take (k+1)=l.take k++[y]:=by rw[qAv,hy];rfl
   have o6:=qAs hy;clear eT hy aG;by_cases e:x=y
   ·subst e;have eX:l.any (fun y=>y == x)=true:=qBH.2 ⟨_,o6,Sk⟩;have HN:=ae eX;clear eX uO bQ o6;go_wp2;go_ret;exact⟨k,rfl,by rw[aa HN];exact qAE Sg,rfl⟩
   ·have eX:(l.take (k+1)).any (fun y=>y == x)=false:=by rw[uO,qCR,bQ];simp;exact fun h=>e h.symm
    have HN:=ae eX;have eb:(x == y)=false:=qAU.2 e;clear eX uO bQ o6 e;go_wp2
    go_round
    case rel=>exact⟨k+1,Sg,Tc,HN⟩
    case measure=>exact Te
  ·obtain rfl:k=l.length:=by omega
   rw[qAk]at bQ;have HN:=ae bQ;clear bQ HS;go_wp2;go_ret;exact⟨-1,rfl,by rw[aa HN];rfl,rfl⟩
theorem Zk a cap l x w(hs:fF jx 1 w a cap l) :
  zC 301 #[.slice a l.length cap,zi x] w (zr (.bool (l.any (fun y=>y == x))) fun w'=>w=w'):=by
 have HI:=ae (Pc a cap l x w hs);have hl:=hs.2.2.1;generalize l.any (fun y=>y == x)=r,l.length=N at*;go_enter func301,ntmps301
 go_wp2_with fail
 refine HI.mono ?_;rintro e w1 ⟨i,rfl,hi,hw⟩;subst hw;have HH:=ae hi;go_wp2;go_ret;exact⟨by rw[<-aa HH];rfl,rfl⟩
def NK(L:LI)(h:Int):LI:=if aX L h=0 then dR L h else []
theorem NR L l:ke L l l.length=l.foldl (dO L) []:=by unfold ke;rw[qAk]
theorem NJ L h:NK L h=(Rf L h).foldl (dO L) []:=by
 unfold NK Rf;by_cases hc:aX L h=0
 ·rw[zy hc,zy hc];rfl
 ·rw[zn hc,zn hc];rfl
theorem SL p g c B L h w(hh:Hp w B p g c L) :
  zC 260 #[zq p,zi h] w fun e w'=>∃v,e=zt #[v,bc (aX L h)]/\cX jx 1 3 w' w.heap.size v (NK L h)/\zB w w':=by
 obtain⟨i0,dU,cO,cU,cV⟩:=qAO jR;have HN:=ae (OI p g c B L h w hh);by_cases hc:aX L h=0
 ·have HIS:=ae (fun x W hW=>zV p g c B L x W (hh.below hW));have HCO:=ae (fun a cap l x W(hs:fF jx 1 W a cap l)=>Zk a cap l x W hs);have xU:=KZ L h hh.bC;have HRF:=ae (NJ L h);rw[hc,aC]at HN ⊢;generalize NK L h=RF,Rf L h=l at*;have HRK:=ae (NR L l);have HRL:=ae (fun k=>zwq L l k);have HRS:=ae (fun k(hk:k<l.length)=>Bn (L:=L) hk);go_enter func260,ntmps260
  go_wp2_with fail
  refine HN.mono ?_;rintro e w1 ⟨a1,c1,rfl,kT,ay⟩;have fC:=kT.2.2.1;have qp:=ae kT;have aQ:=ae ay;clear kT ay HN;go_wp2_with fail
  go_loopw [8,10,11,23] (fun v _ _ iv wr=>∃k:Nat,k<=l.length/\iv=zi k/\cX jx 1 3 wr w1.heap.size v (ke L l k)/\zB w1 wr) (fun _ _ _ iv _=>l.length-(intOf iv).toNat)
  case atStart=>exact Yq
  case round =>
   obtain⟨k,hk,rfl,az,ai⟩:=hrel;obtain⟨va,vm,vc,rfl⟩:=az.shape;by_cases aB:k<l.length
   ·have aG:l≠[]:=by intro e;rw[e]at aB;simp at aB
    obtain⟨b3,o3,rfl,uQ⟩:=(qp.below ai).2.2.2.2 aG;have q0:=uQ k aB;have hXb:=qp.1.getD k;have HT:=ae (HRS k aB);generalize l.getD k 0=X at*;have Va:=ae (HIS X wr (zTs aQ ai));have xh:=HRL k;have od:=ae az;have aJ:=ae ai;clear az ai uQ aG;by_cases hc:aX L X=0
    ·rw[qAE hc]at Va;have oK:Hid (ke L l (k+1)=if (ke L l k).any (fun y=>y == X)=true then ke L l k else ke L l k++[X]):=ae zpH;clear hc HT;generalize zdK:ke L l k=acc at*;have zrs:=ae zdK;clear zdK;go_wp2_with fail
     refine Va.m ?_;intro w2 aK;have fL:=od.below aK;obtain⟨va2,vc2,ev,oy⟩:=fL.uM jw Sg;simp only[qAS]at ev;obtain⟨rfl,rfl,rfl⟩:=ev;have RJ:=ae (HCO va vc acc X w2 oy);have oj:=ae fL;have bz:=zTr aJ aK;have ziL:=oy.2.2.1;clear fL oy aK Va od aJ;cases hd:acc.any (fun y=>y == X)with
     | true =>
      rw[hd]at oK RJ;rw[zy rfl]at oK;clear hd;go_wp2_with fail
      refine RJ.m ?_;intro w3 qw;subst qw;exact Ma
     | false =>
      rw[hd]at oK RJ;rw[zn Sk]at oK;clear hd;have oE:=ae (oj.below ((Below.refl _ w2).alloc zNr (.cells #[zi X] 3)));have dF:=ae (bz.alloc bz.size (.cells #[zi X] 3));have kq:Hid ((w2.alloc (.cells #[zi X] 3)).heap[w2.heap.size]?=some (.cells (jx X).toArray 3 (0,0))):=ae (qAB w2 _);have Fc:=bz.size;clear oj bz;go_wp2_with fail
      refine RJ.m ?_;intro w3 qw;subst qw;clear RJ;go_wp2_with (at_builtin;refine aS rfl _ _ 88 rfl w1.heap.size i0 (zi 0) 8 underlying88 dU cO cU cV rfl Si Si _ _ rfl oE w2.heap.size X rfl kq rfl (lZ _) Sg Tb ?_)
      intro v9 w9 aU ji;rw[<-aa oK]at aU;have pO:=ae aU;have kE:=ae (dF.trans ji);obtain⟨a9,m9,c9,rfl⟩:=aU.shape;clear aU ji oE dF kq;exact nd
    ·rw[qAG hc]at Va;have oK:Hid (ke L l (k+1)=ke L l k):=ae (by rw[aa HT];unfold dO;rw[zy hc]);clear hc HT;go_wp2_with fail
     refine Va.m ?_;intro w2 aK;have oj:=ae (od.below aK);have bz:=zTr aJ aK;clear aK Va od aJ;exact Ma
   ·obtain rfl:k=l.length:=by omega
    have od:=ae az;have aJ:=zTr aQ ai;have Rx:=ae aQ.size;clear az ai;go_wp2;go_ret2;exact⟨_,rfl,by rw[aa HRF,<-aa HRK];exact od.OS Rx,aJ⟩
 ·have hr:NK L h=[]:=by unfold NK;rw[zn hc]
  have hn:Rf L h=[]:=by unfold Rf;rw[zn hc]
  rw[hr];rw[hn]at HN;rw[aF _ hc]at HN ⊢;clear hh hc hr hn;generalize aX L h=X at*;go_enter func260,ntmps260
  go_wp2_with fail
  refine HN.mono ?_;rintro e w1 ⟨a1,c1,rfl,kT,ay⟩;have HB:=ae ay;clear kT ay HN;go_wp2;go_ret2;exact⟨_,rfl,cX.nil _ _,HB⟩
section
open Go.Sort
open Go.Shelf
theorem Aq(l:LI):l.flatMap jx=l.map (Value.int .i64):=by
 induction l with
 | nil=>rfl
 | cons x l ih=>rw[qCB,ih];rfl
theorem DV(h:l[k]?=some x):l.take (k+1)=l.take k++[x]:=by rw[qAv,h];rfl
theorem RX n(hn:1<=n) l g n0 b off cap zs(hm:zs.length<=100000)(hb:b<n0)(J Jx:LI->World->Prop)(hY:∀pre x W,J pre W->pre.length<zs.length->YieldAt Fence.wide (n-1) prog l #[zi x] W fun e W' =>(e=.returned (.bool true)/\J (pre++[x]) W'/\Below n0 W W')\/(e=.returned (.bool false)/\Jx (pre++[x]) W')) W(hg:W.cell? (zp g)=some (.slice (some ⟨b,off,none⟩) zs.length cap))(hc:∀j x,zs[j]?=some x->W.cell? ⟨b,off+j,none⟩=some (zi x))(h0:J [] W) :
  CallsIn Fence.wide n prog 328 #[.func (.yield l) #[] #[],zq g] W fun e W'=>(∃v,e=.returned v) /\
   ((∃ys,ys=zs/\J ys W')\/(∃pre,True/\Jx pre W')):=by
 have HY:=ae hY;have HC:=ae hc;refine callsIn_of_wp func328 rfl trivial ?_ rfl;simp only[ntmps328,qBa,zLc,qBS,Nat.reduceAdd,Nat.reduceSub,qCG,qCH,qCc,qCP,qAg,qBG]
 gi_wp2
 gi_loopw [7] (fun iv wr=>∃k:Nat,k<=zs.length/\iv=zi k/\J (zs.take k) wr/\Below n0 W wr) (fun iv _=>zs.length-(intOf iv).toNat)
 case atStart=>exact⟨0,qAH _,rfl,h0,zBr⟩
 case round =>
  obtain⟨k,hk,rfl,hJ,hkp⟩:=hrel;by_cases aB:k<zs.length
  ·obtain⟨x,hx⟩:∃x,zs[k]?=some x:=⟨zs[k],zLg aB⟩;obtain⟨fn,tmps,assign,body,hy,hR⟩:=HY (zs.take k) x wr hJ VW;have hcx:=(hkp.cell (p:=⟨b,off+k,none⟩) hb).trans (HC k x hx);have HSN:=ae (DV hx);have HR:=ae hR;have HKP:=ae hkp
   gi_wp2
   refine HR.mono ?_;rintro e W3 (⟨rfl,hJ3,Af⟩|⟨rfl,zok⟩)
   ·have HJ3:=ae hJ3;have JW:=ae (HKP.trans Af)
    gi_wp2
    go_roundw
    case rel=>exact⟨k+1,Sg,Sk,by rw[aa HSN];exact HJ3,JW⟩
    case measure=>exact Te
   ·have HJ3:=ae zok
    gi_wp2
    refine qBV (results_none rfl _ _ _) rfl ?_;exact⟨⟨_,rfl⟩,.inr ⟨_,trivial,HJ3⟩⟩
  ·obtain rfl:k=zs.length:=by omega
   rw[qAk]at hJ
   gi_wp2
   go_end0
   exact⟨⟨_,rfl⟩,.inl ⟨_,rfl,hJ⟩⟩
theorem J7 n l g cap al(Jy:World->Prop) W(hg:W.cell? (zp g)=some (.slice al 0 cap))(h0:Jy W) :
  CallsIn Fence.wide n prog 328 #[.func (.yield l) #[] #[],zq g] W fun e W'=>(∃v,e=.returned v)/\Jy W':=by
 refine callsIn_of_wp func328 rfl trivial ?_ rfl;simp only[ntmps328,qBa,zLc,qBS,Nat.reduceAdd,Nat.reduceSub,qCG,qCH,qCc,qCP,qAg,qBG]
 gi_wp2
 gi_loopw [7] (fun iv wr=>iv=zi 0/\Jy wr) (fun _ _=>0)
 case atStart=>exact⟨rfl,h0⟩
 case round =>
  obtain⟨rfl,hJ⟩:=hrel
  gi_wp2
  go_end0
  exact⟨⟨_,rfl⟩,hJ⟩
theorem Xn n a m cap w :
  CallsIn Fence.wide n prog 299 #[.slice a m cap] w (zr (.func (.func 328) #[] #[.pointer (some (zp w.heap.size))]) fun w'=>w'=w.alloc (.cells #[.slice a m cap] 88)):=by
 refine callsIn_of_wp func299 rfl trivial ?_ rfl;simp only[ntmps299,qBa,zLc,qBS,Nat.reduceAdd,Nat.reduceSub,qCG,qCH,qCc,qCP,qAg,qBG]
 gi_wp2
 go_ret;exact Uq
theorem J6 n(hn:1<=n) g n0 cap al zs(hm:zs.length<=100000) w0 w(hs:fF jx 1 w0 al cap zs)(Lr:w0.heap.size=n0)(hw:Below n0 w0 w)(hg:w.cell? (zp g)=some (.slice al zs.length cap)) :
  SeqStopsK Fence.wide n prog 328 #[zq g] (fun x:Int=>#[Value.int .i64 x]) (Below n0) (fun ys=>ys=zs) (fun _=>True) zs.length w:=fun l J Jx W hW _ _ hY h0=>by
 have hgW:=(hW.cell (p:=(zp g)) (qAA hg)).trans hg;by_cases aG:zs=[]
 ·subst aG;refine(J7 n l g cap al (J []) W hgW h0).mono ?_;rintro e W' ⟨he,hj⟩;exact⟨he,.inl ⟨_,rfl,hj⟩⟩
 ·obtain⟨b,off,rfl,hc⟩:=hs.2.2.2 aG;have ew:=qBE.2 aG;have hb:b<n0:=by have:=hc 0 zs[0] (zLg ew) 0 _ rfl;rw[<-Lr];exact qAA this
  refine RX n hn l g n0 b off cap zs hm hb J Jx hY W hgW (fun j x hj=>?_) h0;have q:=fF.num (cap:=cap) hc hj;exact((hw.trans (hW.mono (by rw[<-Lr];exact(Lr▸hw).size))).cell (p:=⟨b,off+j,none⟩) hb).trans q
theorem zaz a cap zs(hm:zs.length<=100000) g w(hs:fF jx 1 w a cap zs)(hg:w.cell? (zp g)=some (.slice a zs.length cap)) :
  zC 338 #[.slice none 0 0,.func (.func 328) #[] #[zq g]] w fun e w'=>∃v,e=.returned v/\cX jx 1 3 w' w.heap.size v zs/\zB w w':=by
 obtain⟨i0,hi,cO,cU,cV⟩:=qAO jR;refine(qBt (n:=5)).1 ?_;refine callsIn_of_wp_marks func338 rfl trivial ?_ rfl;simp only[ntmps338,qBa,zLc,qBS,Nat.reduceAdd,Nat.reduceSub,qCG,qCH,qCc,qCP,qAg,qBG];have BK:=qAA hg
 gi_wp2
 have bO:=Boxed.new w 88 (.slice none 0 0);have uD:zB w (w.alloc (.cells #[.slice none 0 0] 88)):=(Below.refl _ w).alloc zNr _;refine wpIn_rangeFunc_ownG rfl Sg (gf:=328) (lb:=#[zq g]) rfl trivial (enters_of func328 SQ rfl)
  (J6 4 Sg g w.heap.size cap a zs hm w _ hs rfl uD ((uD.cell (p:=(zp g)) BK).trans hg)) belowK_t (belowK_b Sk) zBr (fun _=>rfl)
  (fun pre W=>(∃v,Boxed W w.heap.size 88 v/\W.ownsRow w.heap.size 3 1 v pre.length (pre.map (Value.int .i64))/\True)/\zB w W)
  (fun _ _ _=>False)
  (OwnFrom.and (Own.from (holdsRow_own w.heap.size w.heap.size 88 3 1 (fun pre:LI=>pre.length) (fun pre=>pre.map (Value.int .i64)) (fun pre v=>True)) _) (ownFrom_below zNr Sk))
  (fun _ _ _ _ _ hs _ _=>hs)
  ⟨⟨_,bO,qBp _ _ _ _,trivial⟩,uD⟩
  (fun x=>{ tmps:=#[.slice none 0 0,.func (.func 328) #[] #[zq g],.pointer (some (zp w.heap.size)),undef,.slice none 0 0,zi x,.func (.func 328) #[] #[zq g],zi x,undef,undef,undef,undef,undef],defers:=[]}) ?assign ?body ?done ?stop
 case assign =>intro l x W K hK;exact OU
 case body =>
  rintro l pre x W ⟨⟨v,hv,bK,yH⟩,hB⟩ aB;have hc:=hv.cell
  gi_wp2_with (first
   | (gi_at_builtin;refine wpListIn_append_own _ rfl _ _ 88 rfl w.heap.size 3 i0 (zi 0) 1 8 underlying88 hi cO cU cV rfl Si _ _ _ rfl (bK.alloc _) (zp W.heap.size) 1 1 [zi x] rfl rfl (cell_one_new _ _ _) (by simp[Value.oneCell']) Ts Sg (by have:=hB.size;simp;omega) ?_;intro v' w1 jy fE _;obtain⟨g',cap',rfl⟩:=ownsRow_succ jy;obtain⟨hv1,hv2,ui,fR,aK⟩:=hv.appended Si bK hB.size zNr jy fE;have eT:=hv1.cell;have Fl:=hv1.frozen)
   | (rw[Oper.semAt_eq _ _ _ (fun c h=>Um)];go_simp;try go_bits))
  exact⟨fR.from _,aK,⟨_,hv2,by rw[zLa,qAc];simpa using ui,trivial⟩,hB.trans aK⟩
 case done =>
  rintro D ys W hD rfl ⟨⟨v,hv,bK,yH⟩,hB⟩ hK;have hc:=hv.cell
  gi_wp2
  refine⟨Sk,.inl ⟨_,_,rfl,run_takeDeferred hK,?_⟩⟩;refine⟨_,results_tmp rfl _ _ _,v,rfl,?_,hB.trans (belowK_b (w:=w) zNr W D _ _ (by simp at hD;omega) hK rfl rfl)⟩;unfold cX;rw[Aq];exact ownsRow_putObj bK _ hK rfl
 case stop =>rintro D c pre W _ _ h _;exact h.elim
theorem Qo a cap zs(hm:zs.length<=100000) g w(hs:fF jx 1 w a cap zs)(hg:w.cell? (zp g)=some (.slice a zs.length cap)) :
  zC 322 #[.func (.func 328) #[] #[zq g]] w fun e w'=>∃v,e=.returned v/\cX jx 1 3 w' w.heap.size v zs/\zB w w':=by
 have HA:=ae (zaz a cap zs hm g w hs hg);go_enter func322,ntmps322
 go_wp2_with fail
 refine HA.mono ?_;rintro e w1 ⟨v,rfl,hl,hb⟩;obtain⟨va,vm,vc,rfl⟩:=hl.shape;have HL:=ae hl;have HB:=ae hb;go_wp2;go_ret;exact⟨_,rfl,HL,HB⟩
theorem Nh v B l w(h:cX jx 1 3 w B v l)(hl:l.length<=100000) :
  zC 323 #[v] w (zr (.tuple #[]) fun w'=>cX jx 1 3 w' B v (sR l)/\au (fun k=>v.ownBlock=some k) (fun k=>v.ownBlock=some k) w w'):=by
 have hf:=h;unfold cX at hf ⊢;rw[Aq]at hf;rcases hf.2 with ⟨rfl,hz⟩|⟨gb,c,cur,rfl,zob,Px,r1,r2,r3,r4⟩
 ·obtain rfl:=qAp hz;refine(AnyM.slices_Sort_int_none Vr none 0 w).mono ?_;rintro e w' ⟨rfl,rfl⟩;exact⟨rfl,by rw[show sR []=[] by unfold sR;simp];exact h,au.refl _ _⟩
 ·have hH:=holds_of_block_i Px (by simpa using r4);have BK:=(zAg Px).1;refine(AnyM.slices_Sort_int Vr gb 0 c l w hH BK Sg).mono ?_;rintro e w' ⟨rfl,nn,os,rfl⟩;refine⟨rfl,?_,au.grown (grownBy_sorted_i _) (fun k hk=>by simpa[Value.ownBlock]using hk)⟩;rw[Aq,Ks];exact ownsRow_sorted_i Sk zob Px r1 r2 r3
theorem Ng a cap zs(hm:zs.length<=100000) g w(hs:fF jx 1 w a cap zs)(hg:w.cell? (zp g)=some (.slice a zs.length cap)) :
  zC 291 #[.func (.func 328) #[] #[zq g]] w fun e w'=>∃v,e=.returned v/\cX jx 1 3 w' w.heap.size v (sR zs)/\zB w w':=by
 have HC:=ae (Qo a cap zs hm g w hs hg);have HS:=ae (fun v W(h:cX jx 1 3 W w.heap.size v zs)=>Nh v w.heap.size zs W h hm);go_enter func291,ntmps291
 go_wp2_with fail
 refine HC.mono ?_;rintro e w1 ⟨v,rfl,hl,hb⟩;have hS1:=HS v w1 hl;have pQ:=ae (fun k (hk:v.ownBlock=some k)=>hl.block k hk);obtain⟨va,vm,vc,rfl⟩:=hl.shape;have sN:=ae hS1;have HB:=ae hb;go_wp2_with fail
 refine sN.m ?_;rintro w2 ⟨gS,gw⟩;have HL:=ae gS;have bz:=ae (HB.trans (gw.below pQ HB.size));go_wp2;go_ret;exact⟨_,rfl,HL,bz⟩
end
section
open Go.MapKept
open Go.ChangeMaps
open Go.Sort
open Go.Shelf
open Go.Maps (Keyed)
def x7(w:World)(gm:Nat)(P:List (LI)):Prop :=∃D:DataW Unit,w.ownsMap prog 3 (plainElem prog 3) gm P.length D/\(∀z:Int,Maps.has D (.int .i64 z)=vD P z)/\(P.map hd).Nodup/\∀p∈P,∀zd,D.atKey (.int .i64 (hd p)) zd=.lit (.int .i64 (ld p))
theorem H8 w:(zeroValue 3).run prog w=.ok (zi 0) w:=by obtain⟨i0,dU,cO,cU,cV⟩:=qAO jR;simp[zeroValue,typeInfo,dU,cO]
section
variable {w w':World} {gm:Nat} {P:List (LI)}
theorem x7.made(w:World):x7 (w.alloc (.map #[] 0)) w.heap.size []:=⟨.map [],World.ownsMap_made w _ _ _,fun z=>rfl,Sk,fun p hp=>by cases hp⟩
theorem x7.lt(h:x7 w gm P):gm<w.heap.size:=zig
theorem x7.same(h:x7 w gm P)(hs:w'.heap[gm]?=w.heap[gm]?):x7 w' gm P:=zgk
theorem x7.below(h:x7 w gm P)(hb:zB w w'):x7 w' gm P:=h.same (hb.block gm h.lt)
theorem x7.isMap(h:x7 w gm P):∃es clock,w.heap[gm]?=some (.map es clock):=zmV
theorem x7.apart(h:x7 w gm P)(hs:fF jx 1 w a c l):∀b off,a=some ⟨b,off,none⟩->l≠[]->b≠gm:=by
 rintro b off rfl aG rfl;obtain⟨es,clock,hm⟩:=h.isMap;obtain⟨b',off',e,hc⟩:=hs.2.2.2 aG;simp only[qAQ,qBI,qBj]at e;obtain⟨rfl,rfl⟩:=e;cases l with
 | nil=>exact aG rfl
 | cons x r =>have q:=hc 0 x rfl 0 _ rfl;unfold World.cell? at q;rw[hm]at q;simp at q
theorem x7.look(h:x7 w gm P){z}(hz:-9223372036854775808<=z/\z<=9223372036854775807) :
  ∃v,(Instr.lookup 301 (.map (some gm)) (zi z) true).run prog w=.ok (.tuple #[zi v,.bool (vD P z)]) w:=by
 obtain⟨D,h1,h2,_⟩:=h;have gL:=Maps.keyOf_int_mk (P:=prog) underlying3 (qBo hz);obtain⟨v,ps,cF,hv⟩:=h1.look_ok (Maps.int_keyed underlying3) underlying301 (H8 w) (plainElem_int underlying3 (a:=0) Si) gL;exact zmY
theorem x7.store(h:x7 w gm P)(hn:P.length<=1000){q}(hx:-9223372036854775808<=x/\x<=9223372036854775807)(hq:-9223372036854775808<=hd q/\hd q<=9223372036854775807)(eX:vD P x=false) :
  ∃w',(Instr.mapUpdate 301 (.map (some gm)) (zi x) (zi (hd q))).run prog w=.ok () w'/\x7 w' gm (P++[q++[x]])/\w.mapTurned w' gm:=by
 obtain⟨D,h1,h2,h3,h4⟩:=h;have hK:=Maps.int_keyed (P:=prog) underlying3;have gL:=Maps.keyOf_int_mk (P:=prog) underlying3 (qBo hx);obtain⟨w',cF,jy,ht⟩:=h1.store hK underlying301 Ts gL (plainElem_int underlying3 (a:=hd q) (qBo hq));have sr:=hK.key gL;have aG:∀z,z≠x->Lit.int .i64 z≠Lit.int .i64 x:=fun z hz e=>by simp only[qCC,qBL]at e;exact hz e
 refine⟨w',cF,⟨_,by rw[zLa];exact jy,fun z=>?_,?_,fun p hp zd=>?_⟩,ht⟩
 ·rw[YQ,o8];by_cases e:z=x
  ·subst e;exact ziF
  ·rw[Maps.has_put_other (aG z e),h2 z,qAU.2 (fun h=>e h.symm),qCM]
 ·rw[qAc,qCt];refine⟨h3,Sk,fun u hu v hv=>?_⟩;obtain⟨p,hp,rfl⟩:=qAT.1 hu;simp[o8]at hv;rw[hv];exact K7 eX p hp
 ·rcases zMa hp with hp|hp
  ·have:=K7 eX p hp;rw[Maps.atKey_put_other (aG _ this)];exact h4 p hp zd
  ·rw[zMs hp,o8,zgX];exact Maps.atKey_put_same h1.isMap sr _ _
end
end
section
open Go.MapKept
open Go.ChangeMaps
theorem SD p g c B L w(hh:Hp w B p g c L) :
  zC 259 #[zq p] w fun e w'=>∃v,e=.returned v/\cX jx 1 3 w' w.heap.size v (qu L)/\zB w w':=by
 obtain⟨i0,dU,cO,cU,cV⟩:=qAO jR;have HA:=ae (IC p g c B L w hh);have HR:Hid (qu L=(aE L 8).map (·.2)):=ae rfl;have xh:=iO L 8;clear hh;generalize qu L=RH at*;generalize aE L 8=R at*;go_enter func259,ntmps259
 go_wp2_with fail
 refine HA.mono ?_;rintro e w1 ⟨v1,rfl,jC,ay⟩;obtain⟨a1,c1,rfl,jA⟩:=jC.uM tw Sg;have sN:=ae jA;have aQ:=ae ay;have kS:=jA.2.2.1;clear jC jA ay HA;go_wp2_with fail
 go_loopw [3,5,9] (fun v _ iv wr=>∃k:Nat,k<=R.length/\iv=zi (k:Int)/\cX jx 1 3 wr w1.heap.size v ((R.take k).map (·.2))/\zB w1 wr) (fun _ _ iv _=>R.length-(intOf iv).toNat)
 case atStart=>exact Yq
 case round =>
  obtain⟨k,hk,rfl,az,ai⟩:=hrel;obtain⟨va,vm,vc,rfl⟩:=az.shape;by_cases aB:k<R.length
  ·obtain⟨b1,o1,rfl,eT⟩:=(sN.below ai).2.2.2 Ye;obtain⟨r,hr⟩:∃r,R[k]?=some r:=⟨R[k],zLg aB⟩;obtain⟨q0,q1⟩:=fF.root (cap:=0) eT hr;have uO:(R.take (k+1)).map (·.2)=(R.take k).map (·.2)++[r.2]:=by rw[qAv,hr];simp
   have x8:=ae uO;have tM:((R.take k).map (·.2)).length<=8:=by rw[zLm,zLt];omega
   obtain⟨s,x⟩:=r;dsimp only at*;generalize (R.take k).map (·.2)=acc at*;have aK:zB wr ((wr.alloc (.cells #[.string s,zi x] 134)).alloc (.cells #[zi x] 3)):=(zBr.alloc zNr _).alloc Sk _;have oE:=ae (az.below aK);have dF:=ae (ai.trans (aK.mono ai.size));have kq:Hid (((wr.alloc (.cells #[.string s,zi x] 134)).alloc (.cells #[zi x] 3)).heap[(wr.alloc (.cells #[.string s,zi x] 134)).heap.size]?=some (.cells (jx x).toArray 3 (0,0))):=ae (qAB _ _);simp only[zB,cJ]at kq;have Fc:=ai.size;have g1:=qAA q0;clear eT hr uO az ai aK;go_wp2_with (at_builtin;refine aS rfl _ _ 88 rfl w1.heap.size i0 (zi 0) 8 underlying88 dU cO cU cV rfl Si Si _ _ rfl oE (wr.heap.size+1) x rfl kq rfl (lZ _) Sg Tb ?_)
   intro v9 w9 aU ji;rw[<-aa x8]at aU;have pO:=ae aU;have kE:=ae (dF.trans ji);obtain⟨a9,m9,c9,rfl⟩:=aU.shape;exact nd
  ·have Rn:k=R.length:=by omega
   rw[Rn,qAk]at az;have HO:=ae az;have bz:=zTr aQ ai;have Rx:=ae aQ.size;go_wp2;go_ret;exact⟨_,rfl,by rw[aa HR];exact HO.OS Rx,bz⟩
theorem cX.zpS{α:Type}{enc:α->List Value}{k T:Nat}{w w':World}{B m:Nat}{v:Value}{l:List α}(h:cX enc k T w B v l)(ht:w.mapTurned w' m)(hm:m<B):cX enc k T w' B v l:=by
 refine⟨h.1,?_⟩;rcases h.2 with h0|⟨g,cap,cur,rfl,hB,hc,h3⟩
 ·exact .inl h0
 ·exact .inr ⟨g,cap,cur,rfl,hB,(ht.grown.block g (zAg hc).1 (fun e=>by cases e;omega)).trans hc,h3⟩
theorem cX.zmE{α:Type}{enc:α->List Value}{k T:Nat}{w w':World}{B gm:Nat}{v:Value}{l:List α}{P:List (LI)}(h:cX enc k T w B v l)(hM:x7 w gm P)(ht:au (fun k=>k=gm) (fun k=>k=gm) w w'):cX enc k T w' B v l:=by
 refine⟨h.1,?_⟩;rcases h.2 with h0|⟨g,cap,cur,rfl,hB,hc,h3⟩
 ·exact .inl h0
 ·refine .inr ⟨g,cap,cur,rfl,hB,(ht.block g (zAg hc).1 (fun e=>?_)).trans hc,h3⟩;obtain⟨es,clock,hm⟩:=hM.isMap;rw[<-e,hc]at hm;cases hm
theorem au.onB{S}{a b c}(h:au S S a b)(k:Below a.heap.size b c):au S S a c :=⟨k.os.trans h.os,k.tape.trans h.tape,k.output.trans h.output,qAF h.size k.size,fun i hi hn=>(k.block i hi).trans (h.block i hi hn),fun _ _ hs=>hs⟩
theorem zc1 gm q P a cap l w(hM:x7 w gm P)(hs:fF jx 1 w a cap l)(hl:l.length<=40)(hdg:Dg l)(hq:0<=hd q/\hd q<=40)(hP:P.length<=100) :
  zC 258 #[.map (some gm),zi (hd q),.slice a l.length cap] w fun e w'=>∃v,e=.returned v/\cX jx 1 3 w' w.heap.size v (CU q P (sR l))/\x7 w' gm (qv q P (sR l))/\au (fun k=>k=gm) (fun k=>k=gm) w w':=by
 obtain⟨i0,dU,cO,cU,cV⟩:=qAO jR;have HV:=ae ((qBt (n:=5)).1 (Xn 5 a l.length cap w));have jz:zB w (w.alloc (.cells #[.slice a l.length cap] 88)):=zBr.alloc zNr _;have HSO:=ae (Ng a cap l Sg w.heap.size (w.alloc (.cells #[.slice a l.length cap] 88)) (hs.below jz) Y8);have oF:=ae jz;have HM:=ae hM;have Wj:=hM.lt;have lE:(sR l).length=l.length:=Ks l;have HDG:Hid (Dg (sR l)):=ae (fun x hx=>hdg x (tE.1 hx));have ma:=hs.2.2.1;clear hM hs hdg jz;generalize sR l=s at*;generalize jE:l.length=n at*;have HM0:Hid (qv q P (s.take 0)=P/\CU q P (s.take 0)=[]):=ae (by refine⟨rfl,?_⟩;unfold CU qv;simp);have HML:=ae (fun k=>VU q (s.take k) P);have HNW:=ae (fun k=>zgz q P (s.take k));have HSN:=ae (fun k x(hx:s[k]?=some x)=>show qv q P (s.take (k+1))=GW q (qv q P (s.take k)) x/\CU q P (s.take (k+1))=if vD (qv q P (s.take k)) x=true then CU q P (s.take k)else CU q P (s.take k)++[x] by rw[DV hx];exact⟨OM q P _ x,zcr q P _ x⟩);go_enter func258,ntmps258
 go_wp2_with fail
 refine HV.mono ?_;rintro e w1 ⟨rfl,fM⟩;subst fM;go_wp2_with fail
 refine HSO.mono ?_;rintro e w2 ⟨v2,rfl,gS,aK⟩;simp only[zB,cJ]at aK;have dr:=oF.trans (aK.mono (qBi _));have znW:=qAL Wj dr.size;have AN:=ae (HM.below dr);obtain⟨a2,c2,rfl,oy⟩:=gS.uM jw Sg;have rJ:=ae oy;have bz:=ae dr;have kS:=oy.2.2.1;obtain⟨Q,hQ⟩:∃Q,hd q=Q:=⟨_,rfl⟩;rw[hQ]at hq ⊢;have HQQ:=ae hQ;go_wp2_with fail
 go_loopw [7,9,10,11,16] (fun v _ _ _ iv wr=>∃k:Nat,k<=s.length/\iv=zi (k:Int)/\cX jx 1 3 wr w2.heap.size v (CU q P (s.take k))/\x7 wr gm (qv q P (s.take k))/\au (fun k=>k=gm) (fun k=>k=gm) w2 wr) (fun _ _ _ _ iv _=>s.length-(intOf iv).toNat)
 case atStart=>exact⟨0,qAH _,rfl,by rw[HM0.2];exact cX.nil _ _,by rw[HM0.1];exact AN,au.refl _ _⟩
 case round =>
  obtain⟨k,hk,rfl,az,Rl,kx⟩:=hrel;obtain⟨va,vm,vc,rfl⟩:=az.shape;by_cases aB:k<s.length
  ·have aG:s≠[]:=by intro e;rw[e]at aB;simp at aB
   have Uf:=AN.apart rJ;obtain⟨b1,o1,rfl,eT⟩:=rJ.2.2.2 aG;obtain⟨x,hx⟩:∃x,s[k]?=some x:=⟨s[k],zLg aB⟩;have q0:=fF.num (cap:=0) eT hx;have q1:=(qAJ (a:=⟨b1,o1+k,none⟩) (kx.block b1 (qAA q0) (Uf b1 o1 rfl aG))).trans q0;have hxb:=HDG x (qAs hx);obtain⟨n1,n2⟩:=HSN k x hx;have tM:=HML k;have hnw:=HNW k;have zr1:(qv q P (s.take k)).length<=140:=by rw[zLt]at tM;omega
   have zr0:(CU q P (s.take k)).length<=140:=Sg
   obtain⟨xv,cN⟩:=Rl.look (z:=x) Sg;have HN1:=ae n1;have pP:=ae n2;have bW:=kx.size;clear eT hx Uf aG n1 n2 tM hnw q0;cases Ls:vD (qv q P (s.take k)) x with
   | true =>
    have HE:Hid (qv q P (s.take (k+1))=qv q P (s.take k)/\CU q P (s.take (k+1))=CU q P (s.take k)):=ae (by rw[aa HN1,aa pP,zy Ls];unfold GW;rw[zy Ls];exact⟨rfl,rfl⟩);rw[Ls]at cN;have od:=ae az;have HMP:=ae Rl;have Hu:=ae kx;clear az Rl kx HN1 pP Ls;go_wp2;go_roundw
    case rel=>exact⟨k+1,Sg,Tc,by rw[HE.2];exact od,by rw[HE.1];exact HMP,Hu⟩
    case measure=>exact Te
   | false =>
    have HE:Hid (qv q P (s.take (k+1))=qv q P (s.take k)++[q++[x]]/\CU q P (s.take (k+1))=CU q P (s.take k)++[x]):=ae (by rw[aa HN1,aa pP,zn (by rw[Ls];simp)];unfold GW;rw[zn (by rw[Ls];simp)];exact⟨rfl,rfl⟩);obtain⟨w3,eF,zkA,rp⟩:=Rl.store (q:=q) (x:=x) Sg Sg (by rw[aa HQQ];omega) Ls;rw[Ls]at cN;rw[<-HE.1]at zkA;rw[aa HQQ]at eF;have hT3:au (fun k=>k=gm) (fun k=>k=gm) w2 w3:=kx.trans (au.grown rp.grown (fun k hk=>by cases hk;rfl));have qU:=az.zpS rp znW;have eU:zB w3 (w3.alloc (.cells #[zi x] 3)):=zBr.alloc zNr _;have uv:=ae (qU.below eU);have W9:=ae (zkA.below eU);have HT4:=ae (hT3.trans (au.aI eU));have kq:Hid ((w3.alloc (.cells #[zi x] 3)).heap[w3.heap.size]?=some (.cells (jx x).toArray 3 (0,0))):=ae (qAB w3 _);have zha:=hT3.size;clear az Rl kx Ls zkA hT3 qU eU rp HN1 pP;generalize CU q P (s.take k)=acc at*;go_wp2_with (at_builtin;refine aS rfl _ _ 88 rfl w2.heap.size i0 (zi 0) 8 underlying88 dU cO cU cV rfl Si Si _ _ rfl uv w3.heap.size x rfl kq rfl (lZ _) Sg Tb ?_)
    intro v9 w9 aU ji;rw[<-HE.2]at aU;have pO:=ae aU;have HM9:=ae (W9.same (ji.block gm znW));have HT9:=ae (HT4.onB ji);obtain⟨a9,m9,c9,rfl⟩:=aU.shape;clear aU ji uv W9 HT4 kq;go_wp2;go_roundw
    case rel=>exact⟨k+1,Sg,Tc,pO,HM9,HT9⟩
    case measure=>exact Te
  ·have Rn:k=s.length:=by omega
   rw[Rn,qAk]at az Rl;have HO:=ae (az.OS bz.size);have HMP:=ae Rl;have HT:=ae ((au.aI (S:=fun k=>k=gm) bz).trans kx);have mi:¬((k:Int)<(s.length:Int)):=Sg
   clear Rn aB hk az Rl kx;go_wp2;go_ret;exact⟨_,rfl,HO,HMP,HT⟩
theorem Yd(L:LI)(h:Int)(hf:aD L):(NK L h).length<=15:=by rw[NJ,<-NR];exact qAF (zwq L _ _) (KZ L h hf)
theorem G4 p g c B L w(hh:Hp w B p g c L) :
  zC 207 #[zq p] w fun e w'=>∃gm,e=.returned (.map (some gm))/\x7 w' gm (My L)/\w.heap.size<=gm/\zB w w':=by
 obtain⟨i0,dU,cO,cU,cV⟩:=qAO jR;have Jg:=@run_makeMap prog;have hf:=hh.bC;have gT:zB w (w.alloc (.map #[] 0)):=zBr.alloc zNr _;have ja:=ae (SD p g c B L (w.alloc (.map #[] 0)) (hh.below gT));simp only[zB,cJ]at ja;have HRE:=ae (fun(x:Int) (W:World) (hW:zB w W)=>SL p g c B L x W (hh.below hW));have hrt:(qu L).length<=8:=by unfold qu;rw[zLm];exact iO L 8
 have uK:=ae (fun(q:LI) (P:List (LI)) (a:OA) (cap:Nat) (l:LI) (W:World) hM hs hl hdg hq hP=>zc1 w.heap.size q P a cap l W hM hs hl hdg hq hP);have Q4:Hid (∀k,Bf (qu L) (dR L) (wu (qu L) (dR L) k) k):=ae (fun k=>zeJ (kJ hf) (fD L) k (Nat.le_total _ _));have jD:=ae (fun k=>(Q4 k).len (kJ hf) (fD L));have HZ:Hid (qv [] [] (sR (qu L))=wu (qu L) (dR L) 0/\CU [] [] (sR (qu L))=(wu (qu L) (dR L) 0).map hd):=ae ⟨rfl,by have:=KX [] [] (sR (qu L));rw[qCz,qAg]at this;exact this⟩;have HSC:Hid (∀k q,(wu (qu L) (dR L) k)[k]?=some q->aX L (hd q)=0/\NK L (hd q)=dR L (hd q)/\(1<=hd q/\hd q<=40)/\qv q (wu (qu L) (dR L) k) (sR (NK L (hd q)))=wu (qu L) (dR L) (k+1)/\(wu (qu L) (dR L) k).map hd++CU q (wu (qu L) (dR L) k) (sR (NK L (hd q)))=(wu (qu L) (dR L) (k+1)).map hd):=ae (fun k q hq=>by
  have hw:=(Q4 k).y9 q (qAs hq);have hc:=Xm hf hw;have hr:NK L (hd q)=dR L (hd q):=by unfold NK;rw[zy hc]
  have e:=Qz hq;refine⟨hc,hr,aN.1 (aV.1 hc).2.1,by rw[hr,e],?_⟩;rw[KX,hr,e])
 have zn4:∀x,Dg (NK L x):=fun x y hy=>by
  unfold NK at hy;split at hy
  ·exact fD L x y hy
  ·cases hy
 have HDG:Hid (∀x,Dg (NK L x)/\(NK L x).length<=15):=ae (fun x=>⟨zn4 x,Yd L x hf⟩);clear zn4;have zid:Hid (∀k,k<=40->(wu (qu L) (dR L) k).length<=k->wu (qu L) (dR L) k=My L):=ae (fun k hk hl=>zly hk hl);have uV:=ae (kJ hf);have HM0:=ae (x7.made w);have iX:=ae gT;clear hh hf gT Q4;generalize My L=BL at*;generalize qu L=RH at*;generalize wu RH (dR L)=bp at*;go_enter func207,ntmps207
 go_wp2_with fail
 refine ja.mono ?_;rintro e w1 ⟨v1,rfl,jC,ay⟩;have ia:zB w w1:=iX.trans (ay.mono (qBi _));have Ac:w.heap.size+1<=w1.heap.size:=by have:=ay.size;simp only[zB,cJ]at this;exact this
 have hM1:x7 w1 w.heap.size []:=HM0.same (ay.block _ (qBu _));obtain⟨a1,c1,rfl,jA⟩:=jC.uM jw Sg;have Gl:=ae (aa uK [] [] a1 c1 RH w1 hM1 jA Sg uV Si Sk);have zdH:=jA.2.2.1;have aQ:=ae ia;clear jC jA ay ia hM1 ja HM0 iX;have hh0:hd []=0:=rfl;rw[hh0]at Gl;go_wp2_with fail
 refine Gl.mono ?_;rintro e w2 ⟨v2,rfl,gS,kz,gw⟩;rw[HZ.2]at gS;rw[HZ.1]at kz;have oj:=ae (gS.OS Ac);have AN:=ae kz;have bz:=ae (aQ.trans (gw.below (fun k hk=>by rw[hk];exact zNr) Sg));have Fc:=qAF Ac gw.size;obtain⟨va2,vm2,vc2,rfl⟩:=gS.shape;clear gS kz gw Gl aQ hh0;go_wp2_with fail
 go_loopw [4,5,6,7] (fun v iv _ _ wr=>∃k:Nat,k<=(bp k).length/\iv=zi (k:Int)/\cX jx 1 3 wr (w.heap.size+1) v ((bp k).map hd)/\x7 wr w.heap.size (bp k)/\zB w wr/\w.heap.size+1<=wr.heap.size) (fun _ iv _ _ _=>41-(intOf iv).toNat)
 case atStart=>exact⟨0,qAH _,rfl,oj,AN,bz,Fc⟩
 case round =>
  obtain⟨k,hk,rfl,az,Rl,ai,bW⟩:=hrel;have jE:=jD k;obtain⟨va,vc,rfl,lE⟩:=az.uM jw (by rw[zLm];omega);have tM:((bp k).map hd).length=(bp k).length:=zLm _;have HMM:Hid ((bp k).map hd=(bp k).map hd):=ae rfl;have zo7:Hid (∀q,(bp k)[k]?=some q->((bp k).map hd)[k]?=some (hd q)):=ae (fun q hq=>by rw[qBN,hq];rfl);have HSX:=ae (fun q hq=>(HSC k q hq).2.2.2.2);by_cases aB:k<(bp k).length
  ·obtain⟨q,hq⟩:∃q,(bp k)[k]?=some q:=⟨_,zLg aB⟩;obtain⟨s1,s2,s3,s4,_⟩:=HSC k q hq;have s5:=HSX q hq;have rI:=zo7 q hq;clear HSX zo7 HMM;generalize (bp k).map hd=MM at*;have zr2:k<MM.length:=by omega
   obtain⟨b3,o3,rfl,uQ⟩:=lE.2.2.2 zor;have q0:=fF.num (cap:=0) uQ rI;have HRX:=ae (HRE (hd q) wr ai);rw[s1,aC]at HRX;obtain⟨d1,d2⟩:=HDG (hd q);have Ad:k+1<=(bp (k+1)).length:=by have:=qBB List.length s5;rw[zLa,zLm]at this;omega
   have GC:=ae d1;have HS4:=ae s4;have HS5:=ae s5;have HQ:Hid (∃Q,hd q=Q):=ae ⟨_,rfl⟩;have zr3:=jD (k+1);have od:=ae az;have HMP:=ae Rl;have aJ:=ae ai;have HC3:Hid (∀W,au (fun k=>k=w.heap.size) (fun k=>k=w.heap.size) wr W->W.cell? ⟨b3,o3+k,none⟩=some (zi (hd q))):=ae (fun W hW=>by have Uf:=Rl.apart lE b3 o3 rfl zor;exact(qAJ (a:=⟨b3,o3+k,none⟩) (hW.block b3 (qAA q0) Uf)).trans q0);have HML:=ae tM;have zsB:MM.length<=40:=Sg
   have ZJ:(bp k).length<=40:=Sg
   clear az Rl ai uQ lE rI hq s1 s2 s4 s5 d1 tM;generalize hRF:NK L (hd q)=RF at*;have HLX:=ae (fun(a:OA) (cap:Nat) (W:World) hM hs=>uK q (bp k) a cap RF W hM hs Sg GC Sg Sg);obtain⟨Q,hQ⟩:=aa HQ;rw[hQ]at q0 HRX HLX s3 HC3;clear hRF hQ HQ;go_wp2_with fail
   refine HRX.mono ?_;rintro e w3 ⟨v3,rfl,l7,bD⟩;obtain⟨a3,c3,rfl,Zp⟩:=l7.uM jw Sg;have hM3:=HMP.below bD;have Gk:=ae (HLX a3 c3 w3 hM3 Zp);have hq3:=HC3 w3 (au.aI bD);have oE:=ae (od.below bD);have HM3:=ae hM3;have dF:=zTr aJ bD;have zha:=qAF bW bD.size;have Lz:=Zp.2.2.1;clear l7 Zp bD hM3 HRX HLX od HMP aJ HC3 q0;go_wp2_with fail
   refine Gk.mono ?_;rintro e w4 ⟨v4,rfl,Dw,T4,vM⟩;have uv:=ae (oE.zmE HM3 vM);rw[aa HS4]at T4;have W9:=ae T4;have fh:=ae (dF.trans (vM.below (fun k hk=>by rw[hk];exact zNr) Sg));have znk:=qAF zha vM.size;have xU:(CU q (bp k) (sR RF)).length<=40:=by have:=qBB List.length HS5;rw[zLa,zLm]at this;omega
   obtain⟨a4,c4,rfl,zdn⟩:=Dw.uM jw Sg;have zoH:=ae zdn;clear Dw T4 vM Gk oE HM3 dF zdn hq3;have HOK:Hid (MM.length+(CU q (bp k) (sR RF)).length<=1000):=ae Sg;generalize CU q (bp k) (sR RF)=NW at*;go_wp2_with (at_builtin;refine jq rfl _ _ 88 rfl (w.heap.size+1) i0 (zi 0) 8 underlying88 dU cO cU cV rfl Si Si _ _ rfl uv a4 c4 _ rfl zoH jw lZ HOK znk ?_)
   intro v9 w9 aU ji
   try rw[aa HS5]at aU
   have pO:=ae aU;have HM9:=ae (W9.same (ji.block _ (qBu _)));have kE:=ae (fh.trans (ji.mono (qBi _)));have znj:=qAF znk ji.size;obtain⟨a9,m9,c9,rfl⟩:=aU.shape;clear aU ji uv W9 fh zoH;go_wp2;go_roundw
   case rel=>exact⟨k+1,Sg,Tc,pO,HM9,kE,znj⟩
   case measure=>exact Te
  ·have he:=zid k Sg Sg;rw[he]at Rl;have HMP:=ae Rl;have aJ:=ae ai;have mi:¬((k:Int)<((bp k).length:Int)):=by omega
   rw[tM];clear Rl ai az lE he;go_wp2;go_ret;exact⟨_,rfl,HMP,zNr,aJ⟩
end
section
open Go.MapKept
open Go.ChangeMaps
open Go.Sort
open Go.Shelf
section
variable {w:World} {B p g c:Nat} {L:LI}
theorem SM(h:Hp w B p g c L) :
  zC 159 #[zq p] w fun e w'=>∃v,e=.returned v/\cX jx 1 3 w' w.heap.size v (jn L 40)/\zB w w':=by
 obtain⟨i0,dU,cO,cU,cV⟩:=qAO jR;have HL:=ae (G4 p g c B L w h);have HIS:=ae (fun(x:Int) (W:World) (hW:zB w W)=>zV p g c B L x W (h.below hW));have HMT:=ae (fun x=>zhZ h.bC x);have HCK:Hid (∀k:Nat,k<40->(aX L ((k:Int)+1)=0 ↔ aw L ((k:Int)+1)≠0)):=ae (fun k hk=>⟨fun e=>(aV.1 e).2.2,fun e=>aV.2 ⟨h.bC.gR,aN.2 Sg,e⟩⟩);have HDS:=ae (fun k=>Qf L k);have HDL:=ae (fun k=>xr L k);have HD0:Hid (jn L 0=[]):=ae rfl;clear h;generalize My L=BL at*;generalize jn L=dk at*;go_enter func159,ntmps159
 go_wp2_with fail
 refine HL.mono ?_;rintro e w1 ⟨gm,rfl,BJ,Wj,ay⟩;have ME:=ae BJ;have aQ:=ae ay;clear BJ ay HL;go_wp2_with fail
 go_loopw [4,5,6,7] (fun v iv _ _ wr=>∃k:Nat,k<=40/\iv=zi ((k:Int)+1)/\cX jx 1 3 wr w1.heap.size v (dk k)/\zB w1 wr) (fun _ iv _ _ _=>41-(intOf iv).toNat)
 case atStart=>exact⟨0,qAH _,rfl,by rw[aa HD0];exact cX.nil _ _,zBr⟩
 case round =>
  obtain⟨k,hk,rfl,az,ai⟩:=hrel;obtain⟨va,vm,vc,rfl⟩:=az.shape;by_cases aB:k<40
  ·obtain⟨xv,cN⟩:=(ME.below ai).look (z:=(k:Int)+1) Sg;rw[aa HMT]at cN;have Va:=ae (HIS ((k:Int)+1) wr (zTs aQ ai));have Hf:=HCK k aB;have T8:=HDS k;have Mv:=HDL k;have hle:(k:Int)+1<=40:=by omega
   have fu:((k+1:Nat):Int)+1=(k:Int)+1+1:=Sg;have AY:=ae fu;have hnn:(0:Int)<=(k:Int)+1:=Sg;have od:=ae az;have aJ:=ae ai;clear az ai fu;obtain⟨X,hX⟩:∃X:Int,(k:Int)+1=X:=⟨_,rfl⟩;rw[hX]at cN Va Hf T8 hle AY hnn;rw[hX];have HX:=ae hX;clear hX;cases Jh:G3 L X with
   | true =>
    rw[Jh]at cN;have HE:Hid (dk (k+1)=dk k):=ae (by rw[T8,zn (by rw[Jh];simp)]);clear T8 Hf Jh Va;go_wp2;go_roundw
    case rel=>exact⟨k+1,Sg,by rw[aa AY],by rw[aa HE];exact od,aJ⟩
    case measure=>exact Te
   | false =>
    rw[Jh]at cN;by_cases ht:aw L X=0
    ·have HE:Hid (dk (k+1)=dk k):=ae (by rw[T8,zn (fun hq=>hq.1 ht)]);rw[qAG (fun e=>(Hf.1 e) ht)]at Va;clear T8 Hf Jh ht;go_wp2_with fail
     refine Va.m ?_;intro w2 aK;have oj:=ae (od.below aK);have bz:=zTr aJ aK;clear aK Va od aJ;go_wp2;go_roundw
     case rel=>exact⟨k+1,Sg,by rw[aa AY],by rw[aa HE];exact oj,bz⟩
     case measure=>exact Te
    ·have HE:Hid (dk (k+1)=dk k++[X]):=ae (by rw[T8,zy ⟨ht,Jh⟩]);rw[qAE (Hf.2 ht)]at Va;clear T8 Hf Jh ht;go_wp2_with fail
     refine Va.m ?_;intro w2 aK;have dr:=zTs aJ aK;have oE:=ae ((od.below aK).below ((Below.refl _ w2).alloc zNr (.cells #[zi X] 3)));have dF:=ae (dr.alloc dr.size (.cells #[zi X] 3));have kq:Hid ((w2.alloc (.cells #[zi X] 3)).heap[w2.heap.size]?=some (.cells (jx X).toArray 3 (0,0))):=ae (qAB w2 _);have Fc:=dr.size;clear aK dr Va od aJ;generalize dk k=acc at*;go_wp2_with (at_builtin;refine aS rfl _ _ 88 rfl w1.heap.size i0 (zi 0) 8 underlying88 dU cO cU cV rfl Si Si _ _ rfl oE w2.heap.size X rfl kq rfl (lZ _) Sg Tb ?_)
     intro v9 w9 aU ji
     try rw[<-aa HE]at aU
     have pO:=ae aU;have kE:=ae (dF.trans ji);obtain⟨a9,m9,c9,rfl⟩:=aU.shape;clear aU ji oE dF kq;go_wp2;go_roundw
     case rel=>exact⟨k+1,Sg,by rw[aa AY],pO,kE⟩
     case measure=>exact Te
  ·obtain rfl:k=40:=by omega
   have HO:=ae (az.OS aQ.size);have bz:=zTr aQ ai;clear az ai;go_wp2;go_ret;exact⟨_,rfl,HO,bz⟩
end
end
theorem Kf(hf:aD L) k:kB L (yW L ((jn L 40).take k)) ((jn L 40).take k):=by obtain⟨h1,h2⟩:=LW hf;have hn:((jn L 40).take k).Nodup:=h1.sublist (List.take_sublist _ _);have:=DW hf ((jn L 40).take k) [] (by simpa using hn) (by simpa using fun h hm=>h2 h (qAj hm)) L (kB.refl hf);simpa using this
theorem Vn(hf:aD L)(hx:(jn L 40)[k]?=some x):nD (yW L ((jn L 40).take k)) x=0/\sZ (yW L ((jn L 40).take k)) x=yW L ((jn L 40).take (k+1)):=by
 obtain⟨h1,h2⟩:=LW hf;obtain⟨a1,a2⟩:=h2 x (qAs hx);have hni:x ∉ (jn L 40).take k:=fun hm=>by obtain⟨j,hj,e⟩:=qAm hm;rw[zLt]at hj;rw[List.getElem_take]at e;obtain⟨hk,e2⟩:=zLs hx;have:=qCT.1 h1 j k Sg hk Sg;exact this (e.trans e2.symm)
 obtain⟨_,b2,_⟩:=(Kf hf k).more a1 hni a2;refine⟨b2,?_⟩;unfold sZ;rw[zy b2];unfold yW;rw[qAv,hx,qBb];rfl
section
variable {w:World} {B p g c:Nat} {L:LI}
theorem NI(h:Hp w B p g c L)(hB:B<=w.heap.size) :
  zC 104 #[zq p] w (zr (.tuple #[zi (jn L 40).length,.nilIface]) fun w'=>∃g' c',Hp w' B p g' c' (yW L (jn L 40))/\au (bA p g) (bA p g') w w'):=by
 have HD:=ae (SM h);have Mv:=xr L 40;have fP:=ae (fun k x hx=>Vn h.bC (k:=k) (x:=x) hx);have JX:=ae (fun(W:World) (g' c':Nat) (M:LI) (x:Int) (hh:Hp W B p g' c' M) (hW:B<=W.heap.size)=>JD p g' c' B M x W hh hW);have HH:=ae h;have HFT:Hid (∀k,bA p g k->k<w.heap.size):=ae (fun k hk=>by
  rcases hk with rfl|rfl
  ·exact h.Ob
  ·exact h.glt)
 have H0:Hid (yW L ((jn L 40).take 0)=L):=ae rfl;clear h;generalize jn L 40=D at*;go_enter func104,ntmps104
 go_wp2_with fail
 refine HD.mono ?_;rintro e w1 ⟨v1,rfl,jC,ay⟩;have GD:=ae (fun k (hk:v1.ownBlock=some k)=>jC.block k hk);obtain⟨a1,c1,rfl,jA⟩:=jC.uM jw Sg;have sN:=ae jA;have HH1:=ae (HH.below ay);have aQ:=ae ay;have kS:=jA.2.2.1;have Ac:=ay.size;clear jC jA ay HD HH;go_wp2_with fail
 go_loopw [6,7,12] (fun _ _ iv wr=>∃ (k g' c':Nat),k<=D.length/\iv=zi (k:Int)/\Hp wr B p g' c' (yW L (D.take k))/\au (bA p g) (bA p g') w1 wr) (fun _ _ iv _=>D.length-(intOf iv).toNat)
 case atStart=>exact⟨0,g,c,qAH _,rfl,by rw[aa H0];exact HH1,au.refl _ _⟩
 case round =>
  obtain⟨k,g',c',hk,rfl,hh,kx⟩:=hrel;by_cases aB:k<D.length
  ·have aG:D≠[]:=by intro e;rw[e]at aB;simp at aB
   obtain⟨b1,o1,rfl,eT⟩:=sN.2.2.2 aG;obtain⟨x,hx⟩:∃x,D[k]?=some x:=⟨D[k],zLg aB⟩;have q0:=fF.num (cap:=0) eT hx;have Gw:¬bA p g b1:=fun hf=>by have h1:=HFT b1 hf;have h2:=GD b1 rfl;omega
   have q1:wr.cell? ⟨b1,o1+k,none⟩=some (zi x):=(qAJ (a:=⟨b1,o1+k,none⟩) (kx.block b1 (qAA q0) Gw)).trans q0;obtain⟨s1,s2⟩:=fP k x hx;have HF:=ae (JX wr g' c' _ x hh (by have:=kx.size;omega));rw[s1,s2,aC]at HF;have HT:=ae kx;clear eT hx q0 Gw aG s1 s2 hh kx;go_wp2_with fail
   refine HF.m ?_;rintro w2 ⟨g2,c2,hh2,gw⟩;have HH2:=ae hh2;have oK:=ae (HT.trans gw);go_wp2;go_roundw
   case rel=>exact⟨k+1,g2,c2,Sg,Tc,HH2,oK⟩
   case measure=>exact Te
  ·have hkD:k=D.length:=by omega
   rw[hkD,qAk]at hh;have HH2:=ae hh;have oK:=ae ((au.aI (S:=bA p g) aQ).trans kx);go_wp2;go_ret2
   first
    | exact⟨rfl,g',c',HH2,oK⟩
    | exact⟨rfl,g',⟨c',HH2⟩,oK⟩
