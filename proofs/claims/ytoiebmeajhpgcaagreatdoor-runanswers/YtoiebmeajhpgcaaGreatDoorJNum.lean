import Derived.Test.YtoiebmeajhpgcaaGreatDoorProg
import Derived.WalkKit
import Derived.BigQuiet
import Derived.WalkLawsBesides
import Derived.Laws.CopyOwn
import Derived.OpenShut
import Derived.Lib.BufferWrite
import Derived.Laws.BytesString
import Derived.Maps.AppendAt
import Derived.Deep.RegionWith
import Derived.Deep.QuietTactic
set_option maxRecDepth 100000
set_option maxHeartbeats 16000000
set_option linter.all false
namespace Go.Proofs.YtoiebmeajhpgcaaGreatDoor
variable {n B i g:Nat}{w c w':World}{a:Option Addr}{l z L:List Int}{P:Program}{ops:Array Oper}{rest:List Oper}{o:Oper}{Q:Exit->Act->World->Prop}{v:Value}{f:Nat->Bool}
open Tryz
open Go.RowKit
theorem mP s w(h1:1<=s)(h2:s<=4) :
  Calls prog 265 #[.int .i64 s] w fun e w'=>e=.returned (.bool true)/\w=w':=by
 go_enter func265,ntmps265
 go_wp2;go_ret;exact⟨rfl,rfl⟩
def oW(s:Int):Int:=if s=1 then 255 else if s=2 then 65535 else if s=3 then 16777215 else 4294967295
theorem tS s w(h1:1<=s)(h2:s<=4) :
  Calls prog 266 #[.int .i64 s] w fun e w'=>e=.returned (.int .i64 (oW s))/\w=w':=by
 rcases (show s=1\/s=2\/s=3\/s=4 from by omega)with rfl|rfl|rfl|rfl
 all_goals
  go_enter func266,ntmps266
  go_wp2;go_ret;exact⟨rfl,rfl⟩
theorem Cg a(len cap:Nat)(at' s:Int) w(hl:len<=140737488355328)(h1:1<=s)(h2:s<=4)(h3:0<=at')(h4:at'<=len-s) :
  Calls prog 267 #[.slice a len cap,.int .i64 at',.int .i64 s] w fun e w'=>e=.returned (.bool true)/\w=w':=by
 go_enter func267,ntmps267
 go_wp2;go_ret;exact⟨rfl,rfl⟩
theorem ae{p:Prop}(h:p):Hid p:=h
theorem aa{p:Prop}(h:Hid p):p:=h
section
variable{p:Prop}
def zpT(h:p:=by intro u hu;unfold lG at hu;exact ve):=h
end
section
variable{p:Prop}
def cY(h:p:=by
 have hl:=aH.2.2.1;go_enter func109,ntmps109
 go_wp2
 go_loop [10,11] (fun m i=>∃k:Nat,k<=S/\i=zi k/\m=zi (256 ^ k)) (fun _ i=>S-(intOf i).toNat)
 case atStart=>exact⟨0,Sg,rfl,rfl⟩
 case round =>
  obtain⟨k,hk,rfl,rfl⟩:=hrel;have iT:=pE k Sg;by_cases aB:k<S
  ·have HS:=ae (qCn 256 k);generalize (256:Int) ^ k=y at*;go_wp2
   go_round
   case rel=>exact⟨k+1,Sg,Tc,by rw[aa HS]⟩
   case measure=>simp[intOf];omega
  ·obtain rfl:k=S:=by omega
   generalize (256:Int) ^ k=y at*;go_wp2;go_ret2;exact⟨rfl,rfl⟩):=h
def eB(h:p:=by
 obtain⟨W,hW⟩:∃W:Nat->DS×Int,W=iY (D,0) (fun i=>(f i,B i)):=⟨_,rfl⟩;have W0:W 0=(D,0):=zcY;have WS:∀k,W (k+1)=dq (W k) (f k) (B k):=by intro k;rw[hW];rfl
 have WL:∀k,(W k).2≠0->∀m,k<=m->W m=W k:=by intro k hk m hm;rw[hW]at hk ⊢;exact uY hk m hm
 rw[<-hW];have H:=ae h;have HB:=ae hb;have HF:=ae hf;have HFF:=ae hF;clear h hb hf hW hF;have HW:Hid (W 0=(D,0)/\(∀k,W (k+1)=dq (W k) (f k) (B k))/\∀k,(W k).2≠0->∀m,k<=m->W m=W k):=ae ⟨W0,WS,WL⟩;clear W0 WS WL;go_enter func115,ntmps115
 go_wp2_with fail
 go_loopw [12] (fun v wr=>∃k:Nat,k<=n/\v=zi k/\(W k).2=0/\∃S1,Live w0 wr p S1 (W k).1/\au S S1 w wr) (fun v _=>n-(intOf v).toNat)
 case atStart=>exact⟨0,qAH _,rfl,by rw[HW.1],S,by rw[HW.1];exact H,au.refl _ _⟩
 case round =>
  obtain⟨k,hk,rfl,hz,S1,hl,ht⟩:=hrel;by_cases aB:k<n
  ·have ZJ:=HB.cQ ht fC;obtain⟨ab,capb,eT,lI,uQ⟩:=ZJ.2 k aB;have hcf:=HF wr S1 ht k aB;have ku:=hl.write (f k) (a:=ab) (cap:=capb) (l:=B k) ⟨lI,uQ⟩;have fZ:=HW.2.1 k;rw[me hz]at fZ;have HC:=ae hcf;have HR:=ae ku;have HT:=ae ht;have HS:=ae fZ;have Ju:=lI.2.2.1;generalize (W k).1.bN (f k) (B k)=E at HR HS;generalize (W k).1.write (f k) (B k)=D2 at HR HS;generalize (B k).length=bl at eT HR Ju;generalize f k=fk at HR HC;go_wp2_with fail
   rw[aa HFF,Oper.upon_enter];refine HC.m ?_;rintro w1 rfl;go_wp2_with fail
   refine HR.m ?_;rintro w1 ⟨S2,gS,gw⟩;by_cases hE0:E=0
   ·subst hE0;rw[aC];go_wp2;go_roundw
    case rel=>exact⟨k+1,Sg,Tc,by rw[aa HS],S2,by rw[aa HS];exact gS,HT.trans gw⟩
    case measure=>simp[intOf];omega
   ·rw[aF _ hE0];go_wp2;go_ret;have he:=HW.2.2 (k+1) (by rw[aa HS];exact hE0) n Sg;have hx:di (W n)=(D2,E):=by rw[he,aa HS];exact eO hE0
    refine⟨by rw[hx];exact qBB Ending.returned (aF _ hE0).symm,S2,by rw[hx];exact gS,HT.trans gw⟩
  ·obtain rfl:k=n:=by omega
   have lF:=hl.flush;have HR:=ae lF;have HT:=ae ht;go_wp2_with fail
   refine HR.m ?_;rintro w1 ⟨S2,gS,gw⟩;go_wp2;go_ret;rw[pq hz];exact⟨rfl,S2,gS,HT.trans gw⟩):=h
def eI(h:p:=by
 go_enter func20,ntmps20
 go_wp2_with fail
 go_loopw [5,6] (fun nv iv wr=>∃i:Nat,i<=s.size/\iv=zi i/\nv=zi (pG s 0 i)/\yQ s 0 i/\w=wr) (fun _ iv _=>s.size-(intOf iv).toNat)
 case atStart=>exact⟨0,Sg,rfl,rfl,fun j hj=>absurd hj (qAX _),rfl⟩
 case round =>
  obtain⟨i,hi,rfl,rfl,hd,rfl⟩:=hrel;have hv:=KY (k:=i) Sg hd;by_cases aB:i<s.size
  ·have hC:=kO aB;have PN:hZ s i=s[i]:=hC;have t0:(i:Int)<(s.size:Int):=by omega
   by_cases hg:48<=(s[i]).toNat/\(s[i]).toNat<=57
   ·have g1:¬(((s[i]).toNat:Nat):Int)<48:=by omega
    have g2:¬(57:Int)<(((s[i]).toNat:Nat):Int):=Sg;have DG:Hid (pG s 0 (i+1)=pG s 0 i*10+(((s[i]).toNat:Nat):Int)-48):=ae (by show pG s 0 i*10+((hZ s (0+i)).toNat:Int)-48=_;rw[qAl,PN]);have HD:Hid (yQ s 0 (i+1)):=ae (fun j hj=>by
     by_cases h:j<i
     ·exact hd j h
     ·obtain rfl:j=i:=by omega
      rw[qAl,PN];exact hg)
    clear hd hC PN hg;generalize pG s 0 i=x at*;go_wp2;go_roundw
    case rel=>exact⟨i+1,Sg,Tc,by rw[aa DG],HD,trivial⟩
    case measure=>simp[intOf];omega
   ·have HR:Hid (Re s 0=none):=ae (jO (.inr (.inr (.inr (fun h=>hg (by rw[<-PN];have:=h i Sg;rwa[qAl]at this))))));have um:(((s[i]).toNat:Nat):Int)<48\/¬(((s[i]).toNat:Nat):Int)<48/\(57:Int)<(((s[i]).toNat:Nat):Int):=by omega
    clear hd hC PN hg;generalize pG s 0 i=x at*;rcases um with hg|⟨hg,um⟩
    ·go_wp2;go_ret2;exact⟨by rw[aa HR];rfl,rfl⟩
    ·go_wp2;go_ret2;exact⟨by rw[aa HR];rfl,rfl⟩
  ·obtain rfl:i=s.size:=by omega
   have HR:Hid (Re s 0=some (pG s 0 (s.size))):=ae (zL Sg Sg (by rw[kO h0];exact HQ2) hd);have t0:¬(s.size:Int)<(s.size:Int):=Sg;clear hd;generalize pG s 0 (s.size)=x at*;go_wp2;go_ret2;exact⟨by rw[aa HR];rfl,rfl⟩):=h
def fb(h:p:=by
 have HG:=ae (eX Sg);by_cases hp:i%2=0
 ·have p0:((i:Int)%2 == 0)=true:=qCA.2 Sg;have HK:=ae (Jp hp);have HB:=ae hb;have HL:=ae (fun o=>hl.below ((Below.refl wr.heap.size wr).alloc zNr o));have hz:∀o,w.heap.size<=(wr.alloc o).heap.size:=fun o=>by simp;omega
  clear eQ eX Jp Ad Fh hpv hl hb hg hp hn a1 a2 a3 dlo;generalize pj s i=L at*;go_wp2_with (at_builtin;refine iM rfl _ _ 29 rfl w.heap.size i0 (.int .u8 0) 1 underlying29 dU cO cU cV rfl Si Si _ L rfl (HL _) wr.heap.size _ rfl (qAB _ _) rfl (WT _) Sg (hz _) ?_)
  intro v9 w9 AV ji;rw[<-aa HE]at AV;have RD:=ae AV;have kE:=ae ((HB.alloc (Nat.le_of_lt_succ Sg) _).trans ji);clear AV ji HL HB;go_wp2;go_roundw
  case rel=>exact⟨i+1,Sg,Tc,HG,by rw[aa HK];exact RD,kE⟩
  case measure=>simp[intOf];omega
 ·have p0:((i:Int)%2 == 0)=false:=qAU.2 Sg;have HK:=ae (Ad hp);have hy:0<=(pj s i).getD (i / 2) 0/\(pj s i).getD (i / 2) 0<=240:=by rw[Fh Sg];have:=hpv Sg;omega
  obtain⟨g,cap,hv,ma,hgB,kS,oI,dL⟩:=hl.zmL (i / 2) Sg;subst hv;have HS:=ae (dL ((pj s i).getD (i / 2) 0+D));have sO:=ae (fun c=>hb.setCell (p:=⟨g,i / 2,none⟩) hgB (.int .u8 c));rw[aa gY]at HS HK dlo;have in1:0<=((pj s i).length:Int)-1:=Sg;have in2:((pj s i).length:Int)-1<((pj s i).length:Int):=Sg;have Lo:(((pj s i).length:Int)-1).toNat=i / 2:=Sg;clear eQ eX Jp Ad Fh hpv hl hb hg hp hn a1 a2 a3 dL HE gY jE;generalize (pj s i).getD (i / 2) 0=y at*;generalize pj s i=L at*;go_wp2;go_roundw
  case rel=>exact⟨i+1,Sg,Tc,HG,by rw[aa HK];exact HS,sO _⟩
  case measure=>simp[intOf];omega):=h
def fe(h:p:=by
 have H0:=ae h0;clear h0;have HI:=ae hi;have HZ:=ae hz;have HL:Hid ((l.drop i).length=l.length-i):=ae Sk;clear hi hz h8;go_enter func235,ntmps235
 go_wp2_with fail
 refine(mg _ a cap l.length l _ rfl (aH.below (zBr.alloc zNr _)) Sk i HI).m ?_;rintro w1 rfl;go_wp2_with fail
 refine(mf _ a2 (cap-i) (l.length-i) (l.drop i) _ HL (gy.below ((zBr.alloc zNr _).alloc Sk _)) Sk z HZ).m ?_;rintro w1 rfl;go_wp2;go_ret2;exact⟨rfl,((zBr.alloc zNr _).alloc Sk _)⟩):=h
def fx(h:p:=by
 go_wp2_with fail
 refine HT.m ?_;intro w3 bD;have yd:=ae (pP.below bD);clear bD HT pP;go_wp2;go_ret;exact⟨rfl,yd⟩):=h
def fy(h:p:=by
 go_enter func26,ntmps26
 go_wp2_with fail
 refine HH.m ?_;intro w1 ay;have AZ:=ae (HE w1 ay);have aQ:=ae ay;go_wp2_with fail
 refine AZ.m ?_;intro w2 aK;have bz:=zTr aQ aK;go_wp2;go_ret2;exact⟨rfl,bz.alloc bz.size _⟩):=h
def iw(h:p:=by
 obtain⟨P2,E,an,cn,N,out,q2,S2,ab2,cb2,ak2,ck2,rfl,rfl,rfl,⟨e0,e9⟩,oB,hbn,hX⟩:=hcut;have HX:=ae hX;obtain⟨x,rfl⟩:=qAN e0;have HT:=ae (fun W=>Cn out x Sg W);by_cases hE:x=0
 ·subst hE;have HB:=ae (oB.zmN (hbn rfl));have kA:=qAd _ _ 0 _ _ oB.st;have vP:=oB.c.1;clear oB hbn hX e0 e9 k0 k1 k2 d0 d1 d2 q0 q1 gY A0 x9 yb ja jb HP HS HZ pr bK c9;rw[zy rfl]at HT;go_wp2_with fail
  refine(HT _).m ?_;intro w3 bD;have HK:=ae (HB.below bD);clear bD HB HT;go_wp2;go_ret;rw[aa HX];exact⟨rfl,q2,S2,an,cn,ak2,ck2,HK⟩
 ·have HB:=ae oB;have Lr:¬(x:Int)=0:=by omega
  rw[zn hE]at HT;clear oB hbn hX e0 e9 k0 k1 k2 d0 d1 d2 q0 q1 gY A0 x9 yb ja jb HP HS HZ pr bK c9;go_wp2_with fail
  refine(HT _).m ?_;intro w3 bD;have HK:=ae (HB.below bD);clear bD HB HT;go_wp2;go_ret;rw[aa HX];rw[zn Lr,zn Lr];exact⟨rfl,q2,S2,ab2,cb2,ak2,ck2,HK⟩):=h
def j3(h:p:=by
 rw[hq]at Mj;unfold K0 at Mj;dsimp only at Mj;have HV2:=ae (hv.set i v);have bz:=ae (hb.setCell (p:=⟨w1.heap.size,i,none⟩) zNr (zi v));have hil:i<l.length:=Sg;have hvc:=hv.cell i hil;have hvf:=hv.fr i;have DG:Hid (∀j,j<i+1->rdN (gF s j)=some ((l.set i v).getD j 0)):=ae (fun j hj=>by
  rw[qAC,List.getElem?_set];by_cases e:i=j
  ·subst e;rw[zy rfl,zy hil,hq];rfl
  ·rw[zn e,<-qAC];exact Zx j Sg)
 have Gk:Hid ((l.set i v).length=3):=ae (by rw[qAz];exact l7);have hi3:(i:Int)<3:=Sg;clear hq hv hb Zx l7 hil jb ja Vb HC U4 bK hf pr GC HZ HP HS;generalize gF s i=X at*;generalize l.getD i 0=u at*;go_wp2_with fail
 refine Mj.m ?_;rintro w2 rfl;go_wp2;go_roundw
 case rel=>exact⟨i+1,l.set i v,Sg,Tc,Gk,HV2,DG,bz⟩
 case measure=>simp[intOf];omega):=h
def j4(h:p:=by
 injection h with h
 subst h;exact⟨Si,Si⟩):=h
def j5(h:p:=by
 go_enter func85,ntmps85
 go_wp2;go_ret2;exact⟨rfl,zBr⟩):=h
def j6(h:p:=by
 have HL:=ae (fun W=>dX len W);have HH:=ae (fun W=>gK x W);have HT:=ae (fun W=>BD t W);have HS:=ae (fun W=>yC l W);have hlen:=cm.1 hq;have HB:=ae (zY len a l (w.alloc (.cells #[zi x,zi a,zi l,zi t] 124)) Sg ha);rw[hq]at HL;rw[h1]at HH;rw[h2]at HT;rw[h3]at HS;rw[h4]at HB;go_enter func187,ntmps187
 go_wp2_with (first|(go_at_call 183;refine(HL _).m ?_;rintro w1 rfl)|(go_at_call 229;refine(HH _).m ?_;rintro w1 rfl)|(go_at_call 230;refine(HT _).m ?_;rintro w1 rfl)|(go_at_call 231;refine(HS _).m ?_;rintro w1 rfl)|(go_at_call 232;refine HB.m ?_;intro w1 ay;have aQ:=ae ay))
 go_ret;exact⟨rfl,((Below.refl _ w).alloc zNr _).trans (aQ.mono Sk)⟩):=h
def j7(h:p:=by
 intro j v hj;have o7:j<l.length:=by
  rcases qBT j l.length with h1|h1
  ·exact h1
  ·rw[qAY Y9]at hj;cases hj
 have:=hc j o7;simp[o7]at hj;subst hj;rw[addr_add];simpa[List.getD,o7]using this):=h
def j8(h:p:=by
 go_wp2;go_roundw
 case rel=>exact⟨k+1,Sg,Tc,by rw[aa HE];exact pO,kE⟩
 case measure=>simp[intOf];omega):=h
def kh(h:p:=by
 go_enter func275,ntmps275
 go_wp2_with fail
 refine HG.m ?_;intro w1 fM;have eT:=(fM.cell (qAA bf)).trans bf;have kF:=HL w1 fM;have HA1:=ae (HA w1 fM);have aQ:=ae fM;have jC:=qAL aB fM.size;go_wp2_with (go_at_call 272;refine HA1.m ?_;intro w2 xg;subst xg)
 go_ret2;exact⟨rfl,aQ⟩):=h
def kU(h:p:=by
 rw[ry];rfl
 have oz:D.mem.length=0:=by rw[ry];rfl
 have RI:=ae He;have HL0:=ae oz;go_enter func156,ntmps156
 go_wp2_with fail
 go_loop [20] (fun v=>v=zi 0) (fun _=>0)
 case atStart=>rfl
 case round =>
  subst hrel;go_wp2_with fail
  refine(mV H).m ?_;rintro w2 ⟨h2,gw⟩;have c4:=h2.c4;have f4:=h2.fr 4;have h3:=h2.zh false;have c3:=h3.c3;have f3:=h3.fr 3;have h4:=h3.wN (-1) Si;have H4:=ae h4;have HI:=ae h2.mq;go_wp2;go_ret;exact⟨by rw[aa HL0];rfl,S,⟨sb,bm,_,by rw[aa RI];exact H4⟩,gw.trans ((au.setCell _ _ HI).trans (au.setCell _ _ HI))⟩):=h
def lQ(h:p:=by
 go_wp2_with fail
 refine HB.m ?_;rintro w2 ⟨Wl,gw⟩;go_wp2;go_roundw
 case rel=>exact⟨k+1,Sg,Tc,by rw[aa HS];exact Wl,Ht.trans gw⟩
 case measure=>simp[intOf];omega):=h
def lY(h:p:=by
 all_goals
  obtain⟨S2,hR2,hT2⟩:=AO g c w1 g2 c2 w2 _ az ai fL iS PI;have rJ:=ae (fP _ S2 _ _ _ hR2);have oK:=ae hT2;clear hR2 hT2 az ai fL iS PI;go_wp2_with fail
  refine rJ.m ?_;rintro w3 ⟨⟨left3,h3⟩,rp⟩;by_cases h0:D.left=0
  ·rw[qAG (fun h=>h h0)];have JZ:=ae (show E=9 by rw[<-aa HE,zy h0]);clear h0;go_wp2;go_ret;exact⟨by rw[aa JZ];rfl,S2,⟨_,_,_,h3⟩,oK.trans rp⟩
  ·rw[qAE h0];have JZ:=ae (show E=0 by rw[<-aa HE,zn h0]);clear h0;go_wp2;go_ret;exact⟨by rw[aa JZ];rfl,S2,⟨_,_,_,h3⟩,oK.trans rp⟩):=h
def mn(h:p:=by
 clear eT hf aG p0 p1 p2 p3 Cv hb o6 e1 gj kx;generalize EN.length=M at*;go_wp2_with fail
 go_quiet (fail)
 go_wp2;go_roundw
 case rel=>exact⟨k+1,Sg,Tc,by rw[aa HBT];exact rF.drewN nq,Hu.trans (pT _ _ nq)⟩
 case measure=>simp[intOf];omega):=h
def mJ(h:p:=by
 rcases qBT j l.length with h1|h1
 ·exact h1
 ·rw[qAY Y9]at hj;cases hj):=h
def nd(h:p:=by
 go_wp2;go_roundw
 case rel=>exact⟨k+1,Sg,Tc,pO,kE⟩
 case measure=>simp[intOf];omega):=h
def oi(h:p:=by
 go_enter func238,ntmps238
 go_wp2_with (first|(at_make;refine bV rfl _ _ 29 rfl i0 underlying29 hi cO cU cV _ _ _ _ 11 rfl rfl rfl rfl Sg ?_;intro w2 fR gN aK;rw[cJ]at fR gN;have gj:=qs.below aK Sk;obtain⟨c0,c1⟩:=gj.cells;have bz:=ae (((Below.refl _ w).alloc zNr _).trans (aK.mono Sk)))|(go_at_call 229;refine(HH _).m ?_;intro w3 qw;subst qw))
 go_ret2;exact⟨none,0,rfl,eu _,bz⟩):=h
def px(h:p:=by
 go_enter func137,ntmps137
 go_wp2_with fail
 refine HG.m ?_;intro w1 ay;have HB:=ae ay;go_wp2;go_ret2;exact⟨rfl,HB.alloc HB.size _⟩):=h
def pM(h:p:=by
 clear eT hf aG p0 p1 p2 p3 Cv hb o6 e1 gj kx;generalize EN.length=M at*;go_wp2_with fail
 go_quiet (fail)
 go_wp2;go_roundw
 case rel=>exact⟨k+1,Sg,Tc,by rw[aa HBT];exact(rF.drewN nq).set z1 z2 z3 z4,(((((Hu.trans (pT _ _ nq)).trans (au.setCell _ _ rfl)).trans (au.setCell _ _ rfl)).trans (au.setCell _ _ rfl)).trans (au.setCell _ _ rfl))⟩
 case measure=>simp[intOf];omega):=h
def pU(h:p:=by
 refine cd.unique (f:=fun j=>(l.getD j 0 == 0)) (n:=8) ⟨Sg,fun j hj=>?_,fun h=>?_⟩ hn
 ·have h2:(!nR (l.getD j 0))=false:=hi.2.1 j hj;have h3:=K9 (l.getD j 0) (by simpa using h2)
  show(l.getD j 0 == 0)=false
  exact qAU.2 Sg
 ·have h2:((l.drop (aW l)).getD 0 0 != 0)=false:=hzf.2.1 0 Sg;rw[mW,qAq]at h2
  show(l.getD (aW l) 0 == 0)=true
  simpa[bne]using h2):=h
def qA(h:p:=by
 constructor
 ·rintro (⟨j,h1,h2⟩|h2)
  ·exact⟨j,Sg,h2⟩
  ·exact⟨k,Sg,h2⟩
 ·rintro ⟨j,h1,h2⟩;by_cases e:j=k
  ·subst e;exact .inr h2
  ·exact .inl ⟨j,Sg,h2⟩):=h
def qE(h:p:=by
 clear fP;go_wp2
 go_round
 case rel=>exact⟨k+1,Sg,Tc,by rw[aa rJ],by rw[aa rJ]⟩
 case measure=>simp[intOf];omega):=h
def qG(h:p:=by
 go_wp2_with fail
 refine(mV hd).m ?_;rintro w2 ⟨h2,gw⟩;have c4:=h2.c4;have f4:=h2.fr 4;have h3:=h2.zh false;have c3:=h3.c3;have f3:=h3.fr 3;have h4:=h3.wN (-1) Si;have H4:=ae h4;have HI:=ae h2.mq;clear h2 h3 h4 hd;go_wp2;go_ret;exact⟨rfl,S,⟨sb,bm,_,H4⟩,o4.trans (gw.trans ((au.setCell _ _ HI).trans (au.setCell _ _ HI)))⟩):=h
def qL(h:p:=by
 go_wp2_with fail
 refine HT.m ?_;intro w1 ay;have HB:=ae ay;go_wp2;go_ret;exact⟨rfl,HB⟩):=h
def qM(h:p:=by
 all_goals
  have yd:=ae ((HN w2 F' hT ((au.aI (S:=F) (below_drewN (Below.refl _ w1) _)).trans hU)).below bD);clear bD hT hU HN oL HX re HF;go_wp2;go_ret;exact⟨rfl,yd⟩):=h
def se(h:p:=by
 go_wp2;go_roundw
 case rel=>first | exact⟨j+1,Sg,by (first | go_num | exact qBB (Value.int .i64) Sg),by rw[qAG HDE],by trivial⟩ | ((repeat apply Exists.intro);exact⟨⟨j+1,Sg,by (first | go_num | exact qBB (Value.int .i64) Sg),by rw[qAG HDE],by trivial⟩,rfl⟩)
 case measure=>simp[intOf];omega):=h
def sC(h:p:=by
 go_roundw
 case rel=>exact⟨k+1,Sg,Tc,by rw[aa HE];exact HO,aJ⟩
 case measure=>simp[intOf];omega):=h
def tI(h:p:=by
 have HX:=ae (jb (by rw[aa ja];exact VE Sg (Vb i aB) hq));rw[hq]at Mj;unfold K0 at Mj;dsimp only at Mj;have gY:=ae (GC.below hb);clear hq hv hb Zx jb ja Vb HC U4 bK hf pr GC;generalize gF s i=X at*;go_wp2_with fail
 refine Mj.m ?_;rintro w2 rfl;go_wp2;go_ret;rw[aa HX];exact⟨rfl,q,S,ab,cb,ak,ck,gY⟩):=h
def ud(h:p:=by
 refine⟨h.1,?_⟩;rcases h.2 with h0|⟨g,cap,cur,rfl,hB,hc,h3⟩
 ·exact .inl h0
 ·exact .inr ⟨g,cap,cur,rfl,hB,(hb.block g (zAg hc).1).trans hc,h3⟩):=h
def uW(h:p:=by
 go_enter func325,ntmps325
 go_wp2_with fail
 refine G1.m ?_;rintro w1 rfl;go_wp2_with fail
 refine G2.m ?_;rintro w1 rfl;go_wp2;go_ret3;exact⟨rfl,rfl⟩):=h
def uZ(h:p:=by
 go_wp2_with fail
 refine HC.m ?_;rintro w1 rfl;go_wp2;go_ret;exact⟨rfl,rfl⟩):=h
def u6(h:p:=by
 go_wp2;go_roundw
 case rel=>exact⟨k+1,_,Sg,Tc,by rw[aa xI,aa HSO,aa zh8];exact HR.1,oK.trans HR.2⟩
 case measure=>simp[intOf];omega):=h
def u7(h:p:=by
 go_enter func270,ntmps270
 go_wp2_with fail
 refine HK.m ?_;intro w1 ay;have ia:=zTs iX ay;have qt:=ae (HC w1 ia (qs.below ay Sk) ((ay.cell Tb).trans HCN));have aQ:=ae ia;go_wp2_with fail
 refine qt.m ?_;intro w2 aK;have bz:=zTr aQ aK;go_wp2;go_ret;exact⟨rfl,bz⟩):=h
def ve(h:p:=by
 rcases zMc hu with rfl|hu
 ·rfl
 rw[zMs hu];rfl):=h
def vE(h:p:=by refine⟨g1,c1,rfl,.inl k1,⟨cur,e1.trans k2⟩,k3.1,k3.2.1,k3.2.2.1,k3.2.2.2.1,fun aG=>?_⟩;obtain⟨b',off,e,hc⟩:=k3.2.2.2.2 aG;obtain⟨rfl,rfl⟩:g1=b'/\0=off:=WI;exact⟨g1,0,rfl,fun j hj=>(qAJ (a:=⟨g1,0+j,none⟩) e1).trans (hc j hj)⟩):=h
def vU(h:p:=by
 generalize jQ (l.getD i 0)=Y at*;generalize l.getD i 0=y at*;generalize vh l i=T at*;go_wp2_with fail
 refine(HIT _).m ?_;rintro w6 rfl;go_wp2;go_roundw
 case rel=>exact⟨i+1,aB,by rw[aa DG],Tc,by first | rfl | trivial⟩
 case measure=>simp[intOf];omega):=h
def vV(h:p:=by
 go_wp2
 go_round
 case rel=>exact⟨k+1,Sg,Tc⟩
 case measure=>simp[intOf];omega):=h
def wG(h:p:=by
 go_enter func20,ntmps20
 go_wp2;go_ret2;exact⟨rfl,rfl⟩):=h
def wM(h:p:=by
 go_enter func117,ntmps117
 go_wp2_with fail
 refine HH.m ?_;rintro w1 rfl;go_wp2;go_ret;exact⟨rfl,S,⟨sb,bm,pv,H⟩,au.refl _ _⟩):=h
def xb(h:p:=by
 have bW:=ai.size;go_wp2_with (at_builtin;refine aS rfl _ _ 94 rfl w.heap.size i0 (.agg #[zi 0,zi 0]) 16 underlying94 dU cO cU cV rfl Si Si _ _ rfl oE (wr.heap.size+1) (y-288,z) rfl kq rfl (LR _) Sg Tb ?_)
 intro v9 w9 aU dS;rw[<-aa HT]at aU;have pO:=ae aU;have kE:=ae (dF.trans dS);obtain⟨a9,m9,c9,rfl⟩:=aU.shape;exact nd):=h
def yi(h:p:=by
 go_wp2_with (at_builtin;refine aS rfl _ _ 141 rfl w.heap.size i0 (.agg #[zi 0,zi 0,zi 0,zi 0]) 32 underlying141 dU cO cU cV rfl Si Si _ _ rfl oE (w1.heap.size+1) (x,y,z,t) rfl kq rfl (WD _) (qAF jD Sg) Tb ?_)
 intro v9 w9 aU dS;have pO:=ae aU;have kE:=ae (dF.trans dS);obtain⟨a9,m9,c9,rfl⟩:=aU.shape;exact j8):=h
def yT(h:p:=by
 have sM:=ae hx;clear hx l6 Ug;go_wp2;go_roundw
 case rel=>first | exact⟨i+1,Sg,Tc,by rw[aa sM];exact uv⟩ | ((repeat apply Exists.intro);exact⟨⟨i+1,Sg,Tc,by rw[aa sM];exact uv⟩,rfl⟩)
 case measure=>simp[intOf];omega):=h
def zG(h:p:=by
 go_enter func296,ntmps296
 go_wp2_with (go_at_call 327;refine(K5 _ _).mono ?_;rintro e w' ⟨rfl,rfl⟩)
 go_ret;exact⟨rfl,rfl⟩):=h
def AK(h:p:=by
 refine⟨h.1,?_⟩;rcases h.2 with h0|⟨g,cap,cur,hv,hb,h3⟩
 ·exact .inl h0
 ·exact .inr ⟨g,cap,cur,hv,qAF hB hb,h3⟩):=h
def Bl(h:p:=by
 unfold bL at h ⊢;by_cases h1:b.length≠32
 ·rw[zy h1]at h;cases h
 ·rw[zn h1]at h ⊢;by_cases h2:dm b 0 4≠dm b 28 4
  ·rw[zy h2]at h;cases h
  ·rw[zn h2]at h ⊢;by_cases h3:dm b 0 4=0
   ·rw[zy h3]at h;cases h
   ·rw[zn h3];simp;omega):=h
def Bx(h:p:=by
 go_enter func186,ntmps186
 go_wp2_with fail
 refine HC.mono ?_;rintro e w1 ⟨v,rfl,_,hb⟩;go_wp2;go_ret2;exact⟨rfl,hb⟩):=h
def BX(h:p:=by
 rw[zn ht];constructor
 ·rintro (⟨j,h1,h2⟩|h2)
  ·exact⟨j,Sg,h2⟩
  ·exact⟨k,Sg,ht,zMs h2⟩
 ·rintro ⟨j,h1,h2,h3⟩;by_cases e:j=k
  ·subst e;exact .inr (List.mem_singleton.2 h3)
  ·exact .inl ⟨j,Sg,h2,h3⟩):=h
def BY(h:p:=by
 clear hx;go_wp2;go_roundw
 case rel=>first | exact⟨i+1,Sg,Tc,by rw[aa sM];exact oE⟩ | ((repeat apply Exists.intro);exact⟨⟨i+1,Sg,Tc,by rw[aa sM];exact oE⟩,rfl⟩)
 case measure=>simp[intOf];omega):=h
def B6(h:p:=by
 go_wp2;go_roundw
 case rel=>exact⟨k+1,Sg,Tc,by rw[aa HS];exact HD,Ht⟩
 case measure=>simp[intOf];omega):=h
def Cj(h:p:=by
 go_enter func113,ntmps113
 go_wp2_with fail
 refine HL.m ?_;rintro w1 rfl;go_wp2
 all_goals go_ret
 all_goals first | exact⟨rfl,rfl⟩ | (exfalso;omega) | exact⟨qBB (fun z=>Ending.returned (Value.int .i64 z)) Sg,rfl⟩):=h
def CF(h:p:=by
 apply cr
 ·rw[aY Sg,aY Sg]
 ·intro j hj;rw[aY Sg]at hj;rw[cw hj,cw hj];exact vL _ Sg):=h
def CG(h:p:=by
 go_wp2;go_roundw
 case rel=>exact⟨k+1,Sg,Tc,by rw[aa fP,aa HMT,aa AN];exact((qo.Eg _).zjm _).alloc _,((sO.setCell zNr _).setCell zNr _).alloc (by have:=sO.size;simp;omega) _⟩
 case measure=>simp[intOf];omega):=h
def CV(h:p:=by
 clear fP;go_wp2;go_roundw
 case rel=>exact⟨k+1,Sg,Tc,by rw[aa rJ];exact(qo.set x y).alloc _,((sO.setCell zNr _).setCell zNr _).alloc (by have:=sO.size;simp;omega) _⟩
 case measure=>simp[intOf];omega):=h
def DC(h:p:=by
 generalize im l=F,isRoot l=R,l.length=N at*;rcases hv with ⟨rfl,rfl⟩|⟨h,rfl⟩
 all_goals
  go_enter func193,ntmps193
  go_wp2_with (go_at_call 234;refine HI.m ?_;rintro w1 rfl)
  go_ret;exact⟨rfl,rfl⟩):=h
def DJ(h:p:=by
 rcases Nat.mod_two_eq_zero_or_one j with hm|hm
 ·have e:j / 2*2=j:=by omega
  rw[e]at c0 q0;rw[q0]at hj;rw[c0];exact hj
 ·have e:j / 2*2+1=j:=by omega
  rw[e]at q1;rw[qBq,e]at c1;rw[q1]at hj;rw[c1];exact hj):=h
def DX(h:p:=by
 go_round
 case rel=>exact⟨k+1,Sg,Tc,cd.step HA.out HB⟩
 case measure=>simp[intOf];omega):=h
def D5(h:p:=by
 rcases zMc hz with rfl|hz
 ·omega
 ·obtain⟨q,hq,rfl⟩:=qAT.1 hz;obtain⟨j,hj,Cu⟩:=qAm hq;have hn:=hv.num j hj;have hg:l.getD j (0,[])=q:=by simp[List.getD,hj,Cu]
  rw[hg]at hn;have:=h.lt;omega):=h
def D8(h:p:=by
 go_enter func191,ntmps191
 go_wp2_with fail
 refine HL.m ?_;rintro w1 rfl;go_wp2_with fail
 refine HH.m ?_;rintro w1 rfl;go_wp2_with fail
 refine HA.m ?_;rintro w1 rfl;go_wp2;go_ret;exact⟨rfl,rfl⟩):=h
def Em(h:p:=by
 rw[zy ht];constructor
 ·rintro (⟨j,h1,h2⟩|h2)
  ·exact⟨j,Sg,h2⟩
  ·cases h2
 ·rintro ⟨j,h1,h2,h3⟩;by_cases e:j=k
  ·subst e;exact absurd ht h2
  ·exact .inl ⟨j,Sg,h2,h3⟩):=h
def Et(h:p:=by
 by_cases hq:h=e.1
 ·subst hq;exact absurd ht mw
 ·obtain⟨e1,e2⟩:=gD h h1 h2 hq;rw[e1]at ht;rw[e2];rcases ff.1 ((dy.1 hf.ok).1 h h1 h2)with hw|hw
  ·exact absurd ht (lM.1 hw).1
  ·exact hw.2):=h
def EO(h:p:=by
 go_enter func59,ntmps59
 go_wp2_with fail
 refine HH.m ?_;intro w1 hw;subst hw;go_wp2_with fail
 refine HE.m ?_;intro w2 aK;have HB:=ae aK;go_wp2;go_ret;exact⟨rfl,HB.alloc HB.size _⟩):=h
def EP(h:p:=by
 have:i.size=1:=by simpa[hq]using bW
 simp[sizeOf,typeInfo,hq,this]):=h
def FG(h:p:=by
 go_wp2_with fail
 refine HH.m ?_;rintro w1 rfl;go_wp2;go_ret;exact⟨by rw[aa HE];rfl,aQ⟩):=h
def FN(h:p:=by
 have HX:=ae (jb (HRN jE));have t1:¬(n:Int)=(z:Int)+1:=Sg;clear jE HRN ja jb HC U4 Vb pr bK hf ZE;go_wp2_with fail
 go_ret;rw[aa HX];exact⟨rfl,q,S,ab,cb,ak,ck,GC⟩):=h
def FT(h:p:=by
 go_wp2_with fail
 refine uV.m ?_;intro w2 xg;subst xg;go_wp2
 go_round
 case rel=>exact⟨k+1,Sg,Tc,cd.step AP (HI0.trans HI)⟩
 case measure=>simp[intOf];omega):=h
def FU(h:p:=by
 rw[hd]at c3;go_enter func34,ntmps34
 go_wp2_with fail
 go_loop [5] (fun v=>v=zi 0) (fun _=>0)
 case atStart=>rfl
 case round =>subst hrel;go_wp2;go_ret;exact⟨rfl,rfl⟩):=h
def F6(h:p:=by
 by_cases hd:D.down=true
 ·rw[zy hd];exact .inr rfl
 ·rw[zn hd];by_cases hl:D.left=0
  ·rw[zy hl];exact .inr rfl
  ·rw[zn hl];exact .inl ⟨rfl,by simpa using hd,hl⟩):=h
def H9(h:p:=by
 generalize gn.length=gnl at*;go_wp2;go_roundw
 case rel=>exact⟨j+1,Sg,Tc,by rw[aa JZ],by rw[aa JZ];exact HW9,HT9⟩
 case measure=>simp[intOf];omega):=h
def Ia(h:p:=by
 go_enter func89,ntmps89
 go_wp2;go_ret2;exact⟨rfl,rfl⟩):=h
def Ib(h:p:=by
 go_enter func21,ntmps21
 go_wp2;go_ret3;exact⟨rfl,rfl⟩):=h
def Iq(h:p:=by
 go_enter func17,ntmps17
 go_wp2;go_ret;exact⟨rfl,rfl⟩):=h
def It(h:p:=by
 have hkj:¬k+j<8:=Sg;go_wp2_with fail
 refine(HV _).m ?_;rintro w1 rfl;cases v
 ·go_wp2;go_ret2;exact⟨rfl,rfl⟩
 ·go_wp2;go_ret2;exact⟨rfl,rfl⟩):=h
def Ix(h:p:=by
 go_wp2_with (go_at_call 295;refine HN.mono ?_;rintro e w' ⟨rfl,rfl⟩)
 go_round
 case rel=>exact .inr ⟨rfl,by rw[aa HR]⟩
 case measure=>simp[intOf]):=h
def Iy(h:p:=by
 go_enter func66,ntmps66
 go_wp2_with fail
 refine N1.m ?_;rintro w1 rfl;go_wp2_with fail
 refine N2.m ?_;rintro w1 rfl;go_wp2;go_ret3;exact pN rfl rfl):=h
def IK(h:p:=by
 go_enter func97,ntmps97
 go_wp2_with fail
 refine HP.mono ?_;rintro e w1 ⟨a1,c1,rfl,_,ay⟩;have aQ:=zTr iX ay;go_wp2;go_ret2;exact⟨rfl,aQ⟩):=h
def IS(h:p:=by
 have:(cu K L m).length<=m:=by unfold cu;exact qAF (qBe _ _) Sk
 omega):=h
def I5(h:p:=by
 by_cases hq:h=e.1
 ·subst hq;rw[um,kg hlen];exact he
 ·obtain⟨e1,e2⟩:=gD h h1 h2 hq;rw[e1]at ht;rw[e2,kg hlen];exact(hf.hand h1 h2 ht).2):=h
def I8(h:p:=by
 go_wp2;go_roundw
 case rel=>exact⟨k+1,Sg,Tc,by rw[aa HE];exact U7,by rw[aa HG];exact zfd,H6⟩
 case measure=>simp[intOf];omega):=h
def I9(h:p:=by
 go_enter func143,ntmps143
 go_wp2_with fail
 refine HP.m ?_;intro w1 ay;have aQ:=zTr qo ay;clear ay HP qo;go_wp2;go_ret2;exact⟨rfl,aQ⟩):=h
def JF(h:p:=by
 go_wp2;go_roundw
 case rel=>exact⟨k+1,_,rfl,Sg,Tc,by rw[aa lJ],by rw[aa QR];exact Rz,oM⟩
 case measure=>simp[intOf];omega):=h
def JH(h:p:=by
 go_enter func57,ntmps57
 go_wp2_with (go_at_call 108;refine(HH _).m ?_;rintro w1 rfl)
 go_ret2;exact⟨none,0,rfl,eu _,zBr.alloc zNr _⟩):=h
def JJ(h:p:=by
 go_wp2;go_roundw
 case rel=>exact⟨k+1,Sg,Sg,Sg,Tc,by rw[aa oK];exact oj,bz⟩
 case measure=>simp[intOf];omega):=h
def JL(h:p:=by
 go_enter func303,ntmps303
 go_wp2;go_ret;exact⟨rfl,zBr.alloc zNr _⟩):=h
def JR(h:p:=by
 refine⟨h.1,?_⟩;rcases h.2 with h0|⟨g,cap,cur,rfl,hB,hc,h3⟩
 ·exact .inl h0
 ·exact .inr ⟨g,cap,cur,rfl,Sg,hc,h3⟩):=h
def J9(h:p:=by
 clear fP;go_wp2;go_roundw
 case rel=>exact⟨k+1,Sg,Tc,by rw[aa rJ];exact aa Ve,oF⟩
 case measure=>simp[intOf];omega):=h
def Kl(h:p:=by
 intro j v hj;have o7:j<l.length:=by exact mJ
 have h2:=hc j o7;simp[o7]at hj;subst hj;rw[addr_add];simpa[List.getD,o7]using h2):=h
def KO(h:p:=by
 have h3:tU (fun j=>(!nR ((c7 s).getD j 0))) s.size=s.size:=by have:=hf.1;omega
 rw[h3]at hf;exact absurd ⟨h1.1,h1.2,hf⟩ h):=h
def KW(h:p:=by
 rw[hl];go_enter func198,ntmps198
 go_wp2;go_ret;exact⟨rfl,rfl⟩):=h
def K8(h:p:=by
 go_wp2;go_roundw
 case rel=>exact⟨k+1,S1,Sg,Tc,by rw[aa HSM];exact HDX,HTX⟩
 case measure=>simp[intOf];omega):=h
def Le(h:p:=by obtain rfl:k=l.length:=Sg;rw[qAP Sk]at az;have HO:=ae az;have HB:=ae ai;go_wp2;go_ret;exact⟨_,rfl,HO,HB⟩):=h
def LS(h:p:=by
 generalize l.getD (k+j) 0=d at*;go_wp2
 go_round
 case rel=>exact⟨j+1,Sg,Tc⟩
 case measure=>simp[intOf];omega):=h
def LZ(h:p:=by
 go_enter func311,ntmps311
 go_wp2_with fail
 refine HC.m ?_;intro w1 ay;have aQ:=zTr HB ay;go_wp2;go_ret;exact⟨rfl,aQ⟩):=h
def L0(h:p:=by
 have H2:=ae h2;have HI:=ae h.mq;go_enter func33,ntmps33
 go_wp2
 go_end0
 exact⟨rfl,⟨sv,lv,_,H2⟩,au.setCell _ _ HI⟩):=h
def Ma(h:p:=by
 go_wp2;go_roundw
 case rel=>exact⟨k+1,Sg,Tc,by rw[aa oK];exact oj,bz⟩
 case measure=>simp[intOf];omega):=h
def Mo(h:p:=by
 go_wp2_with fail
 refine(HG w zBr).m ?_;intro w1 ay;have HB:=ae ay;go_wp2;go_ret2;exact⟨rfl,HB.alloc HB.size _⟩):=h
def ML(h:p:=by
 rcases hd.oX with ⟨e,_⟩|⟨g',c',e,_,_,_,hh⟩
 ·cases e
 ·simp only[qAS,qAQ,qBI,qBj]at e;rw[e.1];exact hh k aB):=h
def MN(h:p:=by
 go_enter func164,ntmps164
 go_wp2;go_ret;exact⟨rfl,rfl⟩):=h
def MW(h:p:=by
 go_enter func262,ntmps262
 go_wp2;go_ret;exact⟨rfl,rfl⟩):=h
def MX(h:p:=by
 intro k hk;rcases h.2 with ⟨rfl,_⟩|⟨g,cap,cur,rfl,hB,_⟩
 ·cases hk
 ·simp[Value.ownBlock]at hk;omega):=h
def MY(h:p:=by
 go_enter func16,ntmps16
 go_wp2;go_ret2;exact⟨rfl,rfl⟩):=h
def MZ(h:p:=by
 go_enter func269,ntmps269
 go_wp2_with fail
 refine HH.m ?_;rintro w1 rfl;go_wp2;go_ret2;exact⟨rfl,rfl⟩):=h
def M7(h:p:=by
 go_wp2_with (go_at_call 198;refine(zX _ _).mono ?_;rintro e w' ⟨rfl,rfl⟩)
 go_ret;exact⟨rfl,rfl⟩):=h
def Na(h:p:=by rw[zn (fun h=>hxz h.1)];rw[e1]at Cv;have HBT:=ae Cv;have dx:decide (z2 >= x)=false:=qAG hxz;exact mn):=h
def Nd(h:p:=by
 go_enter func45,ntmps45
 go_wp2;refine wp_loop_rounds 1 ?_;rw[qBh];go_wp2;go_ret;exact⟨rfl,rfl⟩):=h
def Nf(h:p:=by
 go_wp2;go_roundw
 case rel=>exact⟨k+1,Sg,Tc,oj,bz⟩
 case measure=>simp[intOf];omega):=h
def Nr(h:p:=by
 rw[hzz];rcases fR with h1|h1|h1
 ·have:=h.lt k h1;have:=hb.size;omega
 ·omega
 ·exact(az.lt k h1).2):=h
def NP(h:p:=by
 rcases h.2 with ⟨rfl,_⟩|⟨g,cap,cur,rfl,_⟩
 ·exact⟨_,_,_,rfl⟩
 ·exact⟨_,_,_,rfl⟩):=h
def N6(h:p:=by
 repeat' split
 all_goals omega):=h
def N7(h:p:=by
 go_enter func64,ntmps64
 go_wp2;go_ret2;exact⟨none,0,rfl,eu _,zBr.alloc zNr _,Fr.nil _⟩):=h
def OQ(h:p:=by
 rcases h1.2 with ⟨e,_⟩|⟨g',c',cur',e,_⟩
 ·cases e
 ·simp only[qAS]at e;exact e.2.1):=h
def OU(h:p:=by
 gi_wp2_with (rw[Oper.semAt_eq _ _ _ (fun c h=>Um)];go_simp;try go_bits)
 exact hK):=h
def OV(h:p:=by
 rcases nU.2 with ⟨e,_⟩|⟨g,cap,cur,e,_⟩
 ·exact⟨_,_,_,e⟩
 ·exact⟨_,_,_,e⟩):=h
def OX(h:p:=by
 go_round
 case rel=>exact⟨k+1,Sg,Tc,HS⟩
 case measure=>simp[intOf];omega):=h
def OY(h:p:=by
 split at h
 ·rename_i hx
  rw[zy hx];exact⟨hx,h,rfl⟩
 ·rename_i hx
  exact absurd h hx):=h
def Ph(h:p:=by
 go_wp2_with fail
 refine HL.m ?_;rintro w1 rfl;go_wp2;go_ret;exact⟨rfl,rfl⟩):=h
def Pl(h:p:=by obtain rfl:k=l.length:=Sg;go_wp2;go_ret;exact⟨by rw[HM HA];rfl,rfl⟩):=h
def PM(h:p:=by
 unfold DS.step;split
 ·rfl
 ·split <;> rfl):=h
def PS(h:p:=by
 have:fr.getD k (0,0)=fr[k]:=by simp[List.getD,aB]
 rw[this];exact qAf aB):=h
def PX(h:p:=by
 go_enter func139,ntmps139
 go_wp2;go_ret2;exact⟨rfl,zBr.alloc zNr _⟩):=h
def PY(h:p:=by
 have hg:l.getD j (0,[])=x:=by simp[List.getD,hj,Cu]
 rw[hg]at this;omega):=h
def P6(h:p:=by
 go_enter func232,ntmps232
 go_wp2;go_ret;exact⟨rfl,zBr.alloc zNr _⟩):=h
def P7(h:p:=by
 have:l.getD k (0,0)=l[k]:=by simp[List.getD,aB]
 rw[this];exact qAf aB):=h
def Qe(h:p:=by
 show(aj P.D P.s m (dQ P.K P.L m)).1.down=false
 rw[k2];exact hn.down):=h
def Qj(h:p:=by have:l.getD k 0=l[k]:=UR;rw[this];exact qAf hk):=h
def Ql(h:p:=by
 rw[<-hL];go_enter func15,ntmps15
 go_wp2;go_ret;exact⟨rfl,rfl⟩):=h
def Qm(h:p:=by
 congr 1
 omega):=h
def QC(h:p:=by
 by_cases e:i=k
 ·subst e;exact hr
 ·exact h4 i Sg h6):=h
def QD(h:p:=by
 go_enter func109,ntmps109
 go_wp2;go_ret2;exact⟨rfl,rfl⟩):=h
def QH(h:p:=by
 go_enter func108,ntmps108
 go_wp2;go_ret;exact⟨rfl,rfl⟩):=h
def QJ(h:p:=by
 go_enter func183,ntmps183
 go_wp2;go_ret;exact⟨rfl,rfl⟩):=h
def QK(h:p:=by
 go_enter func229,ntmps229
 go_wp2;go_ret;exact⟨rfl,rfl⟩):=h
def Rm(h:p:=by
 go_enter func230,ntmps230
 go_wp2;go_ret;exact⟨rfl,rfl⟩):=h
def R2(h:p:=by
 go_enter func231,ntmps231
 go_wp2;go_ret;exact⟨rfl,rfl⟩):=h
def R9(h:p:=by
 go_enter func237,ntmps237
 go_wp2;go_ret;exact⟨rfl,rfl⟩):=h
def Sf(h:p:=by
 go_enter func213,ntmps213
 go_wp2;go_ret;exact⟨rfl,rfl⟩):=h
def Sg(h:p:=by omega):=h
def Si(h:p:=by decide):=h
def Sk(h:p:=by simp):=h
def SQ(h:p:=by kernel_rfl):=h
def Tb(h:p:=by simp;omega):=h
def Tc(h:p:=by go_num):=h
def Te(h:p:=by simp[intOf];omega):=h
def Tq(h:p:=by rfl):=h
def Ts(h:p:=by unfold maxLen;omega):=h
def Tt(h:p:=by go_wp2;go_ret;exact⟨rfl,rfl⟩):=h
def Tu(h:p:=by dsimp only;omega):=h
def TB(h:p:=by cases e):=h
def TG(h:p:=by cases hx):=h
def TH(h:p:=by simpa using h):=h
def Um(h:p:=by cases h):=h
def Uq(h:p:=by exact⟨rfl,rfl⟩):=h
def Ur(h:p:=by unfold rl;rw[h];rfl):=h
def UB(h:p:=by grind):=h
def UD(h:p:=by simp[hx]):=h
def UR(h:p:=by simp[List.getD,hk]):=h
def UU(h:p:=by simp[List.getD]):=h
def UW(h:p:=by rw[he];exact hu):=h
def UX(h:p:=by have:=aa jD;omega):=h
def Vk(h:p:=by rw[Go.Lib.cell_of_heap h1];rfl):=h
def Vt(h:p:=by cases hz):=h
def Vx(h:p:=by go_enter func47,ntmps47;go_wp2;go_ret;exact⟨rfl,rfl⟩):=h
def Vy(h:p:=by unfold sS;omega):=h
def VF(h:p:=by (try dsimp only at LD);go_simp):=h
def VK(h:p:=by assumption):=h
def VV(h:p:=by rw[hg,e]):=h
def VW(h:p:=by rw[zLt];omega):=h
def V0(h:p:=by simpa using this):=h
def WI(h:p:=by simpa using e):=h
def WR(h:p:=by dsimp only;exact oq _):=h
def WV(h:p:=by rw[aa sM]):=h
def WW(h:p:=by exact⟨_,_,rfl⟩):=h
def WZ(h:p:=by rw[Go.Lib.cell_of_heap G8];rfl):=h
def Xd(h:p:=by rw[hw];exact zBr):=h
def Xi(h:p:=by exact⟨f1,b1,l1⟩):=h
def Xu(h:p:=by rw[h5];omega):=h
def XB(h:p:=by simp[hz]):=h
def XM(h:p:=by unfold bT;omega):=h
def XW(h:p:=by cases hj;exact zNr):=h
def XZ(h:p:=by simp[List.getD,h]):=h
def Ye(h:p:=by intro e;rw[e]at aB;simp at aB):=h
def Yq(h:p:=by exact⟨0,qAH _,rfl,cX.nil _ _,zBr⟩):=h
def Yy(h:p:=by simp at h):=h
def YB(h:p:=by rw[hn];simp):=h
def YG(h:p:=by rw[ag];decide):=h
def YR(h:p:=by exact⟨0,Sg,rfl,fun j hj=>absurd hj (qAX j)⟩):=h
def YS(h:p:=by rw[ag];omega):=h
def YW(h:p:=by simpa using h.lt k hk):=h
def Y0(h:p:=by exact⟨0,Sg,rfl⟩):=h
def Y2(h:p:=by exact absurd h0 Si):=h
def Y3(h:p:=by exact qBi _):=h
def Y8(h:p:=by rw[qAD _ _ _ _ _ _ (qAB w _)];rfl):=h
def Y9(h:p:=by simpa using h1):=h
def Zl(h:p:=by cases hg):=h
def ZU(h:p:=by rw[qAD _ _ _ _ _ _ h.qq];rfl):=h
def Z7(h:p:=by rw[db];decide):=h
def zab(h:p:=by rw[hq];simp):=h
def zae(h:p:=by rw[hd];exact qAo):=h
def zaf(h:p:=by rw[aa jF]):=h
def zai(h:p:=by exact absurd Sk RG):=h
def zas(h:p:=by rw[hk,e]):=h
def zay(h:p:=by simp[List.getD,hj]):=h
def zaA(h:p:=by rw[zLd];omega):=h
def zaB(h:p:=by rw[uP];omega):=h
def zaC(h:p:=by have h1:=aa ja;rw[<-oI]at h1;exact h1):=h
def zaI(h:p:=by exact⟨P,E,an,cn,NN,_,q,S,ab,cb,ak,ck,rfl,rfl,rfl,HE,HB.2,fun _=>HB.1,HX⟩):=h
def zaK(h:p:=by show p.s<=p.s+1;omega):=h
def zaM(h:p:=by have:=h.len;omega):=h
def zaN(h:p:=by rw[qAD _ _ _ _ _ _ h.str];simp[dW]):=h
def zaO(h:p:=by simp only[qBn];omega):=h
def zaQ(h:p:=by have:=aa HK;go_num):=h
def zbh(h:p:=by simpa using hj):=h
def zbm(h:p:=by simp[intOf];have:=aa HK;omega):=h
def zby(h:p:=by rw[<-e0];simp):=h
def zbB(h:p:=by rw[rR Sg Sg Sg,<-Zu];rfl):=h
def zbK(h:p:=by exact fun _ _ _=>idn):=h
def zbL(h:p:=by go_wp2;go_ret;exact⟨rfl,zBr⟩):=h
def zbM(h:p:=by exact⟨0,Sg,rfl,cX.nil _ _,zBr⟩):=h
def zcc(h:p:=by rw[h0];simp):=h
def zcj(h:p:=by obtain⟨a2,c2,e2,aK⟩:=ho.bs jm Sg;simp only[qAS,qBL]at e2;obtain⟨rfl,rfl⟩:=e2;exact aK):=h
def zcm(h:p:=by have:=iI s w hs (bH s) 0 (.inl ⟨cL.1 hn,rfl,rfl⟩);rw[aC]at this;exact this.mono fun e w' ⟨a,c,he,hb,hw⟩=>⟨a,c,by rw[he,BI],hb,hw⟩):=h
def zcp(h:p:=by rw[<-e];rfl):=h
def zcR(h:p:=by rw[zLt,zLd];omega):=h
def zcY(h:p:=by rw[hW];rfl):=h
def zcZ(h:p:=by first | exact hA | exact bF hA | exact qCy hA):=h
def zc0(h:p:=by rw[yN]at HT;exact fx):=h
def zdg(h:p:=by rw[hk,qDI]):=h
def zdm(h:p:=by go_wp2;go_ret;exact⟨rfl,zBr.alloc zNr _⟩):=h
def zdL(h:p:=by rw[qAD _ _ _ _ _ _ hgx];rfl):=h
def zdQ(h:p:=by simp[List.getD,hi]):=h
def zdZ(h:p:=by simp[DS.new]):=h
def zer(h:p:=by have:=hb.size;simp;omega):=h
def zes(h:p:=by rw[qBy Sg];rfl):=h
def zet(h:p:=by rw[qAD _ _ _ _ _ _ h.str];simp):=h
def zev(h:p:=by have:=h.lt p h.mq;omega):=h
def zeA(h:p:=by rw[Go.Lib.cell_of_heap yG];rfl):=h
def zeC(h:p:=by have:=hb.size;omega):=h
def zeN(h:p:=by simpa using hk):=h
def zeR(h:p:=by rw[bY];exact zNr):=h
def zeT(h:p:=by rw[<-h1];exact e):=h
def zfl(h:p:=by rw[aa sM];exact rG):=h
def zfo(h:p:=by simp;exact hE):=h
def zfp(h:p:=by rw[<-h1,<-h2];rfl):=h
def zfq(h:p:=by obtain⟨Dm,h1,_⟩:=h;exact h1.lt):=h
def zfA(h:p:=by dsimp only;rw[hh];simp):=h
def zfB(h:p:=by rw[Nat.add_mul,qDI]at h3;omega):=h
def zfP(h:p:=by have:=hv.num j hj;omega):=h
def zfQ(h:p:=by rw[cL.2 h]at hn;cases hn):=h
def zfT(h:p:=by rw[qAD _ _ _ _ _ (0,0) (qAB w3 _)];rfl):=h
def zgk(h:p:=by obtain⟨D,⟨es,clock,hb,r⟩,h2⟩:=h;exact⟨D,⟨es,clock,hs.trans hb,r⟩,h2⟩):=h
def zgx(h:p:=by rw[addr_add,qAl,qAD _ _ _ _ _ _ hy];simpa using hj):=h
def zgy(h:p:=by simpa using kF):=h
def zgR(h:p:=by have:=h.1;omega):=h
def zgZ(h:p:=by unfold tG;rw[hc];rfl):=h
def zg3(h:p:=by rintro w1 rfl;go_wp2;go_ret;exact⟨rfl,rfl⟩):=h
def zg4(h:p:=by rw[aa Db];rfl):=h
def zhs(h:p:=by show(9:Int)≠0;decide):=h
def zhz(h:p:=by rw[h.down];exact qAo):=h
def zhC(h:p:=by obtain⟨Dm,⟨es,clock,hb,r⟩,h2⟩:=h;exact⟨Dm,⟨es,clock,hs.trans hb,r⟩,h2⟩):=h
def zhF(h:p:=by unfold yX;dsimp only;omega):=h
def zhP(h:p:=by rw[aa HN];exact hi):=h
def zhS(h:p:=by go_wp2;go_ret;rw[aa HX];exact⟨rfl,q,S,ab,cb,ak,ck,fh⟩):=h
def zhW(h:p:=by go_ret;exact⟨rfl,zBr.alloc zNr _⟩):=h
def zhY(h:p:=by rw[h3,h4]at uC;simp at uC):=h
def zh0(h:p:=by have:=h.even;rcases h.two with rfl|rfl <;> omega):=h
def zig(h:p:=by obtain⟨D,h1,_⟩:=h;exact h1.lt):=h
def zih(h:p:=by unfold ic;rw[e1];rfl):=h
def zii(h:p:=by rw[aY Sg,aY Sg]):=h
def zil(h:p:=by unfold rn;rw[e,zn Si]):=h
def zin(h:p:=by go_wp2;go_ret;rw[aa HX];exact⟨rfl,q,S,ab,cb,ak,ck,HB⟩):=h
def ziF(h:p:=by rw[Maps.has_put_same h1.isMap sr];simp):=h
def ziJ(h:p:=by intro w1 ay;have HB:=ae ay;go_wp2;go_ret;exact⟨rfl,HB⟩):=h
def ziQ(h:p:=by rw[Go.Lib.cell_of_heap ay];rfl):=h
def ziR(h:p:=by intro e;rw[e]at uT;simp at uT):=h
def ziS(h:p:=by have:=lW hj;rwa[show l.getD j 0=(i:Int) by omega]at this):=h
def ziT(h:p:=by go_wp2;go_ret;exact⟨rfl,aQ⟩):=h
def ziU(h:p:=by rw[qAD _ _ _ _ _ _ hm];rfl):=h
def zi1(h:p:=by go_wp2;go_ret;exact⟨rfl,0,_,by rw[alloc_eq_grow];rfl⟩):=h
def zi2(h:p:=by exact⟨eh.os,eh.tape,eh.output,eh.size,eh.block⟩):=h
def zi4(h:p:=by rw[hL];exact pW uP hb.1 Ro.1 Ro.2 k1 k2 hk):=h
def zi6(h:p:=by unfold js;rw[hn,zn Sk,zn (fun h=>h hc),hI,zn Sg]):=h
def zjb(h:p:=by unfold cX;rw[zLa,qBY];simpa using sX):=h
def zjc(h:p:=by go_wp2;go_ret;exact⟨rfl,HE⟩):=h
def zjd(h:p:=by clear hn;go_wp2;go_ret2;exact⟨HB,by rw[aa HN];exact rfl⟩):=h
def zje(h:p:=by go_wp2;go_ret2;exact⟨by rw[HX.1,HX.2];rfl,fh⟩):=h
def zjf(h:p:=by simp only[List.getD,qAi,zy Hd,qBJ]at this ⊢;exact this):=h
def zji(h:p:=by show P.s<=P.s+1;omega):=h
def zjj(h:p:=by rw[qAv,qBN,h];rfl):=h
def zjH(h:p:=by rw[Mm (by rw[kF];decide),kF];rfl):=h
def zjJ(h:p:=by go_wp2;go_ret;exact⟨rfl,yd⟩):=h
def zjK(h:p:=by rw[qAC,zLg Sg];exact qAf _):=h
def zjR(h:p:=by rw[TR];exact(below_drewN zBr _).alloc zNr _):=h
def zjU(h:p:=by rw[TR];exact qAD _ _ _ _ _ _ (qAB _ _)):=h
def zj2(h:p:=by obtain⟨_,_,_,_,_,_,_,_,_,h6⟩:=h;exact h6):=h
def zj5(h:p:=by intro k hk;simp[Value.ownBlock]at hk;omega):=h
def zkc(h:p:=by go_wp2;go_ret2;exact⟨rfl,rfl⟩):=h
def zkg(h:p:=by unfold eo at hL;split at hL <;> omega):=h
def zkK(h:p:=by rw[qAD _ _ _ _ _ _ T4];rfl):=h
def zkO(h:p:=by go_wp2;go_ret2;exact⟨_,rfl,ze6⟩):=h
def zla(h:p:=by go_wp2;go_ret;exact⟨_,rfl,HO,aJ⟩):=h
def zld(h:p:=by unfold js;rw[zn YB,zn (fun h=>h hc),hI,zn Sg]):=h
def zle(h:p:=by have:=hc 0 v rfl 0 _ rfl;simpa using this):=h
def zlf(h:p:=by show(0:Int)≠9;decide):=h
def zlg(h:p:=by unfold cR;rw[zy he]):=h
def zlh(h:p:=by rw[hlen];exact hf.gR):=h
def zlo(h:p:=by unfold tG;rw[hb];rfl):=h
def zlq(h:p:=by rw[qCN]at h6;exact h6):=h
def zlG(h:p:=by intro e;rw[e]at tP;simp at tP):=h
def zlW(h:p:=by go_wp2;go_ret;exact⟨rfl,HF _ _⟩):=h
def zlX(h:p:=by rw[he,hk.unique hi]):=h
def zlY(h:p:=by exact⟨0,Sg,rfl,rfl⟩):=h
def zlZ(h:p:=by rw[zn Sg]):=h
def zl0(h:p:=by exact⟨0,qAH _,rfl,rfl,zBr⟩):=h
def zl1(h:p:=by have:=l6 _ (lW hj);omega):=h
def zl2(h:p:=by rw[Go.Lib.cell_of_heap CY];rfl):=h
def zl3(h:p:=by have:=lr a' la c' lc L (bH s) W h2 h1 BI hlen.1 hlen.2.1;rw[vz jm hn,show pgI (ie L s)=0 from zy hp,qAG (show ¬ie L s<8 by omega)]at this;exact this):=h
def zl4(h:p:=by rw[qCL Sg];omega):=h
def zl5(h:p:=by simp[asAddr,this,Result.andThen]):=h
def zl6(h:p:=by go_wp2;go_ret2;exact⟨by rw[aa HR];rfl,rfl⟩):=h
def zl7(h:p:=by rw[qCe Sg];omega):=h
def zl8(h:p:=by go_ret;exact⟨k,rfl,⟨Sg,HA.out,fun _=>HB⟩,rfl⟩):=h
def zl9(h:p:=by rw[hL,bh zaB zaB]):=h
def zma(h:p:=by go_wp2;go_ret;exact⟨rfl,HB⟩):=h
def zmb(h:p:=by go_wp2;go_ret;exact⟨k,rfl,⟨Sg,HA.out,fun h=>absurd h aB⟩,rfl⟩):=h
def zmc(h:p:=by rw[qAD _ _ _ _ _ _ h];rfl):=h
def zmd(h:p:=by rw[e]at hb;exact absurd hb.1 Si):=h
def zme(h:p:=by exact⟨⟨rfl,rfl,rfl,zNr,fun _ _=>rfl⟩,fun _=>rfl⟩):=h
def zmf(h:p:=by simp only[qAQ,qBs]at h h';have:=h.1.trans h'.1.symm;simp at this):=h
def zmg(h:p:=by simp only[Result.andThen,sliced];rw[zn Sg];simp[Addr.add]):=h
def zmh(h:p:=by rintro e w1 ⟨i,rfl,hf,n,rfl⟩;have HF:=ae hf;go_wp2;go_ret;exact⟨i,rfl,HF,below_drewN ((zBr.alloc zNr _).alloc Sk _) _⟩):=h
def zmi(h:p:=by intro v9 w9 aU dS;have pO:=ae aU;have kE:=ae (dF.trans dS);obtain⟨a9,m9,c9,rfl⟩:=aU.shape;clear aU dS oE dF kq;exact j8):=h
def zmj(h:p:=by rw[zy h0];exact⟨fun h=>absurd h h0,fun h=>absurd h.1 h0⟩):=h
def zmk(h:p:=by rw[aa fP];exact zn (fun hh=>hh.2.elim q2 q3)):=h
def zml(h:p:=by unfold tkO;rw[zn Si,zy rfl,h]):=h
def zmm(h:p:=by exact⟨rfl,((((Q4.setCell zNr _).setCell zNr _).setCell zNr _).setCell zNr _).setCell zNr _⟩):=h
def zmn(h:p:=by have:=qAB (wr.alloc (.cells #[zi x,zi y,zi z,zi t] 124)) (.cells #[zi (y-288),zi z] 122);rw[cJ]at this;exact this):=h
def zmo(h:p:=by have aQ:=zTr iX ay;go_wp2;go_ret;exact⟨rfl,aQ⟩):=h
def zmp(h:p:=by go_wp2;go_ret2;exact⟨none,0,rfl,eu _,aQ,Fr.nil _⟩):=h
def zmq(h:p:=by refine qBV (qDO rfl _ _ w.heap.size 122 _ (0,0) _ rfl (qAB w _) underlying122 rfl (by rw[Nj];rfl)) rfl ?_;exact⟨rfl,(Below.refl _ w).alloc zNr _⟩):=h
def zmr(h:p:=by rw[qAq]at this;rw[this,cC Sg Sg];simp[fg]):=h
def zms(h:p:=by go_ret2;exact⟨none,0,rfl,eu _,zBr.alloc zNr _⟩):=h
def zmt(h:p:=by have:=hp.1 x hx;unfold iK at this;omega):=h
def zmu(h:p:=by intro g c w1 az ai;go_wp2;go_ret;exact⟨g,c,rfl,az,ai⟩):=h
def zmv(h:p:=by rw[<-aa Mk]at ho;obtain⟨gn,cur,e1,hr,_⟩:=ho.row (by intro e;have:=H.hp.bC.len;rw[e]at this;simp at this);exact⟨gn,cur,e1,hr⟩):=h
def zmw(h:p:=by rw[qAI _ _ _ _ _ _ h.str];simp[dW]):=h
def zmy(h:p:=by unfold mo;rw[zn (fun h=>h h1),zy eQ]):=h
def zmz(h:p:=by exact⟨rfl,by rw[<-aa HZ2];rfl,by rw[<-aa Q1];rfl,rfl⟩):=h
def zmB(h:p:=by have:=h.lt k hk;have:=hb.size;omega):=h
def zmC(h:p:=by obtain⟨cur2,ui⟩:=h.hp.row;exact⟨h.hp.bp,h.hp.ne,(ho x (fun e=>h.n2 (.inl e.symm))).trans h.hp.qq,⟨cur2,ui.same (ho g (fun e=>h.n2 (.inr e.symm)))⟩,h.hp.B2,h.hp.bC⟩):=h
def zmD(h:p:=by rw[qAD _ _ _ _ _ _ h1];exact qBX Sg):=h
def zmJ(h:p:=by rw[iP];rintro ⟨_,h0⟩;dsimp only at h0;omega):=h
def zmO(h:p:=by rw[aa fP];exact zn (fun hh=>q1 hh.1)):=h
def zmP(h:p:=by show w2.heap.size<w3.heap.size;omega):=h
def zmR(h:p:=by intro w1 ay;have aQ:=ae ay;go_wp2;go_ret2;exact⟨rfl,aQ⟩):=h
def zmS(h:p:=by rw[KH (f:=f) (by rw[aa rE];exact hf),zy (by rw[aa Hx];exact h),aa rE]):=h
def zmT(h:p:=by rw[hA];exact List.mem_append.2 (.inl hp)):=h
def zmU(h:p:=by go_wp2;go_ret3;exact⟨none,0,rfl,eu _,fh,Fr.nil _⟩):=h
def zmV(h:p:=by obtain⟨D,⟨es,clock,hb,_⟩,_⟩:=h;exact⟨es,clock,hb⟩):=h
def zmY(h:p:=by obtain⟨a,rfl,_⟩:=plainElem_int_inv underlying3 hv;exact⟨a,by rw[cF,h2 z]⟩):=h
def zmZ(h:p:=by obtain⟨cur3,q4⟩:=br q3 e;obtain⟨cur4,q5⟩:=br q1 hk;rw[q4]at q5;simp at q5):=h
def zm1(h:p:=by intro u hu;simp at hu;subst hu;rfl):=h
def zm2(h:p:=by exact absurd (by unfold dJ;rw[zn h1,zn h2,zn h4]) h0):=h
def zm4(h:p:=by intro e;subst e;rw[h.str]at k2;simp at k2):=h
def zm6(h:p:=by rw[J5];exact⟨(hb.cell (qAA (HC (j+1) hj))).trans (HC (j+1) hj),U4 (j+1)⟩):=h
def zm7(h:p:=by intro e;rw[e]at fc;simp only[qBS]at fc;omega):=h
def zm8(h:p:=by refine lJ.mono ?_;rintro e w3 ⟨a',c',rfl,ho,bD⟩;have dF:=zTr bz bD;have HO:=ae (ho.zlw iE Sg);go_wp2;go_ret2;exact⟨a',c',rfl,HO,dF⟩):=h
def zm9(h:p:=by exact⟨0,qAH _,rfl,fun j hj=>absurd hj (qAX j),zBr⟩):=h
def znb(h:p:=by rw[qAD _ _ _ _ _ (0,0) (qAB wr _)];rfl):=h
def znc(h:p:=by intro w1 hw;subst hw;go_wp2;go_ret;exact⟨rfl,rfl⟩):=h
def znd(h:p:=by simp only[zB,cJ];have:=aK.size;omega):=h
def zne(h:p:=by rw[KH (f:=f) (by rw[aa rE];exact hf),zn (by rw[aa Hx];exact h)]):=h
def znf(h:p:=by rintro w3 rfl;go_wp2;go_ret;rw[aa HX];exact⟨rfl,q,S,ab,cb,ak,ck,gY⟩):=h
def zng(h:p:=by obtain⟨rs,h1,h2,h3⟩:=h;exact⟨rs,h1,h2.below hb,fun r hr=>(h3 r hr).below hb⟩):=h
def zny(h:p:=by have HH:=ae hh;have Hu:=ae ht;go_wp2;go_ret2;exact⟨rfl,g',c',HH,Hu⟩):=h
def znQ(h:p:=by exact⟨0,qAH _,rfl,sK.new _ _ _ _ _ _,zBr.alloc zNr _⟩):=h
def zn3(h:p:=by rw[zn Sg];simp[Addr.add];exact fun h=>h.symm):=h
def zoi(h:p:=by have:=lr a' la c' lc L (bH s) W h2 h1 BI hlen.1 hlen.2.1;rw[vz jm hn,show pgI (ie L s)=(ie L s:Int)from zn Sg,qAE hp]at this;exact this):=h
def zol(h:p:=by (first | go_num | exact qBB (Value.int .i64) Sg)):=h
def zom(h:p:=by rw[qAV _ _ _ _ (fun e=>xj (.inr (.inl e))),ht.block k Sg (fun hf=>xj (.inl hf)),ay.block k hk]):=h
def zoo(h:p:=by refine mx.mono ?_;rintro e w' ⟨rfl,hb⟩;exact⟨rfl,g,c,h.below hb,au.aI hb⟩):=h
def zop(h:p:=by have hl:=hf.len;obtain⟨h,h1,h2,h3,rfl⟩:=iz.1 he;have:=hf.nE h1 h2 h3;unfold uc jL;dsimp only;omega):=h
def zoq(h:p:=by have HO:=ae az;have aJ:=ae ai;clear az ai;go_wp2;go_ret;exact⟨_,rfl,HO,aJ⟩):=h
def zor(h:p:=by intro e;rw[e]at tM;simp at tM;omega):=h
def zos(h:p:=by rw[aa fP];exact zy ⟨q1,.inr q3⟩):=h
def zot(h:p:=by refine qBV (v:=sv b) (qDO rfl _ _ w.heap.size 312 (aL b) (0,0) _ rfl HR underlying312 rfl (by rw[bW];exact lp)) rfl ⟨rfl,aJ⟩):=h
def zov(h:p:=by have:=hc 1 u rfl 0 _ rfl;simpa using this):=h
def zow(h:p:=by rw[aa fP];exact zy ⟨q1,.inl q2⟩):=h
def zox(h:p:=by go_wp2;have ai:=aa aJ;refine qBV (oT results293 _ _ (w.heap.size+1) _ rfl (zR (W:=w2) AN _ _) rfl) rfl ?_;exact⟨_,rfl,rfl,(ai.setCell Y3 _).setCell Y3 _⟩):=h
def zoy(h:p:=by go_wp2;go_ret2;exact⟨⟨_,rfl,by rw[aa uV];exact HSV⟩,rfl⟩):=h
def zo9(h:p:=by have:=qAB (w2.alloc (.cells #[zi e1,zi e2,zi e3,zi e4] 124)) (.cells #[zi (K:Int)] 3);simp only[zB,cJ]at this;exact this):=h
def zpa(h:p:=by refine h v' w' ?_ (zBr.grown oH hB (fun k hk=>az.block k hk));unfold cX;rw[zLa,qBY];simpa using sX):=h
def zpb(h:p:=by have:=f2' x UD;unfold iK at ha;unfold uG;rw[qAK];omega):=h
def zpc(h:p:=by exact⟨0,[0,0,0],qAH _,rfl,rfl,HV0,fun j hj=>absurd hj (qAX _),oF⟩):=h
def zpd(h:p:=by refine cell_grown Sk ?_ n os;rw[qAD _ _ _ _ _ (0,0) (qAB w _)];rfl):=h
def zpe(h:p:=by first | exact zBr | exact bF zBr | exact qCy zBr):=h
def zpf(h:p:=by ((go_at_call 26;refine HF.m ?_;rintro w3 ⟨iT,r0,r1,r2,r3⟩))):=h
def zpg(h:p:=by subst hw;go_wp2;go_ret2;exact⟨none,0,rfl,eu _,zBr,Fr.nil _⟩):=h
def zph(h:p:=by rw[qCu];rw[List.isEmpty_eq_false_iff];intro h;rw[<-ByteArray.size_data,<-qBv,h]at h0;exact absurd h0 Si):=h
def zpi(h:p:=by exact hv1.same (fun k hk=>by subst hk;exact(dL k hgp).trans um) (fun k hk=>.inr (.inl hk))):=h
def zpj(h:p:=by obtain⟨e3,e4⟩:=gD k k1 Sg qT;rw[e3]at kt;rw[e2,e4];exact hf.apart h1 h2 k1 Sg Sg ht kt):=h
def zpk(h:p:=by first | exact dr | exact bF dr | exact qCy dr):=h
def zpl(h:p:=by unfold Oper.wp;simp[execOp,ho,resolve,invoke,builtin,hd,hs,cF,Result.andThen];exact h):=h
def zpm(h:p:=by rintro e w' ⟨rfl,rfl⟩;go_wp2;go_ret;exact⟨rfl,HB⟩):=h
def zpn(h:p:=by intro w2 aK;have bz:=zTr aQ aK;go_wp2;go_ret2;exact⟨rfl,bz⟩):=h
def zpo(h:p:=by unfold eo at hm;split at hm <;> omega):=h
def zpp(h:p:=by unfold Go.Lib.index;rw[ih];simp[List.isPrefixOf,hx]):=h
def zpq(h:p:=by exact(qAJ (a:=⟨b,off+k*2+1,none⟩) (vM.block b (qAA c1) zh9)).trans c1):=h
def zpr(h:p:=by go_ret;exact⟨w.heap.size,rfl,zNr,qAB _ _,zBr.alloc zNr _⟩):=h
def zpu(h:p:=by show 48+L<=(dA _ _ _ _ _ _).length;rw[fK];exact hlen):=h
def zpv(h:p:=by rw[qAD _ _ _ _ _ _ (qAB _ _)];simp):=h
def zpw(h:p:=by rw[zLa];show pre.length+1<=_;omega):=h
def zpx(h:p:=by obtain⟨cs,h1,h2⟩:=h.sec;refine⟨cs,bJ h1 (fun g hg=>dL g (fun e=>h.nsv VV)),fun i hi=>?_⟩;obtain⟨u,h3,h4⟩:=h2 i hi;exact⟨u,h3,h4.ne h.str Si dL⟩):=h
def zpy(h:p:=by rw[h1]at e;have:=zOi e;have:=h.lt p h.mq;have:=hb.size;omega):=h
def zpz(h:p:=by have:=(zu w c 308).bs lC.2 (by rw[lC.1];decide) 0 32 32 (by rw[lC.1];decide) zNr;rwa[qCE,qAP (by rw[lC.1];decide)]at this):=h
def zpA(h:p:=by have:=qI (P:=prog) w1 29 29 3 underlying29 aT (w.heap.size+1) 32 (some (zp w.heap.size)) 32 (af 32) c (by rw[lC.1,ag]) h5 h6;rw[lC.1]at this;exact this):=h
def zpB(h:p:=by unfold Oper.wp;simp[execOp,sW,hl,hc,cF,Result.andThen];exact hK' _ _ hK):=h
def zpC(h:p:=by have JZ:=ae hE9;go_wp2;go_ret;exact⟨by rw[aa JZ];rfl,S1,⟨_,_,_,h2⟩,Hv.trans gw⟩):=h
def zpD(h:p:=by obtain rfl:=zOi hx;have:=H.dev.lt _ hs;dsimp only at this;omega):=h
def zpE(h:p:=by (rw[World.frozen?_of_block (a:=⟨p,1,none⟩) ((iS.block p (by have:=ai.size;simp;exact Nat.lt_succ_of_lt (qAL G9 this)) (fun e=>zhe e.symm)).trans ((qAb _ _ (qAL G9 ai.size)).trans (ai.block p G9)))];exact Fl)):=h
def zpF(h:p:=by have:=h.lt k hk;have:=hb.size;simp;omega):=h
def zpH(h:p:=by rw[aa HT];unfold dO;rw[zn (fun h=>h hc)]):=h
def zpI(h:p:=by unfold one;rw[zn h1,zn (by rw[Rt];exact qAo)]):=h
def zpL(h:p:=by intro w1 kF fQ ay;have aK:=HB.below (w':=w1) (by first | exact ay | (rw[size_alloc];exact ay));have gT:=(zBr.alloc zNr (.cells (aL c) 308)).trans (ay.mono (by first | omega | (rw[size_alloc];omega)));go_wp2;go_ret2;exact⟨_,rfl,Sg,kr kF c,e8 c gT Sg⟩):=h
def zpM(h:p:=by obtain⟨gb,cb,e,r⟩:=Wc;exact⟨gb,cb,e,gb,cb,e,r⟩):=h
def zpN(h:p:=by obtain⟨b,off,rfl,hc⟩:=hb.2.2.2.2 (by intro h;subst h;simp at hi);exact⟨b,off,rfl,hc i hi⟩):=h
def zpP(h:p:=by exact⟨0,0,Sg,rfl,rfl,fun j hj=>absurd hj (qAX j)⟩):=h
def zpQ(h:p:=by exact⟨rfl,HB⟩):=h
def zpR(h:p:=by go_ret2;exact⟨rfl,aQ⟩):=h
end
theorem zNr:n ≤ n:=Nat.le_refl n
theorem zBr:Below B w w:=Below.refl B w
theorem zAg{α:Type _}{xs:Array α}{a}(h:xs[i]?=some a):∃h:i<xs.size,xs[i]=a:=Array.getElem?_eq_some_iff.1 h
theorem zLs{α:Type _}{xs:List α}{i:Nat}{a:α}(h:xs[i]?=some a):∃h:i<xs.length,xs[i]=a:=List.getElem?_eq_some_iff.1 h
theorem zLg{α:Type _}{l:List α} h:l[i]?=some l[i]:=List.getElem?_eq_getElem h
theorem zMs{α:Type _}{a b:α}(h:a∈[b]):a=b:=List.mem_singleton.1 h
theorem zMc{α:Type _}{a b:α}{l:List α}(h:a∈b::l):a=b ∨ a∈l:=List.mem_cons.1 h
theorem zMa{α:Type _}{a}{s t:List α}(h:a∈s++t):a∈s ∨ a∈t:=List.mem_append.1 h
theorem zOi{α:Type _}{a b:α}(h:some a=some b):a=b:=Option.some.inj h
theorem zTn(n:Nat):(n:Int).toNat=n:=Int.toNat_natCast n
theorem zLa{α:Type _}{a b:List α}:(a++b).length=a.length+b.length:=List.length_append
theorem zLt{α:Type _}{l:List α}:(l.take i).length=min i l.length:=List.length_take
theorem zLd{α:Type _}{l:List α}:(l.drop i).length=l.length-i:=List.length_drop
theorem zLm{α β:Type _}{xs:List α}(f:α → β):(xs.map f).length=xs.length:=List.length_map f
theorem zLc{α:Type _}{a:α}{xs:List α}:(a::xs).length=xs.length+1:=List.length_cons
theorem zTr{a b:World}(h:Hid (Below a.heap.size a b))(k:Below b.heap.size b c):Hid (Below a.heap.size a c):=ae ((aa h).trans (k.mono (aa h).size))
theorem zTs{a b:World}(h:Hid (Below a.heap.size a b))(k:Below b.heap.size b c):Below a.heap.size a c:=(aa h).trans (k.mono (aa h).size)
theorem qAA:type_of% @block_lt_of_cell:=@block_lt_of_cell
theorem qAB:type_of% @heap_alloc_new:=@heap_alloc_new
theorem qAC:type_of% @List.getD_eq_getElem?_getD:=@List.getD_eq_getElem?_getD
theorem qAD:type_of% @cell_of_row:=@cell_of_row
theorem qAE:type_of% @decide_eq_true:=@decide_eq_true
theorem qAF:type_of% @Nat.le_trans:=@Nat.le_trans
theorem qAG:type_of% @decide_eq_false:=@decide_eq_false
theorem qAH:type_of% @Nat.zero_le:=@Nat.zero_le
theorem qAI:type_of% @heap_setCell_same:=@heap_setCell_same
theorem qAJ:type_of% @World.cell?_of_block:=@World.cell?_of_block
theorem qAK:type_of% @decide_eq_true_iff:=@decide_eq_true_iff
theorem qAL:type_of% @Nat.lt_of_lt_of_le:=@Nat.lt_of_lt_of_le
theorem qAM:type_of% @Classical.byContradiction:=@Classical.byContradiction
theorem qAN:type_of% @Int.eq_ofNat_of_zero_le:=@Int.eq_ofNat_of_zero_le
theorem qAO:type_of% @info_parts:=@info_parts
theorem qAP:type_of% @List.take_of_length_le:=@List.take_of_length_le
theorem qAQ:type_of% @Option.some.injEq:=@Option.some.injEq
theorem qAR:type_of% @List.getElem?_append_right:=@List.getElem?_append_right
theorem qAS:type_of% @Value.slice.injEq:=@Value.slice.injEq
theorem qAT:type_of% @List.mem_map:=@List.mem_map
theorem qAU:type_of% @beq_eq_false_iff_ne:=@beq_eq_false_iff_ne
theorem qAV:type_of% @heap_setCell_other:=@heap_setCell_other
theorem qAX:type_of% @Nat.not_lt_zero:=@Nat.not_lt_zero
theorem qAY:type_of% @List.getElem?_eq_none:=@List.getElem?_eq_none
theorem qAZ:type_of% @List.getElem?_append_left:=@List.getElem?_append_left
theorem qAa:type_of% @Bool.and_eq_true:=@Bool.and_eq_true
theorem qAb:type_of% @heap_alloc_old:=@heap_alloc_old
theorem qAc:type_of% @List.map_append:=@List.map_append
theorem qAd:type_of% @frozen_of_row:=@frozen_of_row
theorem qAe:type_of% @List.setIfInBounds_toArray:=@List.setIfInBounds_toArray
theorem qAf:type_of% @List.getElem_mem:=@List.getElem_mem
theorem qAg:type_of% @List.nil_append:=@List.nil_append
theorem qAh:type_of% @List.append_nil:=@List.append_nil
theorem qAi:type_of% @List.getElem?_take:=@List.getElem?_take
theorem qAj:type_of% @List.mem_of_mem_take:=@List.mem_of_mem_take
theorem qAk:type_of% @List.take_length:=@List.take_length
theorem qAl:type_of% @Nat.zero_add:=@Nat.zero_add
theorem qAm:type_of% @List.getElem_of_mem:=@List.getElem_of_mem
theorem qAn:type_of% @List.map_cons:=@List.map_cons
theorem qAo:type_of% @Bool.false_ne_true:=@Bool.false_ne_true
theorem qAp:type_of% @List.eq_nil_of_length_eq_zero:=@List.eq_nil_of_length_eq_zero
theorem qAq:type_of% @Nat.add_zero:=@Nat.add_zero
theorem qAr:type_of% @List.drop_eq_nil_of_le:=@List.drop_eq_nil_of_le
theorem qAs:type_of% @List.mem_of_getElem?:=@List.mem_of_getElem?
theorem qAt:type_of% @decide_eq_false_iff_not:=@decide_eq_false_iff_not
theorem qAu:type_of% @List.set_cons_succ:=@List.set_cons_succ
theorem qAv:type_of% @List.take_add_one:=@List.take_add_one
theorem qAw:type_of% @List.mem_range:=@List.mem_range
theorem qAx:type_of% @List.take_succ_eq_append_getElem:=@List.take_succ_eq_append_getElem
theorem qAy:type_of% @List.take_append_of_le_length:=@List.take_append_of_le_length
theorem qAz:type_of% @List.length_set:=@List.length_set
theorem qBA:type_of% @Int.le_refl:=@Int.le_refl
theorem qBB:type_of% @congrArg:=@congrArg
theorem qBC:type_of% @List.pairwise_cons:=@List.pairwise_cons
theorem qBD:type_of% @List.set_cons_zero:=@List.set_cons_zero
theorem qBE:type_of% @List.length_pos_iff:=@List.length_pos_iff
theorem qBF:type_of% @List.mem_of_mem_drop:=@List.mem_of_mem_drop
theorem qBG:type_of% @List.cons_append:=@List.cons_append
theorem qBH:type_of% @List.any_eq_true:=@List.any_eq_true
theorem qBI:type_of% @Addr.mk.injEq:=@Addr.mk.injEq
theorem qBJ:type_of% @List.getElem?_drop:=@List.getElem?_drop
theorem qBK:type_of% @List.getElem?_set_ne:=@List.getElem?_set_ne
theorem qBL:type_of% @true_and:=@true_and
theorem qBM:type_of% @List.length_singleton:=@List.length_singleton
theorem qBN:type_of% @List.getElem?_map:=@List.getElem?_map
theorem qBO:type_of% @List.append_assoc:=@List.append_assoc
theorem qBP:type_of% @World.ownsRow.alloc:=@World.ownsRow.alloc
theorem qBQ:type_of% @World.cell?_alloc_lt:=@World.cell?_alloc_lt
theorem qBR:type_of% @List.pairwise_append:=@List.pairwise_append
theorem qBS:type_of% @List.length_nil:=@List.length_nil
theorem qBT:type_of% @Nat.lt_or_ge:=@Nat.lt_or_ge
theorem qBU:type_of% @wpList_append_own:=@wpList_append_own
theorem qBV:type_of% @bodyPost_ret:=@bodyPost_ret
theorem qBW:type_of% @List.length_replicate:=@List.length_replicate
theorem qBX:type_of% @Array.getElem?_eq_getElem:=@Array.getElem?_eq_getElem
theorem qBY:type_of% @List.flatMap_append:=@List.flatMap_append
theorem qBZ:type_of% @bne_iff_ne:=@bne_iff_ne
theorem qBa:type_of% @List.size_toArray:=@List.size_toArray
theorem qBb:type_of% @List.foldl_append:=@List.foldl_append
theorem qBc:type_of% @List.pairwise_map:=@List.pairwise_map
theorem qBd:type_of% @Nat.lt_irrefl:=@Nat.lt_irrefl
theorem qBe:type_of% @List.length_filter_le:=@List.length_filter_le
theorem qBf:type_of% @List.drop_eq_getElem_cons:=@List.drop_eq_getElem_cons
theorem qBg:type_of% @List.mem_of_find?_eq_some:=@List.mem_of_find?_eq_some
theorem qBh:type_of% @rounds_succ:=@rounds_succ
theorem qBi:type_of% @Nat.le_succ:=@Nat.le_succ
theorem qBj:type_of% @and_true:=@and_true
theorem qBk:type_of% @List.foldl_cons:=@List.foldl_cons
theorem qBl:type_of% @List.range_succ:=@List.range_succ
theorem qBm:type_of% @List.eq_nil_iff_forall_not_mem:=@List.eq_nil_iff_forall_not_mem
theorem qBn:type_of% @IntKind.wrap_i64:=@IntKind.wrap_i64
theorem qBo:type_of% @WalkArith.wf_i64:=@WalkArith.wf_i64
theorem qBp:type_of% @World.ownsRow_nil:=@World.ownsRow_nil
theorem qBq:type_of% @Nat.add_assoc:=@Nat.add_assoc
theorem qBr:type_of% @Nat.min_eq_left:=@Nat.min_eq_left
theorem qBs:type_of% @Prod.mk.injEq:=@Prod.mk.injEq
theorem qBt:type_of% @callsIn_wide:=@callsIn_wide
theorem qBu:type_of% @Nat.lt_succ_self:=@Nat.lt_succ_self
theorem qBv:type_of% @Array.length_toList:=@Array.length_toList
theorem qBw:type_of% @List.take_append_drop:=@List.take_append_drop
theorem qBx:type_of% @List.getElem?_replicate:=@List.getElem?_replicate
theorem qBy:type_of% @List.getElem?_set_self:=@List.getElem?_set_self
theorem qBz:type_of% @List.any_eq_false:=@List.any_eq_false
theorem qCA:type_of% @beq_iff_eq:=@beq_iff_eq
theorem qCB:type_of% @List.flatMap_cons:=@List.flatMap_cons
theorem qCC:type_of% @Lit.int.injEq:=@Lit.int.injEq
theorem qCD:type_of% @Array.getElem?_modify:=@Array.getElem?_modify
theorem qCE:type_of% @List.drop_zero:=@List.drop_zero
theorem qCF:type_of% @List.filter_append:=@List.filter_append
theorem qCG:type_of% @Array.replicate_succ:=@Array.replicate_succ
theorem qCH:type_of% @Array.replicate_zero:=@Array.replicate_zero
theorem qCI:type_of% @List.mem_cons_of_mem:=@List.mem_cons_of_mem
theorem qCJ:type_of% @List.dropLast_concat:=@List.dropLast_concat
theorem qCK:type_of% @List.drop_append:=@List.drop_append
theorem qCL:type_of% @Int.tmod_eq_emod_of_nonneg:=@Int.tmod_eq_emod_of_nonneg
theorem qCM:type_of% @Bool.or_false:=@Bool.or_false
theorem qCN:type_of% @Nat.mul_one:=@Nat.mul_one
theorem qCO:type_of% @List.take_take:=@List.take_take
theorem qCP:type_of% @List.append_toArray:=@List.append_toArray
theorem qCQ:type_of% @List.nodup_cons:=@List.nodup_cons
theorem qCR:type_of% @List.any_append:=@List.any_append
theorem qCS:type_of% @List.mem_filter:=@List.mem_filter
theorem qCT:type_of% @List.pairwise_iff_getElem:=@List.pairwise_iff_getElem
theorem qCU:type_of% @Int.mul_le_mul_of_nonneg_right:=@Int.mul_le_mul_of_nonneg_right
theorem qCV:type_of% @Array.getElem?_toList:=@Array.getElem?_toList
theorem qCW:type_of% @ByteArray.size_append:=@ByteArray.size_append
theorem qCX:type_of% @List.drop_append_of_le_length:=@List.drop_append_of_le_length
theorem qCY:type_of% @Nat.sub_self:=@Nat.sub_self
theorem qCZ:type_of% @List.mem_cons_self:=@List.mem_cons_self
theorem qCa:type_of% @Bool.false_and:=@Bool.false_and
theorem qCb:type_of% @List.pairwise_mergeSort:=@List.pairwise_mergeSort
theorem qCc:type_of% @List.push_toArray:=@List.push_toArray
theorem qCd:type_of% @Bool.true_and:=@Bool.true_and
theorem qCe:type_of% @Int.tdiv_eq_ediv_of_nonneg:=@Int.tdiv_eq_ediv_of_nonneg
theorem qCf:type_of% @List.ext_getElem:=@List.ext_getElem
theorem qCg:type_of% @Nat.mul_le_mul:=@Nat.mul_le_mul
theorem qCh:type_of% @List.drop_drop:=@List.drop_drop
theorem qCi:type_of% @run_underlying:=@run_underlying
theorem qCj:type_of% @Bool.and_eq_false_iff:=@Bool.and_eq_false_iff
theorem qCk:type_of% @List.find?_eq_none:=@List.find?_eq_none
theorem qCl:type_of% @Nat.eq_zero_or_pos:=@Nat.eq_zero_or_pos
theorem qCm:type_of% @List.exists_mem_of_ne_nil:=@List.exists_mem_of_ne_nil
theorem qCn:type_of% @Int.pow_succ:=@Int.pow_succ
theorem qCo:type_of% @List.find?_some:=@List.find?_some
theorem qCp:type_of% @Nat.mul_le_mul_right:=@Nat.mul_le_mul_right
theorem qCq:type_of% @Nat.lt_trichotomy:=@Nat.lt_trichotomy
theorem qCr:type_of% @of_decide_eq_true:=@of_decide_eq_true
theorem qCs:type_of% @Bool.not_eq_true':=@Bool.not_eq_true'
theorem qCt:type_of% @List.nodup_append:=@List.nodup_append
theorem qCu:type_of% @ByteArray.toList_eq:=@ByteArray.toList_eq
theorem qCv:type_of% @List.getElem?_range:=@List.getElem?_range
theorem qCw:type_of% @List.map_congr_left:=@List.map_congr_left
theorem qCx:type_of% @List.getElem_map:=@List.getElem_map
theorem qCy:type_of% @Below.drew:=@Below.drew
theorem qCz:type_of% @List.map_nil:=@List.map_nil
theorem qDA:type_of% @Option.isSome_none:=@Option.isSome_none
theorem qDB:type_of% @Option.isSome_some:=@Option.isSome_some
theorem qDC:type_of% @UInt8.toNat_inj:=@UInt8.toNat_inj
theorem qDD:type_of% @List.contains_iff_mem:=@List.contains_iff_mem
theorem qDE:type_of% @Bool.eq_iff_iff:=@Bool.eq_iff_iff
theorem qDF:type_of% @decide_eq_true_eq:=@decide_eq_true_eq
theorem qDG:type_of% @Nat.pow_le_pow_right:=@Nat.pow_le_pow_right
theorem qDH:type_of% @Bool.or_eq_false_iff:=@Bool.or_eq_false_iff
theorem qDI:type_of% @Nat.one_mul:=@Nat.one_mul
theorem qDJ:type_of% @Nat.mul_comm:=@Nat.mul_comm
theorem qDK:type_of% @List.map_map:=@List.map_map
theorem qDL:type_of% @Nat.min_eq_right:=@Nat.min_eq_right
theorem qDM:type_of% @setRow_other:=@setRow_other
theorem qDN:type_of% @List.lookup_cons:=@List.lookup_cons
theorem qDO:type_of% @results_cell_row:=@results_cell_row
theorem qDP:type_of% @List.sum_cons:=@List.sum_cons
theorem qDQ:type_of% @Bool.false_or:=@Bool.false_or
theorem qDR:type_of% @Bool.not_true:=@Bool.not_true
theorem qDS:type_of% @Option.map_some:=@Option.map_some
theorem qDT:type_of% @run_slice_l:=@run_slice_l
abbrev zB(w w':World):Prop:=Below w.heap.size w w'
abbrev LI:=List Int
abbrev BA:=ByteArray
abbrev OA:=Option Addr
abbrev zC:=Calls prog
abbrev zi(n:Int):Value:=.int .i64 n
abbrev zq(p:Nat):Value:=.pointer (some ⟨p,0,none⟩)
abbrev zp(p:Nat):Addr:=⟨p,0,none⟩
abbrev zo(g:Nat):Option Addr:=some ⟨g,0,none⟩
abbrev zw(g i:Nat):Addr:=⟨g,i,none⟩
abbrev zt(a:Array Value):Ending:=.returned (.tuple a)
abbrev zr(v:Value)(R:World->Prop)(e:Ending)(w:World):Prop:=e=.returned v/\R w
theorem _root_.Go.Calls.m{P:Program}{f:FuncId}{a:Array Value}{w:World}{v:Value}{R:World->Prop}{Q:Ending->World->Prop}(h:Calls P f a w fun e w'=>e=.returned v/\R w')(k:∀w',R w'->Q (.returned v) w'):Calls P f a w Q:=h.mono fun _ w' ⟨x,y⟩=>x▸k w' y
abbrev I2:=Int×Int
abbrev I3:=Int×I2
abbrev zv:Array Value:=#[.int .u8 0,.int .u8 0,.int .u8 0,.int .u8 0,.int .u8 0,.int .u8 0,.int .u8 0,.int .u8 0,.int .u8 0,.int .u8 0,.int .u8 0,.int .u8 0,.int .u8 0,.int .u8 0,.int .u8 0,.int .u8 0,.int .u8 0,.int .u8 0,.int .u8 0,.int .u8 0,.int .u8 0,.int .u8 0,.int .u8 0,.int .u8 0,.int .u8 0,.int .u8 0,.int .u8 0,.int .u8 0,.int .u8 0,.int .u8 0,.int .u8 0,.int .u8 0]
theorem zn:type_of% @if_neg:=@if_neg
theorem zy:type_of% @if_pos:=@if_pos
def bZ(l:LI):Prop:=∀z∈l,0<=z/\z<=255
def Bs(w:World)(a:OA)(cap:Nat)(l:LI):Prop :=
 bZ l/\l.length<=cap/\l.length<=140737488351232/\(a=none->cap=0) /\
 (l≠[]->∃b off,a=some ⟨b,off,none⟩/\∀i,i<l.length->w.cell? ⟨b,off+i,none⟩=some (.int .u8 (l.getD i 0)))
def gz(w:World)(g:Nat)(l:LI):Prop:=w.heap[g]?=some (.cells (l.map (Value.int .u8)).toArray 5 (0,0))
theorem addr_add b off j:Addr.add ⟨b,off,none⟩ j=⟨b,off+j,none⟩:=by unfold Addr.add;split <;> simp_all
theorem bZ.getD(h:bZ l) i:0<=l.getD i 0/\l.getD i 0<=255:=by
 by_cases hi:i<l.length
 ·have:l.getD i 0=l[i]:=by simp[List.getD,hi]
  rw[this];exact h _ (qAf hi)
 ·have:l.getD i 0=0:=by simp[List.getD,qAY (by omega:l.length<=i)]
  rw[this];omega
theorem gz.cell(h:gz w g l) i(hi:i<l.length):w.cell? (zw g i)=some (.int .u8 (l.getD i 0)):=by rw[qAD w g i _ 5 (0,0) h];simp[hi,List.getD]
theorem gz.frozen(h:gz w g l) i:w.frozen? (zw g i)=false:=qAd w g i _ 5 h
theorem gz.lt(h:gz w g l):g<w.heap.size:=by
 unfold gz at h;rcases qBT g w.heap.size with h'|h'
 ·exact h'
 ·rw[Array.getElem?_eq_none h']at h;cases h
theorem gz.bs(h:gz w g l)(hb:bZ l)(hl:l.length<=140737488351232):Bs w (zo g) l.length l :=⟨hb,zNr,hl,fun e=>TB,fun _=>⟨g,0,rfl,fun i hi=>by rw[qAl];exact h.cell i hi⟩⟩
theorem gz.below(h:gz w g l)(hb:zB w w'):gz w' g l:=by unfold gz;rw[hb.block g h.lt];exact h
theorem Bs.below{w w':World}{a:OA}{cap:Nat}{l:LI}(h:Bs w a cap l)(hb:zB w w'):Bs w' a cap l:=by obtain⟨h1,h2,h3,h4,h5⟩:=h;refine⟨h1,h2,h3,h4,fun aG=>?_⟩;obtain⟨b,off,rfl,hc⟩:=h5 aG;refine⟨b,off,rfl,fun i hi=>?_⟩;have h6:=hc i hi;rw[<-h6];exact hb.cell (qAA h6)
def numOf:LI->Int
 | []=>0
 | c::r=>c+256*numOf r
theorem Tl(l:LI)(c:Int):numOf (l++[c])=numOf l+c*256 ^ l.length:=by
 induction l with
 | nil=>simp[numOf]
 | cons d r ih =>
  have e:(256:Int) ^ (r.length+1)=256*256 ^ r.length:=by rw[qCn,Int.mul_comm]
  simp only[qBG,numOf,ih,zLc,e,Int.mul_add];rw[show 256*(c*256 ^ r.length)=c*(256*256 ^ r.length)from by rw[<-Int.mul_assoc,Int.mul_comm 256 c,Int.mul_assoc]];omega
theorem Ox l(h:bZ l):0<=numOf l/\numOf l<256 ^ l.length:=by
 induction l with
 | nil=>simp[numOf]
 | cons d r ih =>
  have e:(256:Int) ^ (r.length+1)=256*256 ^ r.length:=by rw[qCn,Int.mul_comm]
  have h1:=h d (by simp);have h2:=ih (fun z hz=>h z (by simp[hz]));simp only[numOf,zLc,e];omega
def dm(l:LI)(p s:Nat):Int:=numOf ((l.drop p).take s)
theorem xk l p k(h:p+k<l.length):dm l p (k+1)=dm l p k+l.getD (p+k) 0*256 ^ k:=by unfold dm;have h1:k<(l.drop p).length:=Tb;rw[qAx h1,Tl];have h2:((l.drop p).take k).length=k:=Tb;rw[h2];have h3:l.getD (p+k) 0=l[p+k]:=XZ;rw[h3];simp
theorem bZ.sub(h:bZ l) p s:bZ ((l.drop p).take s) :=fun z hz=>h z (qBF (qAj hz))
theorem Wp l(h:bZ l) p k(hk:p+k<=l.length):0<=dm l p k/\dm l p k<256 ^ k:=by have:=Ox _ (h.sub p k);have h2:((l.drop p).take k).length=k:=Tb;rw[h2]at this;exact this
def putK(l:LI)(p:Nat)(n:Int):Nat->LI
 | 0=>l
 | k+1=>(putK l p n k).set (p+k) (n / 2 ^ (8*k)%256)
theorem cg l p n k:(putK l p n k).length=l.length:=by
 induction k with
 | zero=>rfl
 | succ k ih=>simp[putK,ih]
theorem L7(h:bZ l) i c(hc:0<=c/\c<=255):bZ (l.set i c):=by
 intro z hz;rcases List.mem_or_eq_of_mem_set hz with h1|h1
 ·exact h z h1
 ·rw[h1];exact hc
theorem sE(h:bZ l) p n k:bZ (putK l p n k):=by
 induction k with
 | zero=>exact h
 | succ k ih=>exact L7 ih _ _ Sg
theorem gz.set(h:gz w g l) i c:gz (w.setCell (zw g i) (.int .u8 c)) g (l.set i c):=by unfold gz;have:=qAI w g i (l.map (Value.int .u8)).toArray 5 (.int .u8 c) h;rw[this];simp[List.map_set]
theorem zjQ n c k(h:n<2 ^ k):n ||| c*2 ^ k=n+c*2 ^ k:=by have:=Nat.two_pow_add_eq_or_of_lt h c;rw[qDJ,Nat.or_comm];omega
theorem TQ(a b:Nat)(ha:a<4611686018427387904)(hb:b<4611686018427387904):bits .or .i64 (a:Int) (b:Int)=((a ||| b:Nat):Int):=by
 have hx:a ||| b<2 ^ 62:=Nat.or_lt_two_pow Sg Sg
 show IntKind.i64.wrap ((BitVec.ofInt 64 (a:Int) ||| BitVec.ofInt 64 (b:Int)).toNat:Int)=_
 rw[BitVec.toNat_or,ofInt_u64 a Sg,ofInt_u64 b Sg,qBn];generalize a ||| b=c at*;omega
theorem zgw n c k(hk:k<=3)(hn:0<=n/\n<256 ^ k)(hc:0<=c/\c<=255):bits .or .i64 n (wrap64 (c*2 ^ (8*k)))=n+c*256 ^ k:=by
 obtain⟨N,rfl⟩:=qAN hn.1;obtain⟨C,rfl⟩:=qAN hc.1;have ZS:(256:Int) ^ k=2 ^ (8*k):=by rw[Int.pow_mul];rfl
 have hN:N<2 ^ (8*k):=by have h:=hn.2;rw[ZS]at h;exact_mod_cast h
 have hC:(C:Int)*2 ^ (8*k)=((C*2 ^ (8*k):Nat):Int):=by push_cast;rfl
 have hle:C*2 ^ (8*k)<4611686018427387904:=by have h1:2 ^ (8*k)<=2 ^ 24:=qDG Sg Sg;have h2:C<=255:=Sg;exact Nat.lt_of_le_of_lt (qCg h2 h1) Si
 have zqH:N<4611686018427387904:=by have h1:2 ^ (8*k)<=2 ^ 24:=qDG Sg Sg;omega
 rw[ZS,hC];have hw:wrap64 ((C*2 ^ (8*k):Nat):Int)=((C*2 ^ (8*k):Nat):Int):=by generalize C*2 ^ (8*k)=m at*;unfold wrap64;omega
 rw[hw,TQ _ _ zqH hle,zjQ N C (8*k) hN]
 push_cast;rfl
def af(n:Nat):LI:=List.replicate n 0
theorem ag n:(af n).length=n:=by simp[af]
theorem cI n:bZ (af n):=fun z hz=>by have:=(List.mem_replicate.1 hz).2;omega
theorem yA n:(madeCells (Value.int .u8 0).cells n).toList=(af n).map (Value.int .u8):=by
 apply qCf
 ·simp[madeCells,af]
 ·intro i h1 h2;simp[madeCells,af,Value.cells,Nat.mod_one]
theorem bV{a}(hg:o.guard=none) l c(t:TypeId)(sW:o.op=Op.makeSlice t l c)(i:TypeInfo)(h1:P.underlying t=some (.slice 5))(h2:P.info? 5=some i)(h3:i.zero=some (.int .u8 0))(h4:i.size=1)(h5:i.bytes=1) kl kc L C(n:Nat)(hl:a.eval l=.int kl L)(hc:a.eval c=.int kc C)(hL:L=(n:Int))(hC:C=(n:Int))(b2:n<=281474976710656)(hK:∀w',gz w' w.heap.size (af n)->w'.heap.size=w.heap.size+1->zB w w'->wpList P ops Q rest (a.put o.dst (.slice (some (zp w.heap.size)) n n)) w') :
  wpList P ops Q (o::rest) a w:=by
 refine wpList_plain hg fun K hK'=>?_
 have cF:=run_make (P:=P) w t 5 i _ h1 h2 h3 kl kc n n Sg Sg Xu Sg;subst hL;subst hC;unfold Oper.wp;simp[execOp,sW,hl,hc,cF,Result.andThen];refine hK' _ _ (hK _ ?_ Sk (zBr.alloc zNr _));unfold gz;rw[qAB,h4,qCN];rw[<-yA,Array.toArray_toList]
theorem ed(l:LI):∀v∈l.map (Value.int .u8),v.oneCell'=true:=by intro v hv;obtain⟨z,_,rfl⟩:=qAT.1 hv;rfl
theorem Nb{α:Type}(L cs:List α)(h:cs.length=L.length):splice L 0 cs=cs:=by simp[splice,h]
def fj(w:World)(g:Nat)(l:LI):World:=w.setRow g (l.map (Value.int .u8)).toArray
theorem kr(hg:gz w g z) l:gz (fj w g l) g l :=setRow_heap w g _ _ 5 _ hg
theorem e8{w0:World} l(hb:Below B w0 w)(hBg:B<=g):Below B w0 (fj w g l):=below_setRow hb hBg _
theorem qI w(dT sT ty:TypeId)(hu:P.underlying dT=some (.slice 5))(bW:(P.info? 5).map (·.size)=some 1) g dCap sp sCap z l(hz:z.length=l.length)(hg:gz w g z)(hb:Bs w sp sCap l) :
  (Builtin.copy_ #[dT,sT] ty #[.slice (zo g) l.length dCap,.slice sp l.length sCap]).run P w=.ok (zi l.length) (fj w g l):=by
 have oH:=hg;by_cases h0:l=[]
 ·subst h0;have cO:=qAp hz;have cF:=run_copy_none (P:=P) w dT sT ty 5 (zo g) sp 0 dCap 0 sCap hu bW Sk;have mw:fj w g []=w:=by subst cO;exact setRow_self w g _ 5 (0,0) oH
  rw[mw];simpa[goInt]using cF
 ·obtain⟨b,off,rfl,hc⟩:=hb.2.2.2.2 h0;have cF:=run_copy_row (P:=P) w dT sT ty 5 g 0 l.length dCap ⟨b,off,none⟩ l.length sCap _ 5 (l.map (Value.int .u8)) hu bW oH Sk ?_ XB (ed l)
  ·have hdz:List.drop l.length (z.map (Value.int .u8))=[]:=qAr XB;simpa[hdz,goInt,fj]using cF
  ·exact j7
def c7(s:BA):LI:=s.data.toList.map fun c=>(c.toNat:Int)
theorem bY s:(c7 s).length=s.size:=by simp[c7]
theorem iu s i h:(c7 s).getD i 0=(s[i].toNat:Int):=by have h2:i<s.data.toList.length:=TH;simp[c7,List.getD];rw[qBX TH];rfl
theorem AD s:bZ (c7 s):=by intro z hz;obtain⟨c,_,rfl⟩:=qAT.1 hz;have:=c.toNat_lt;omega
theorem Ky w(dT sT ty:TypeId)(hu:P.underlying dT=some (.slice 5))(bW:(P.info? 5).map (·.size)=some 1) g dLen dCap s z(hz:z.length=dLen)(hg:gz w g z)(hs:s.size<=dLen) :
  (Builtin.copy_ #[dT,sT] ty #[.slice (zo g) dLen dCap,.string s]).run P w=.ok (zi s.size) (fj w g (c7 s++z.drop s.size)):=by
 have oH:=hg;have cF:=Lib.run_copy_row_string (P:=P) w dT sT ty 5 g 0 dLen dCap s _ 5 hu bW oH hs (by simp[hz];exact hs);rw[cF];unfold fj;simp[goInt,c7,Lib.byteCells,List.map_drop,Function.comp_def]
theorem Bs.drop{w:World}{a:OA}{cap:Nat}{l:LI}(hb:Bs w a cap l)(i:Nat)(hi:i<=l.length):Bs w (if cap=i then a else a.map (·.add i)) (cap-i) (l.drop i):=by
 obtain⟨b1,b2,b3,b4,b5⟩:=hb;refine⟨fun z hz=>b1 z (qBF hz),by simp;omega,by simp;omega,?_,?_⟩
 ·intro h;split at h
  ·omega
  ·have:a=none:=by cases a <;> simp_all
   have:=b4 this;omega
 ·intro aG;have aB:i<l.length:=by
   rcases qBT i l.length with h|h
   ·exact h
   ·exact absurd (qAr h) aG
  have yH:l≠[]:=by intro h;subst h;simp at aB
  obtain⟨b,off,rfl,hc⟩:=b5 yH;refine⟨b,off+i,?_,?_⟩
  ·rw[zn (by omega)];simp[addr_add]
  ·intro j hj;have:=hc (i+j) (by simp at hj;omega);rw[<-qBq]at this;rw[this];simp[List.getD]
theorem Bs.take{w:World}{a:OA}{cap:Nat}{l:LI}(hb:Bs w a cap l)(i:Nat):Bs w a cap (l.take i):=by
 obtain⟨b1,b2,b3,b4,b5⟩:=hb;refine⟨fun z hz=>b1 z (qAj hz),by simp;omega,by simp;omega,b4,?_⟩;intro aG;have yH:l≠[]:=by intro h;subst h;simp at aG
 obtain⟨b,off,rfl,hc⟩:=b5 yH;refine⟨b,off,rfl,fun j hj=>?_⟩;have h1:j<i/\j<l.length:=by simp at hj;omega
 rw[hc j h1.2];simp[List.getD,h1.1]
theorem eR w(bW:(P.info? 5).map (·.size)=some 1):(sizeOf 5).run P w=.ok 1 w:=by
 cases hq:P.info? 5 with
 | none=>simp[hq]at bW
 | some i =>exact EP
theorem kG{t:TypeId}(hu:P.underlying t=some (.slice 5)):P.elem t=5:=by simp[Program.elem,hu]
theorem iy{P:Program}{t:TypeId}(hu:P.underlying t=some (.slice 5))(bW:(P.info? 5).map (·.size)=some 1){w:World}{a:OA}{cap:Nat}{l:LI}(hb:Bs w a cap l)(i:Nat)(hi:i<=l.length) :
  ∃a',(∀w',(Instr.slice t (.slice a l.length cap) (some (zi i)) none none).run P w'=.ok (.slice a' (l.length-i) (cap-i)) w')/\Bs w a' (cap-i) (l.drop i):=by
 have he:=kG hu;refine⟨_,fun w'=>?_,hb.drop i hi⟩;rw[qDT (P:=P) (w:=w') t a l.length cap (by rw[he];exact hu) .i64 i (by omega) (by omega),he,eR w' bW];simp[Result.andThen,sliced]
theorem jK{P:Program}{t:TypeId}(hu:P.underlying t=some (.slice 5))(bW:(P.info? 5).map (·.size)=some 1){w:World}{a:OA}{cap:Nat}{l:LI}(hb:Bs w a cap l)(i:Nat)(hi:i<=l.length) :
  ∃a',(∀w',(Instr.slice t (.slice a l.length cap) none (some (zi i)) none).run P w'=.ok (.slice a' i cap) w')/\Bs w a' cap (l.take i):=by
 have he:=kG hu;have ma:=hb.2.1;refine⟨a,fun w'=>?_,hb.take i⟩;rw[run_slice_h (P:=P) (w:=w') t a l.length cap (by rw[he];exact hu) .i64 i (by omega) (by omega),he,eR w' bW];simp only[Result.andThen,sliced];by_cases h0:cap=0
 ·simp[h0]
 ·rw[zn h0];cases a with
  | none=>exact absurd (hb.2.2.2.1 rfl) h0
  | some x=>simp[Addr.add]
theorem dP{P:Program}{t:TypeId}(hu:P.underlying t=some (.slice 5))(bW:(P.info? 5).map (·.size)=some 1){w:World}{a:OA}{cap:Nat}{l:LI}(hb:Bs w a cap l)(i j:Nat)(hij:i<=j)(hj:j<=l.length) :
  ∃a',(∀w',(Instr.slice t (.slice a l.length cap) (some (zi i)) (some (zi j)) none).run P w'=.ok (.slice a' (j-i) (cap-i)) w')/\Bs w a' (cap-i) ((l.drop i).take (j-i)):=by
 have he:=kG hu;have ma:=hb.2.1;refine⟨_,fun w'=>?_,(hb.drop i (by omega)).take (j-i)⟩;rw[run_slice_lh (P:=P) (w:=w') t a l.length cap (by rw[he];exact hu) .i64 .i64 i j (by omega) (by omega) (by omega),he,eR w' bW];simp[Result.andThen,sliced]
def strOf(l:LI):BA:=l.foldl (fun r n=>r.push (UInt8.ofNat n.toNat)) ByteArray.empty
theorem jX{P:Program}{t e:TypeId}(hu:P.underlying t=some (.slice 5))(hu8:P.underlying 5=some (.int .u8))(hs:P.underlying e=some .string){w:World}{a:OA}{cap:Nat}{l:LI}(hb:Bs w a cap l) :
  (convert t e (.slice a l.length cap)).run P w=.ok (.string (strOf l)) w:=by
 rw[run_convert_bytes_string w t e 5 a l.length cap hu hu8 hs];by_cases h0:l=[]
 ·subst h0;cases a with
  | none=>simp[Conv.bytesToString,strOf]
  | some x =>have:=run_bytesToString (P:=P) w x 0 cap [] (by simpa using run_loadCells_list (P:=P) (w:=w) x [] (by simp));simpa[strOf]using this
 ·obtain⟨b,off,rfl,hc⟩:=hb.2.2.2.2 h0;refine run_bytesToString (P:=P) w ⟨b,off,none⟩ l.length cap l ?_;have:=run_loadCells_list (P:=P) (w:=w) ⟨b,off,none⟩ (l.map (Value.int .u8)) ?_
  ·simpa using this
  ·intro j v hj;have o7:j<l.length:=by
    rcases qBT j l.length with h1|h1
    ·exact h1
    ·rw[qAY (by simpa using h1)]at hj;cases hj
   have h2:=hc j o7;simp[o7]at hj;subst hj;rw[addr_add];simpa[List.getD,o7]using h2
theorem Sc(l:LI):∀r:BA,(l.foldl (fun r n=>r.push (UInt8.ofNat n.toNat)) r).data.toList=r.data.toList++l.map (fun n=>UInt8.ofNat n.toNat):=by
 induction l with
 | nil=>intro r;simp
 | cons c l ih=>intro r;simp only[qBk,qAn];rw[ih];simp[ByteArray.push]
theorem mC l:(strOf l).data.toList=l.map (fun n=>UInt8.ofNat n.toNat):=by unfold strOf;rw[Sc];simp
theorem tm s:strOf (c7 s)=s:=by
 have h:(strOf (c7 s)).data.toList=s.data.toList:=by rw[mC];simp[c7,Function.comp_def]
 cases s with
 | mk d=>cases hq:strOf (c7 ⟨d⟩)with
  | mk d'=>rw[hq]at h;simp at h;rw[h]
theorem iN l(h:bZ l):c7 (strOf l)=l:=by
 unfold c7;rw[mC,qDK];apply qCf
 ·simp
 ·intro i h1 h2;have:=h l[i] (qAf h2);simp;omega
theorem dw:(prog.info? 5).map (fun i=>(i.zero,i.size,i.bytes))=some (some (.int .u8 0),1,1):=SQ
theorem aT:(prog.info? 5).map (·.size)=some 1:=SQ
theorem Dp a cap l(p s:Nat) n w(aH:Bs w a cap l)(h1:1<=s)(h2:s<=4)(h3:0<=n)(h4:¬oW s<n)(h:p+s<=l.length) :
  zC 211 #[.slice a l.length cap,zi p,zi n,zi s] w fun e w'=>∃g,e=.returned (.tuple #[.slice (some (zp g)) l.length l.length,.nilIface])/\w.heap.size<=g/\gz w' g (putK l p n s)/\zB w w':=by
 have hl:=aH.2.2.1;obtain⟨i0,hi,cO,cU,cV⟩:=qAO dw;have l9:∀w1,gz w1 w.heap.size (af l.length)->Bs w1 a cap l->Sem.run prog (Builtin.copy_ #[29,29] 3 #[.slice (some ⟨w.heap.size,0,none⟩) l.length l.length,.slice a l.length cap]) w1=.ok (zi l.length) (fj w1 w.heap.size l) :=fun w1 h5 h6=>qI w1 _ _ _ underlying29 aT _ _ _ _ _ l (ag _) h5 h6
 go_enter func211,ntmps211
 go_wp2_with (first
  | (go_at_call 265;refine(mP _ _ (by omega) (by omega)).mono ?_;rintro e w' ⟨rfl,rfl⟩)
  | (go_at_call 266;refine(tS _ _ (by omega) (by omega)).mono ?_;rintro e w' ⟨rfl,rfl⟩)
  | (go_at_call 267;refine(Cg _ _ _ _ _ _ (by omega) (by omega) (by omega) (by omega) (by omega)).mono ?_;rintro e w' ⟨rfl,rfl⟩)
  | (at_make;refine bV rfl _ _ 29 rfl i0 underlying29 hi cO cU cV _ _ _ _ l.length rfl rfl rfl rfl (by omega) ?_;intro w1 kF fQ ay;have kT:=aH.below ay))
 go_loopw [39] (fun i wr=>∃k:Nat,k<=s/\i=zi k/\gz wr w.heap.size (putK l p n k)/\zB w wr) (fun i _=>s-(intOf i).toNat)
 case atStart=>exact⟨0,by omega,rfl,kr kF l,e8 l ay zNr⟩
 case round =>
  obtain⟨k,hk,rfl,hblk,ai⟩:=hrel;by_cases aB:k<s
  ·have oI:=hblk.frozen (p+k);have kS:=hblk.cell (p+k) (by rw[cg];omega);have HB:Hid (gz wr w.heap.size (putK l p n k)):=hblk;clear hblk;go_wp2;go_roundw
   case rel=>exact⟨k+1,by omega,by go_num,by show gz _ _ _;exact HB.out.set (p+k) _,ai.setCell zNr _⟩
   case measure=>simp[intOf];omega
  ·obtain rfl:k=s:=by omega
   go_wp2;go_ret2;exact⟨_,rfl,zNr,hblk,ai⟩
theorem zhy b off cap l p s w(hb:bZ l)(hc:l.length<=cap)(hm:l.length<=140737488351232)(h1:1<=s)(h2:s<=4)(h:p+s<=l.length)(bf:∀i,i<l.length->w.cell? ⟨b,off+i,none⟩=some (.int .u8 (l.getD i 0))) :
  zC 228 #[.slice (some ⟨b,off,none⟩) l.length cap,zi p,zi s] w (zr (.tuple #[zi (dm l p s),.nilIface]) fun w'=>w=w'):=by
 go_enter func228,ntmps228
 go_wp2_with (first|(go_at_call 265;refine(mP _ _ Sg Sg).mono ?_;rintro e w' ⟨rfl,rfl⟩)|(go_at_call 267;refine(Cg _ _ _ _ _ _ Sg Sg Sg Sg Sg).mono ?_;rintro e w' ⟨rfl,rfl⟩))
 go_loop [8,21] (fun n i=>∃k:Nat,k<=s/\i=zi k/\n=zi (dm l p k)) (fun _ i=>s-(intOf i).toNat)
 case atStart=>exact⟨0,Sg,rfl,by simp[dm,numOf]⟩
 case round =>
  obtain⟨k,hk,rfl,rfl⟩:=hrel;have iT:=Wp l hb p k Sg;by_cases aB:k<s
  ·have hx:=bf (p+k) Sg;have hy:=hb.getD (p+k);have HS:Hid (dm l p (k+1)=bits .or .i64 (dm l p k) (wrap64 (l.getD (p+k) 0*2 ^ (8*k)))):=by rw[xk l p k Sg,zgw _ _ k Sg iT hy];exact rfl
   generalize l.getD (p+k) 0=c at*;generalize hn:dm l p k=n at*;go_wp2
   go_round
   case rel=>exact⟨k+1,Sg,Tc,by rw[HS.out]⟩
   case measure=>exact Te
  ·obtain rfl:k=s:=by omega
   exact zkc
theorem nB a cap l(p s:Int) w(hb:Bs w a cap l)(h1:1<=s)(h2:s<=4)(h3:0<=p)(h4:p<=l.length-s) :
  zC 228 #[.slice a l.length cap,zi p,zi s] w (zr (.tuple #[zi (dm l p.toNat s.toNat),.nilIface]) fun w'=>w=w'):=by
 obtain⟨b1,b2,b3,b4,b5⟩:=hb;obtain⟨b,off,rfl,hc⟩:=b5 (by intro h;subst h;simp at h4;omega);obtain⟨P,rfl⟩:=qAN h3;obtain⟨S,rfl⟩:=qAN (by omega:0<=s);rw[zTn,zTn];exact zhy b off cap l P S w b1 b2 b3 Sg Sg Sg hc
theorem tB l p n:∀k j,j<k->p+k<=l.length->(putK l p n k).getD (p+j) 0=n / 2 ^ (8*j)%256:=by
 intro k;induction k with
 | zero=>intro j hj;omega
 | succ k ih =>
  intro j hj hk;have hlen:=cg l p n k;by_cases h:j=k
  ·subst h;simp only[putK,List.getD];exact zes
  ·have h1:=ih j Sg Sg;rw[<-h1];simp[putK,List.getD];rw[qBK Sg]
theorem lT l p n:∀k j,(j<p\/p+k<=j)->(putK l p n k).getD j 0=l.getD j 0:=by
 intro k;induction k with
 | zero=>intro j _;rfl
 | succ k ih =>intro j hj;rw[<-ih j Sg];simp[putK,List.getD];rw[qBK Sg]
theorem zcK(n:Int)(h:0<=n) k:n%256 ^ (k+1)=n%256 ^ k+n / 2 ^ (8*k)%256*256 ^ k:=by
 obtain⟨N,rfl⟩:=qAN h;have ZS:(2:Nat) ^ (8*k)=256 ^ k:=by rw[Nat.pow_mul]
 have h1:=Nat.mod_mul (x:=N) (a:=256 ^ k) (b:=256);have h2:N%256 ^ (k+1)=N%256 ^ k+N / 2 ^ (8*k)%256*256 ^ k:=by rw[Nat.pow_succ,h1,ZS,qDJ (256 ^ k)]
 have h3:((N%256 ^ (k+1):Nat):Int)=((N%256 ^ k+N / 2 ^ (8*k)%256*256 ^ k:Nat):Int):=qBB Nat.cast h2;rw[Int.natCast_emod,Int.natCast_pow,Int.natCast_add,Int.natCast_mul,Int.natCast_emod,Int.natCast_emod,Int.natCast_ediv,Int.natCast_pow,Int.natCast_pow]at h3;exact h3
theorem ZV l p n s(hn:0<=n)(h:p+s<=l.length):∀k,k<=s->dm (putK l p n s) p k=n%256 ^ k:=by
 intro k;induction k with
 | zero=>intro _;simp[dm,numOf]
 | succ k ih =>intro hk;rw[xk _ p k (by rw[cg];omega),ih Sg,tB l p n s k Sg h,zcK n hn k]
theorem zgN(s:Nat) n(h1:1<=s)(h2:s<=4)(h:n<=oW s):n<256 ^ s:=by rcases (show s=1\/s=2\/s=3\/s=4 from Sg)with rfl|rfl|rfl|rfl <;> simp[oW]at h ⊢ <;> omega
theorem vT l p n(s:Nat)(h1:1<=s)(h2:s<=4)(hn:0<=n)(hm:n<=oW s)(h:p+s<=l.length):dm (putK l p n s) p s=n:=by rw[ZV l p n s hn h s zNr];exact Int.emod_eq_of_lt hn (zgN s n h1 h2 hm)
theorem cr{m:LI}(h:l.length=m.length)(h2:∀i,i<l.length->l.getD i 0=m.getD i 0):l=m:=by apply qCf h;intro i hi hm;have:=h2 i hi;simpa[List.getD,hi,hm]using this
theorem eu w:Bs w none 0 []:=⟨fun z hz=>Vt,zNr,Si,fun _=>rfl,fun h=>absurd rfl h⟩
def Ends(w:World)(L:LI)(x:Value)(e:Ending)(w':World):Prop :=∃a cap,e=zt #[.slice a L.length cap,x]/\Bs w' a cap L/\zB w w'
theorem gi{x}{e}(he:e=zt #[.slice none 0 0,x])(hw:w=w'):Ends w [] x e w' :=⟨none,0,he,eu _,Xd⟩
theorem qJ w(dT sT ty:TypeId)(hu:P.underlying dT=some (.slice 5))(bW:(P.info? 5).map (·.size)=some 1) g off dLen dCap dp sp sCap z l(hl:l.length<=dLen)(hd:l≠[]->dp=some ⟨g,off,none⟩)(fc:off+l.length<=z.length)(hg:gz w g z)(hb:Bs w sp sCap l) :
  (Builtin.copy_ #[dT,sT] ty #[.slice dp dLen dCap,.slice sp l.length sCap]).run P w=.ok (zi l.length) (fj w g (splice z off l)):=by
 have oH:=hg;by_cases h0:l=[]
 ·subst h0;have cF:=run_copy_none (P:=P) w dT sT ty 5 dp sp dLen dCap 0 sCap hu bW Sk;have mw:fj w g (splice z off [])=w:=by
   have:splice z off []=z:=by simp[splice]
   rw[this];exact setRow_self w g _ 5 (0,0) oH
  rw[mw];simpa[goInt]using cF
 ·obtain rfl:=hd h0;obtain⟨b,o2,rfl,hc⟩:=hb.2.2.2.2 h0;have cF:=run_copy_row (P:=P) w dT sT ty 5 g off dLen dCap ⟨b,o2,none⟩ l.length sCap _ 5 (l.map (Value.int .u8)) hu bW oH (by simp[qBr hl]) ?_ (by simpa using fc) (ed l)
  ·simpa[goInt,fj,splice,List.map_take,List.map_drop]using cF
  ·exact j7
theorem dB{off}(hz:bZ z)(hl:bZ l):bZ (splice z off l):=by
 intro c hc;unfold splice at hc;rcases zMa hc with h|h
 ·exact hz c (qAj h)
 ·rcases zMa h with h|h
  ·exact hl c h
  ·exact hz c (qBF h)
theorem WM{t:TypeId}(hu:P.underlying t=some (.slice 5))(bW:(P.info? 5).map (·.size)=some 1)(g c d:Nat)(h:c+d=32) :
  ∃dp,(∀w',(Instr.slice t (.slice (zo g) 32 32) (some (zi c)) none none).run P w'=.ok (.slice dp d d) w')/\(0<d->dp=some (zw g c)):=by
 have he:=kG hu;refine⟨if 32=c then some (zp g)else some (zw g c),fun w'=>?_,fun hd=>zlZ⟩;rw[qDT (P:=P) (w:=w') t (zo g) 32 32 UW .i64 c Sg Sg,he,eR w' bW];have hd:d=32-c:=Sg;subst hd;simp[Result.andThen,sliced,Addr.add];split <;> simp <;> omega
theorem GJ{a}{K}{E:Prop}(oA:o.guard=none) d s(dT sT:TypeId)(ho:o.op=.call { callee:=.builtin .copy,args:=#[d,s],argTypes:=#[dT,sT]}) v1 v2(hd:a.eval d=v1)(hs:a.eval s=v2) v w'(cF:(Builtin.copy_ #[dT,sT] o.type #[v1,v2]).run P w=.ok v w')(h:K (a.put o.dst v) w') :
  if Region.wanted o (yielded ops a.tmps)=true then Oper.wp P o a w K Q else E:=by
 have hw:Region.wanted o (yielded ops a.tmps)=true:=by simp[Region.wanted,oA]
 rw[zy hw];exact zpl
def bc(x:Int):Value:=if x=0 then .nilIface else .iface 105 (.int .i64 x)
theorem aC:bc 0=.nilIface:=rfl
theorem aF x(h:x≠0):bc x=.iface 105 (.int .i64 x):=if_neg h
def cW(w:World)(B:Nat)(v:Value)(L:LI):Prop:=w.ownsRow B 5 1 v L.length (L.map (Value.int .u8))
theorem cW.nil w B:cW w B (.slice none 0 0) []:=⟨Sk,.inl ⟨rfl,rfl⟩⟩
theorem cW.block(h:cW w B v L):∀k,v.ownBlock=some k->B<=k:=by exact MX
theorem cW.bs(h:cW w B v L)(hb:bZ L)(hl:L.length<=140737488351232):∃a c,v=.slice a L.length c/\Bs w a c L:=by
 rcases h.2 with ⟨rfl,h0⟩|⟨g,cap,cur,rfl,hB,hc,h3,h4,h5,h6⟩
 ·have:L=[]:=qAp h0;subst this;exact⟨none,0,rfl,eu _⟩
 ·refine⟨some (zp g),cap,rfl,hb,h3,hl,fun e=>TB,fun _=>⟨g,0,rfl,fun i hi=>?_⟩⟩;rw[qAD _ _ _ _ _ _ hc];have e:(cur.toList.take (L.length*1))[i]?=some (.int .u8 (L.getD i 0)):=by rw[h6];simp[List.getD,hi]
  rw[qAi,zy Sg]at e;exact WI
theorem K3{ad}{c}(hb:Bs w (some ad) c l):∀j u,(l.map (Value.int .u8))[j]?=some u->w.cell? (ad.add j)=some u:=by
 intro j u hj;have o7:j<l.length:=by exact mJ
 obtain⟨b,off,e,hc⟩:=hb.2.2.2.2 (by intro e;rw[e]at o7;simp at o7);obtain rfl:=zOi e;have h2:=hc j o7;simp[o7]at hj;subst hj;rw[addr_add];simpa[List.getD,o7]using h2
theorem cW.below(h:cW w B v L)(hb:zB w w'):cW w' B v L:=by exact ud
def Own(w:World)(base g cap:Nat)(l:LI):Prop:=w.ownsRow base 5 1 (.slice (zo g) l.length cap) l.length (l.map (Value.int .u8))
theorem Own.base{w:World}{base g cap:Nat}{l:LI}(h:Own w base g cap l):base<=g:=by
 rcases h.2 with ⟨h',_⟩|⟨g',cap',cur,h',hb,_⟩
 ·simp at h'
 ·simp only[qAS,qAQ,qBI,qBj,qBL]at h';obtain⟨rfl,rfl⟩:=h';exact hb
theorem Own.cap{w:World}{base g cap:Nat}{l:LI}(h:Own w base g cap l):l.length<=cap:=by
 rcases h.2 with ⟨h',_⟩|⟨g',cap',cur,h',hb,_,hn,_⟩
 ·simp at h'
 ·simp only[qAS,qAQ,qBI,qBj,qBL]at h';obtain⟨rfl,rfl⟩:=h';exact hn
theorem Own.cell{w:World}{base g cap:Nat}{l:LI}(h:Own w base g cap l)(i:Nat)(hi:i<l.length):w.cell? ⟨g,i,none⟩=some (.int .u8 (l.getD i 0)):=by rw[World.ownsRow.cellAt h i (by omega)];simp[hi,List.getD]
theorem Own.frozen{w:World}{base g cap:Nat}{l:LI}(h:Own w base g cap l)(i:Nat):w.frozen? ⟨g,i,none⟩=false:=World.ownsRow.frozenAt h i
theorem Own.set{w:World}{base g cap:Nat}{l:LI}(h:Own w base g cap l)(i:Nat)(c:Int):Own (w.setCell ⟨g,i,none⟩ (.int .u8 c)) base g cap (l.set i c):=by have:=(World.ownsRow.stored h i (.int .u8 c)).1;unfold Own;rw[qAz,List.map_set];exact this
theorem Own.bs{w:World}{base g cap:Nat}{l:LI}(h:Own w base g cap l)(hb:bZ l)(hl:l.length<=140737488351232):Bs w (some (zp g)) cap l :=⟨hb,h.cap,hl,fun e=>(by cases e),fun _=>⟨g,0,rfl,fun i hi=>by rw[qAl];exact h.cell i hi⟩⟩
theorem lL{a}(oA:o.guard=none) s x(t:TypeId)(ho:o.op=.call { callee:=.builtin .append,args:=#[s,x],argTypes:=#[t,t]})(i:TypeInfo)(ht:P.underlying t=some (.slice 5))(hi:P.info? 5=some i)(hz:i.zero=some (.int .u8 0))(h4:i.size=1)(h5:i.bytes=1) sp sCap l(hs:a.eval s=.slice none 0 0)(hx:a.eval x=.slice sp l.length sCap)(hb:Bs w sp sCap l)(aG:l≠[])(h:∀g cap w',Own w' w.heap.size g cap l->zB w w'->wpList P ops Q rest (a.put o.dst (.slice (zo g) l.length cap)) w') :
  wpList P ops Q (o::rest) a w:=by
 obtain⟨b,off,rfl,hc⟩:=hb.2.2.2.2 aG;have hl:=hb.2.2.1;refine qBU (P:=P) w oA s x t ho w.heap.size 5 i (.int .u8 0) 1 1 ht hi hz h4 h5 rfl Si (.slice none 0 0) 0 [] hs (qBp _ _ _ _) ⟨b,off,none⟩ l.length sCap (l.map (Value.int .u8)) hx Sk ?_ (ed l) Ts Sg zNr ?_
 ·exact Kl
 ·intro v' w' az fE uC;rw[qAl,qAg]at az;have ew:0<l.length:=by
   cases l with
   | nil=>exact absurd rfl aG
   | cons _ _=>simp
  rcases az.2 with ⟨_,h0⟩|⟨g,cap,cur,rfl,Co⟩
  ·omega
  ·exact h g cap w' az (zBr.grown fE zNr (fun k hk=>by cases hk))
def nR(c:Int):Bool:=decide (97<=c/\c<=122)
theorem zX c w :
  Calls prog 198 #[.int .u8 c] w (zr (.bool (nR c)) fun w'=>w=w'):=by
 by_cases h1:97<=c
 ·by_cases h2:c<=122
  ·have hl:nR c=true:=by simp[nR,h1,h2]
   exact KW
  ·have hl:nR c=false:=by simp[nR];omega
   exact KW
 ·have hl:nR c=false:=by simp[nR];omega
  exact KW
theorem KN q(s:BA) i w(hs:s.size<=maxLen)(hi:i<s.size)(hq:w.cell? (zp q)=some (.string s)) :
  zC 197 #[zi i,zq q] w (zr (.bool (!nR ((c7 s).getD i 0))) fun w'=>w=w'):=by
 unfold maxLen at hs;rw[iu s i hi];go_enter func197,ntmps197
 exact M7
theorem Bs.at{w:World}{a:OA}{cap:Nat}{l:LI}(hb:Bs w a cap l)(i:Nat)(hi:i<l.length) :
  ∃b off,a=some ⟨b,off,none⟩/\w.cell? ⟨b,off+i,none⟩=some (.int .u8 (l.getD i 0)):=by
 obtain⟨b,off,rfl,hc⟩:=hb.2.2.2.2 (by intro h;subst h;simp at hi);exact⟨b,off,rfl,hc i hi⟩
theorem LM q a cap l i w(hb:Bs w a cap l)(hi:i<l.length)(hq:w.cell? (zp q)=some (.slice a l.length cap)) :
  zC 286 #[zi i,zq q] w (zr (.bool (!nR (l.getD i 0))) fun w'=>w=w'):=by
 have hl:=hb.2.2.1;obtain⟨b,off,rfl,bf⟩:=hb.at i hi;generalize l.getD i 0=c at*;go_enter func286,ntmps286
 exact M7
theorem LK q a cap l i w(hb:Bs w a cap l)(hi:i<l.length)(hq:w.cell? (zp q)=some (.slice a l.length cap)) :
  zC 287 #[zi i,zq q] w (zr (.bool (l.getD i 0 != 0)) fun w'=>w=w'):=by
 have hl:=hb.2.2.1;obtain⟨b,off,rfl,bf⟩:=hb.at i hi;generalize l.getD i 0=c at*;go_enter func287,ntmps287
 exact Tt
theorem XN q r a a' cap cap' l m i w(hb:Bs w a cap l)(pI:Bs w a' cap' m)(hi:i<l.length)(hi':i<m.length)(hq:w.cell? (zp q)=some (.slice a l.length cap))(hr:w.cell? (zp r)=some (.slice a' m.length cap')) :
  zC 321 #[zi i,zq q,zq r] w (zr (.bool (l.getD i 0 != m.getD i 0)) fun w'=>∃n,w'=w.drewN n):=by
 have hl:=hb.2.2.1;have hm:=pI.2.2.1;obtain⟨b,off,rfl,bf⟩:=hb.at i hi;obtain⟨b',off',rfl,zkR⟩:=pI.at i hi';generalize l.getD i 0=c,m.getD i 0=d at*;go_enter func321,ntmps321
 go_wp2;go_quiet (fail)
 go_wp2;go_ret;exact⟨rfl,_,rfl⟩
theorem Bs.drewN{w:World}{a:OA}{cap:Nat}{l:LI}(hb:Bs w a cap l)(n:Nat):Bs (w.drewN n) a cap l:=hb
def cd(f:Nat->Bool)(n i:Nat):Prop:=i<=n/\(∀j,j<i->f j=false)/\(i<n->f i=true)
theorem cd.unique{j:Nat}(hi:cd f n i)(hj:cd f n j):i=j:=by
 rcases qCq i j with h|h|h
 ·have h1:=hj.2.1 i h;have h2:=hi.2.2 (by have:=hj.1;omega);rw[h1]at h2;cases h2
 ·exact h
 ·have h1:=hi.2.1 j h;have h2:=hj.2.2 (by have:=hi.1;omega);rw[h1]at h2;cases h2
theorem cd.step{k}(h:∀j,j<k->f j=false)(hk:f k=false):∀j,j<k+1->f j=false:=by
 intro j hj;rcases qBT j k with h1|h1
 ·exact h j h1
 ·obtain rfl:j=k:=by omega
  exact hk
theorem Hr q s w(hs:s.size<=140737488351232)(hq:w.cell? (zp q)=some (.string s)) :
  zC 196 #[zi (s.size:Nat),.func (.func 197) #[] #[zq q]] w fun e w'=>∃i:Nat,e=.returned (zi i)/\cd (fun j=>(!nR ((c7 s).getD j 0))) s.size i/\w=w':=by
 skip
 go_enter func196,ntmps196
 go_wp2
 go_loop [5] (fun i=>∃k:Nat,k<=s.size/\i=zi k/\∀j,j<k->(!nR ((c7 s).getD j 0))=false) (fun i=>s.size-(intOf i).toNat)
 case atStart=>exact YR
 case round =>
  obtain⟨k,hk,rfl,bQ⟩:=hrel;have HA:Hid (∀j,j<k->(!nR ((c7 s).getD j 0))=false):=bQ;by_cases aB:k<s.size
  ·have mx:=KN q s k w Ts aB hq;have HC:=ae mx;cases hb:(!nR ((c7 s).getD k 0))
   ·have HB:=ae hb;rw[hb]at HC;go_wp2_with (go_at_call 197;refine HC.mono ?_;rintro e w' ⟨rfl,rfl⟩)
    exact DX
   ·have HB:=ae hb;rw[hb]at HC;go_wp2_with (go_at_call 197;refine HC.mono ?_;rintro e w' ⟨rfl,rfl⟩)
    exact zl8
  ·exact zmb
theorem Gd q a cap l w(aH:Bs w a cap l)(hq:w.cell? (zp q)=some (.slice a l.length cap)) :
  zC 196 #[zi (l.length:Nat),.func (.func 286) #[] #[zq q]] w fun e w'=>∃i:Nat,e=.returned (zi i)/\cd (fun j=>(!nR (l.getD j 0))) l.length i/\w=w':=by
 have hl:=aH.2.2.1;go_enter func196,ntmps196
 go_wp2
 go_loop [5] (fun i=>∃k:Nat,k<=l.length/\i=zi k/\∀j,j<k->(!nR (l.getD j 0))=false) (fun i=>l.length-(intOf i).toNat)
 case atStart=>exact YR
 case round =>
  obtain⟨k,hk,rfl,bQ⟩:=hrel;have HA:Hid (∀j,j<k->(!nR (l.getD j 0))=false):=bQ;clear bQ;by_cases aB:k<l.length
  ·have mx:=LM q a cap l k w aH aB hq;have HC:=ae mx;cases hb:(!nR (l.getD k 0))
   ·have HB:=ae hb;rw[hb]at HC;go_wp2_with (go_at_call 286;refine HC.mono ?_;rintro e w' ⟨rfl,rfl⟩)
    exact DX
   ·have HB:=ae hb;rw[hb]at HC;go_wp2_with (go_at_call 286;refine HC.mono ?_;rintro e w' ⟨rfl,rfl⟩)
    exact zl8
  ·exact zmb
theorem Gc q a cap l w(aH:Bs w a cap l)(hq:w.cell? (zp q)=some (.slice a l.length cap)) :
  zC 196 #[zi (l.length:Nat),.func (.func 287) #[] #[zq q]] w fun e w'=>∃i:Nat,e=.returned (zi i)/\cd (fun j=>(l.getD j 0 != 0)) l.length i/\w=w':=by
 have hl:=aH.2.2.1;go_enter func196,ntmps196
 go_wp2
 go_loop [5] (fun i=>∃k:Nat,k<=l.length/\i=zi k/\∀j,j<k->(l.getD j 0 != 0)=false) (fun i=>l.length-(intOf i).toNat)
 case atStart=>exact YR
 case round =>
  obtain⟨k,hk,rfl,bQ⟩:=hrel;have HA:Hid (∀j,j<k->(l.getD j 0 != 0)=false):=bQ;clear bQ;by_cases aB:k<l.length
  ·have mx:=LK q a cap l k w aH aB hq;have HC:=ae mx;cases hb:(l.getD k 0 != 0)
   ·have HB:=ae hb;rw[hb]at HC;go_wp2_with (go_at_call 287;refine HC.mono ?_;rintro e w' ⟨rfl,rfl⟩)
    exact DX
   ·have HB:=ae hb;rw[hb]at HC;go_wp2_with (go_at_call 287;refine HC.mono ?_;rintro e w' ⟨rfl,rfl⟩)
    exact zl8
  ·exact zmb
def fstFrom(f:Nat->Bool):Nat->Nat->Nat
 | 0,i=>i
 | k+1,i=>if f i then i else fstFrom f k (i+1)
def tU(f:Nat->Bool)(n:Nat):Nat:=fstFrom f n 0
theorem Hj f n:∀k i,i+k=n->(∀j,j<i->f j=false)->cd f n (fstFrom f k i):=by
 intro k;induction k with
 | zero=>intro i hi h;exact⟨by simp[fstFrom];omega,h,fun h'=>by simp[fstFrom]at h';omega⟩
 | succ k ih =>
  intro i hi h;unfold fstFrom;by_cases hf:f i=true
  ·rw[zy hf];exact⟨Sg,h,fun _=>hf⟩
  ·rw[zn hf];exact ih (i+1) Sg (cd.step h (by simpa using hf))
theorem bS f n:cd f n (tU f n):=Hj f n n 0 Sg (fun j hj=>absurd hj (qAX j))
theorem Gb q r a a' cap cap' N l m w(aH:Bs w a cap l)(LA:Bs w a' cap' m)(hN1:N<=l.length)(hN2:N<=m.length)(hq:w.cell? (zp q)=some (.slice a l.length cap))(hr:w.cell? (zp r)=some (.slice a' m.length cap')) :
  zC 196 #[zi N,.func (.func 321) #[] #[zq q,zq r]] w fun e w'=>∃i:Nat,e=.returned (zi i)/\cd (fun j=>(l.getD j 0 != m.getD j 0)) N i/\∃n,w'=w.drewN n:=by
 have hl:=aH.2.2.1;go_enter func196,ntmps196
 go_wp2;go_loopw [5] (fun i wr=>∃k n:Nat,k<=N/\i=zi k/\wr=w.drewN n/\∀j,j<k->(l.getD j 0 != m.getD j 0)=false) (fun i _=>N-(intOf i).toNat)
 case atStart=>exact zpP
 case round =>
  obtain⟨k,n,hk,rfl,rfl,bQ⟩:=hrel;have HA:Hid (∀j,j<k->(l.getD j 0 != m.getD j 0)=false):=bQ;clear bQ;by_cases aB:k<N
  ·have mx:=XN q r a a' cap cap' l m k (w.drewN n) (aH.drewN n) (LA.drewN n) Sg Sg hq hr;have HC:=ae mx;cases hb:(l.getD k 0 != m.getD k 0)
   ·have HB:=ae hb;rw[hb]at HC;go_wp2_with (go_at_call 321;refine HC.mono ?_;rintro e w' ⟨rfl,n',rfl⟩)
    go_roundw
    case rel=>exact⟨k+1,_,Sg,Tc,rfl,cd.step HA.out HB⟩
    case measure=>exact Te
   ·have HB:=ae hb;rw[hb]at HC;go_wp2_with (go_at_call 321;refine HC.mono ?_;rintro e w' ⟨rfl,n',rfl⟩)
    go_ret;exact⟨k,rfl,⟨Sg,HA.out,fun _=>HB⟩,_,rfl⟩
  ·go_wp2;go_ret;exact⟨k,rfl,⟨Sg,HA.out,fun h=>absurd h aB⟩,_,rfl⟩
theorem N9 s w(hs:s.size<=140737488351232)(h:¬(1<=s.size/\s.size<=8)) :
  zC 139 #[.string s] w (zr (.tuple #[.slice none 0 0,.iface 105 (zi 2)]) fun w'=>zB w w'):=by
 by_cases h1:1<=s.size
 ·have h2:¬s.size<=8:=by omega
  exact PX
 ·exact PX
theorem sJ q s w(hs:s.size<=140737488351232)(hq:w.cell? (zp q)=some (.string s)) i(hi:cd (fun j=>(!nR ((c7 s).getD j 0))) s.size i) :
  zC 196 #[zi s.size,.func (.func 197) #[] #[zq q]] w (zr (zi i) fun w'=>w'=w ):=
 (Hr q s w hs hq).mono fun e w' ⟨k,he,hk,hw⟩=>⟨zlX,hw.symm⟩
theorem Ta s w(h1:1<=s.size)(h2:s.size<=8) i(hi:cd (fun j=>(!nR ((c7 s).getD j 0))) s.size i)(aB:i<s.size) :
  zC 139 #[.string s] w (zr (.tuple #[.slice none 0 0,.iface 105 (zi 2)]) fun w'=>zB w w'):=by
 have HI:=ae hi;go_enter func139,ntmps139
 go_wp2;go_quiet ((go_at_call 196;exact Calls.quiet_of_same (sJ _ s _ Sg Sk i HI)))
 go_wp2;go_ret2;exact⟨rfl,below_drewN (zBr.alloc zNr _) _⟩
def bH(s:BA):LI:=c7 s++(af 8).drop s.size
theorem Ci s w(h1:1<=s.size)(h2:s.size<=8)(hi:cd (fun j=>(!nR ((c7 s).getD j 0))) s.size s.size) :
  zC 139 #[.string s] w fun e w'=>∃g,e=zt #[.slice (zo g) 8 8,.nilIface]/\w.heap.size<=g/\gz w' g (bH s)/\zB w w':=by
 have HI:=ae hi;clear hi;obtain⟨i0,hi,cO,cU,cV⟩:=qAO dw;have l9:∀w1 g,gz w1 g (af 8)->Sem.run prog (Builtin.copy_ #[29,9] 3 #[.slice (zo g) 8 8,.string s]) w1=.ok (zi s.size) (fj w1 g (bH s)) :=fun w1 g h5=>Ky w1 _ _ _ underlying29 aT g 8 8 s _ (ag _) h5 h2
 go_enter func139,ntmps139
 go_wp2;go_quiet ((go_at_call 196;exact Calls.quiet_of_same (sJ _ s _ Sg Sk s.size HI)))
 go_wp2_with (at_make;refine bV rfl _ _ 29 rfl i0 underlying29 hi cO cU cV _ _ _ _ 8 rfl rfl rfl rfl Sg ?_;intro w1 kF fQ ay;have CX:w1.cell? (zp w.heap.size)=some (.string s):=(by rw[ay.cell Sk];simp);have fR:=zgy)
 go_ret2;have aK:=(below_drewN (zBr.alloc zNr _) _).trans (ay.mono Sk);exact⟨_,rfl,Sg,kr fR _,e8 _ aK Sg⟩
theorem cE s(h:s.size<=8):(bH s).length=8:=by simp[bH,bY,ag];omega
theorem xy s:bZ (bH s):=by
 intro z hz;rcases zMa hz with h|h
 ·exact AD s z h
 ·exact cI 8 z (qBF h)
theorem PR a len cap w(hl:len<=140737488351232)(h:¬len=8) :
  zC 235 #[.slice a len cap] w (zr (.tuple #[.string ByteArray.empty,.iface 105 (zi 3)]) fun w'=>zB w w'):=by
 have aG:((len:Int) != 8)=true:=Tb;go_enter func235,ntmps235
 go_wp2;go_ret2;exact⟨rfl,zBr.alloc zNr _⟩
theorem mg q a cap n l w(hn:l.length=n)(aH:Bs w a cap l)(hq:w.cell? (zp q)=some (.slice a n cap)) i(hi:cd (fun j=>(!nR (l.getD j 0))) l.length i) :
  zC 196 #[zi n,.func (.func 286) #[] #[zq q]] w (zr (zi i) fun w'=>w=w'):=by
 subst hn;exact(Gd q a cap l w aH hq).mono fun e w' ⟨k,he,hk,hw⟩=>⟨zlX,hw⟩
theorem mf q a cap n l w(hn:l.length=n)(aH:Bs w a cap l)(hq:w.cell? (zp q)=some (.slice a n cap)) i(hi:cd (fun j=>(l.getD j 0 != 0)) l.length i) :
  zC 196 #[zi n,.func (.func 287) #[] #[zq q]] w (zr (zi i) fun w'=>w=w'):=by
 subst hn;exact(Gc q a cap l w aH hq).mono fun e w' ⟨k,he,hk,hw⟩=>⟨zlX,hw⟩
theorem LG a cap l w(aH:Bs w a cap l)(h8:l.length=8) i z(hi:cd (fun j=>(!nR (l.getD j 0))) l.length i)(hz:cd (fun j=>((l.drop i).getD j 0 != 0)) (l.drop i).length z)(h0:i=0) :
  zC 235 #[.slice a l.length cap] w (zr (.tuple #[.string ByteArray.empty,.iface 105 (zi 2)]) fun w'=>zB w w'):=by
 have hi8:=hi.1;have hl:l.length<=140737488351232:=Sg;have mS:((l.length:Int) != 8)=false:=Tb;obtain⟨a2,lE,gy⟩:=iy underlying29 aT aH i Sg;have gw:((i:Int) == 0)=true:=by simp[h0]
 exact fe
theorem LJ a cap l w(aH:Bs w a cap l)(h8:l.length=8) i z(hi:cd (fun j=>(!nR (l.getD j 0))) l.length i)(hz:cd (fun j=>((l.drop i).getD j 0 != 0)) (l.drop i).length z)(h0:¬i=0)(aB:z<l.length-i) :
  zC 235 #[.slice a l.length cap] w (zr (.tuple #[.string ByteArray.empty,.iface 105 (zi 2)]) fun w'=>zB w w'):=by
 have hi8:=hi.1;have hl:l.length<=140737488351232:=Sg;have mS:((l.length:Int) != 8)=false:=Tb;obtain⟨a2,lE,gy⟩:=iy underlying29 aT aH i Sg;have gw:((i:Int) == 0)=false:=by simp[h0]
 exact fe
theorem Cx a cap l w(aH:Bs w a cap l)(h8:l.length=8) i z(hi:cd (fun j=>(!nR (l.getD j 0))) l.length i)(hz:cd (fun j=>((l.drop i).getD j 0 != 0)) (l.drop i).length z)(h0:¬i=0)(mi:l.length-i<=z) :
  zC 235 #[.slice a l.length cap] w (zr (.tuple #[.string (strOf (l.take i)),.nilIface]) fun w'=>zB w w'):=by
 have hi8:=hi.1;have hl:l.length<=140737488351232:=Sg;have mS:((l.length:Int) != 8)=false:=Tb;obtain⟨a2,lE,gy⟩:=iy underlying29 aT aH i Sg;have gw:((i:Int) == 0)=false:=by simp[h0]
 obtain⟨a3,hsh,nV⟩:=jK underlying29 aT aH i Sg;have hcv:=fun o1 o2=>jX (P:=prog) (t:=29) (e:=9) underlying29 underlying5 underlying9 (nV.below (w':=(w.alloc o1).alloc o2) ((zBr.alloc zNr _).alloc Sk _))
 rw[show(l.take i).length=i from Tb]at hcv;exact fe
def iW(s:BA):Prop:=1<=s.size/\s.size<=8/\cd (fun j=>(!nR ((c7 s).getD j 0))) s.size s.size
theorem lS s w(hs:s.size<=140737488351232)(h:¬iW s) :
  zC 139 #[.string s] w (zr (.tuple #[.slice none 0 0,.iface 105 (zi 2)]) fun w'=>zB w w'):=by
 by_cases h1:1<=s.size/\s.size<=8
 ·have hf:=bS (fun j=>(!nR ((c7 s).getD j 0))) s.size;by_cases h2:tU (fun j=>(!nR ((c7 s).getD j 0))) s.size<s.size
  ·exact Ta s w h1.1 h1.2 _ hf h2
  ·exact KO
 ·exact N9 s w hs h1
theorem zN s j(h:j<s.size):(bH s).getD j 0=(c7 s).getD j 0:=by
 have h':j<(c7 s).length:=by rw[bY];exact h
 simp[bH,List.getD,qAZ h']
theorem EJ s:(bH s).drop s.size=(af 8).drop s.size:=by unfold bH;rw[qCX zeR];rw[qAr zeR];simp
theorem mz n k j:((af n).drop k).getD j 0=0:=by
 by_cases h:j<n-k
 ·simp[af,List.getD,h]
 ·simp[af,List.getD];rw[qAY Tb];rfl
theorem zO s j(h:s.size<=j):(bH s).getD j 0=0:=by
 have h1:(bH s).getD j 0=((bH s).drop s.size).getD (j-s.size) 0:=by simp[List.getD];rw[show s.size+(j-s.size)=j from Sg]
 rw[h1,EJ,mz]
theorem qQ s(h:iW s):cd (fun j=>(!nR ((bH s).getD j 0))) (bH s).length s.size:=by
 rw[cE s h.2.1];refine⟨h.2.1,fun j hj=>?_,fun _=>?_⟩
 ·have:=h.2.2.2.1 j hj
  show(!nR ((bH s).getD j 0))=false
  rw[zN s j hj];exact this
 ·show(!nR ((bH s).getD s.size 0))=true
  rw[zO s s.size zNr];rfl
theorem qP s(h:s.size<=8):cd (fun j=>(((bH s).drop s.size).getD j 0 != 0)) ((bH s).drop s.size).length (8-s.size):=by
 have hlen:((bH s).drop s.size).length=8-s.size:=by simp[cE s h]
 rw[hlen];refine⟨zNr,fun j hj=>?_,fun hh=>absurd hh (qBd _)⟩
 show(((bH s).drop s.size).getD j 0 != 0)=false
 rw[EJ,mz];rfl
theorem yy s:strOf ((bH s).take s.size)=s:=by unfold bH;rw[qAy zeR];rw[qAP zeR];exact tm s
theorem IV a a' cap cap' l m w(aH:Bs w a cap l)(LA:Bs w a' cap' m) :
  zC 288 #[.slice a l.length cap,.slice a' m.length cap'] w fun e w'=>∃i:Nat,e=.returned (zi i)/\cd (fun j=>(l.getD j 0 != m.getD j 0)) (min l.length m.length) i/\zB w w':=by
 by_cases aB:m.length<l.length
 ·rw[qDL (Nat.le_of_lt aB)];go_enter func288,ntmps288
  go_wp2_with fail
  refine(Gb _ _ a a' cap cap' m.length l m _ (aH.below ((zBr.alloc zNr _).alloc Sk _)) (LA.below ((zBr.alloc zNr _).alloc Sk _)) Sg Sg Sk Sk).mono ?_;exact zmh
 ·rw[qBr Sg];go_enter func288,ntmps288
  go_wp2_with fail
  refine(Gb _ _ a a' cap cap' l.length l m _ (aH.below ((zBr.alloc zNr _).alloc Sk _)) (LA.below ((zBr.alloc zNr _).alloc Sk _)) Sg Sg Sk Sk).mono ?_;exact zmh
