/-
  Parts of the proofs.
-/
import Derived.Test.YtcimhnnendlblaaGreatJNum
import Derived.OwnWalk
import Derived.Deep.RegionLaw
import Derived.Laws.Strings
set_option maxRecDepth 100000
set_option maxHeartbeats 16000000
set_option linter.all false
namespace Go.Proofs.YtcimhnnendlblaaGreat
section
open Go.RowKit
def side(n:Int):List Int:=putK (ag 4) 0 n 4
theorem cE(n:Int):(side n).length=4:=by unfold side;rw [cQ,aj]
theorem Bi(n:Int):bj (side n):=qW (bW 4) 0 n 4
def cV(n:Int)(b:List Int):List Int:=splice (splice (splice (ag 32) 0 (side n)) 4 b) 28 (side n)
theorem gg(n:Int)(b:List Int)(h:b.length<=24):(cV n b).length=32:=by
 have h1:(splice (ag 32) 0 (side n)).length=32:=by rw [length_splice _ _ _ (by rw [cE,aj];decide),aj]
 have h2:(splice (splice (ag 32) 0 (side n)) 4 b).length=32:=by rw [length_splice _ _ _ (by rw [h1];omega),h1]
 unfold cV;rw [length_splice _ _ _ (by rw [cE,h2];decide),h2]
theorem qV(n:Int)(b:List Int)(hb:bj b):bj (cV n b):=bN (bN (bN (bW 32) (Bi n)) hb) (Bi n)
theorem Jf(n:Int)(a:Option Addr)(cap:Nat)(b:List Int)(w:World)(hb:Bs w a cap b)(h1:¬ n<1)(h2:¬ 4294967295<n)(h3:b.length<=24) :
  Calls Tryz.prog 190 #[.int .i64 n,.slice a b.length cap] w fun e w'=>∃ g,e=.returned (.tuple #[.slice (some ⟨g,0,none⟩) 32 32,.nilIface])/\w.heap.size<=g/\fH w' g (cV n b)/\Below w.heap.size w w':=by
 obtain⟨i0,eP,cY,dw,dz⟩:=info_parts dQ;have HB:=af hb;clear hb;go_enter Tryz.func190,Tryz.ntmps190
 go_wp2_with (at_make;refine bE rfl _ _ 30 rfl i0 zu30 eP cY dw dz _ _ _ _ 4 rfl rfl rfl rfl (by omega) ?_)
 intro w1 wJ gP ay;have mo:=ue (some ⟨w.heap.size,0,none⟩) 4 (ag 4) 0 4 n w1 (by have:=wJ.bs (bW 4) (by rw [aj];decide);rwa [aj] at this) (by decide) (by decide) (by omega) (by show ¬ (4294967295:Int)<n;omega) (by rw [aj];decide);rw [aj,show((0:Nat):Int)=0 from rfl,show((4:Nat):Int)=4 from rfl] at mo;have HP:=af mo;have vr:=af ay;clear mo wJ ay;go_wp2_with fail
 refine(ae HP).mono ?_;rintro e w2 ⟨gs,rfl,GS,hks,aK⟩;have ao:Below w.heap.size w w2:=zTs vr aK;have hBs:Bs w2 (some ⟨gs,0,none⟩) 4 (side n):=by have:=fH.bs (l:=side n) hks (Bi n) (by rw [cE];decide);rwa [cE] at this
 have nC:=af hBs;have GZ:=af ao;clear ao hBs hks aK HP vr;go_wp2_with (at_make;refine bE rfl _ _ 30 rfl i0 zu30 eP cY dw dz _ _ _ _ 32 rfl rfl rfl rfl (by omega) ?_)
 intro w3 GR oq bR;have nE:Below w.heap.size w w3:=zTs GZ bR;have hg:w.heap.size<=w2.heap.size:=(ae GZ).size;have q0:Bs w3 (some ⟨gs,0,none⟩) 4 (side n):=(ae nC).below bR;have gl:gs<w2.heap.size:=by obtain⟨b',o',e',hc⟩:=(ae nC).2.2.2.2 (by intro e;have:=cE n;rw [e] at this;cases this);have:=block_lt_of_cell (hc 0 (by rw [cE];decide));simp at e';obtain⟨rfl,rfl⟩:=e';exact this
 obtain⟨X1,Td⟩:∃ X1,X1=splice (ag 32) 0 (side n):=⟨_,rfl⟩;obtain⟨X2,X8⟩:∃ X2,X2=splice X1 4 b:=⟨_,rfl⟩;obtain⟨X3,hX3⟩:∃ X3,X3=splice X2 28 (side n):=⟨_,rfl⟩;have l1:X1.length=32:=by rw [Td,length_splice _ _ _ (by rw [cE,aj];decide),aj]
 have l2:X2.length=32:=by rw [X8,length_splice _ _ _ (by rw [l1];omega),l1]
 have k1:fH (ei w3 w2.heap.size X1) w2.heap.size X1:=ix GR X1;have k2:fH (ei (ei w3 w2.heap.size X1) w2.heap.size X2) w2.heap.size X2:=ix k1 X2;have k3:fH (ei (ei (ei w3 w2.heap.size X1) w2.heap.size X2) w2.heap.size X3) w2.heap.size X3:=ix k2 X3;have b1:Below w2.heap.size w2 (ei w3 w2.heap.size X1):=dW _ bR zNr;have b2:Below w2.heap.size w2 (ei (ei w3 w2.heap.size X1) w2.heap.size X2):=dW _ b1 zNr;have b3:Below w2.heap.size w2 (ei (ei (ei w3 w2.heap.size X1) w2.heap.size X2) w2.heap.size X3):=dW _ b2 zNr;obtain⟨d4,e4,f4⟩:=Qf (P:=Tryz.prog) (t:=30) zu30 aN w2.heap.size 4 28 rfl;obtain⟨d28,e28,f28⟩:=Qf (P:=Tryz.prog) (t:=30) zu30 aN w2.heap.size 28 4 rfl;have c1:=mT (P:=Tryz.prog) w3 30 30 3 zu30 aN w2.heap.size 0 32 32 (some ⟨w2.heap.size,0,none⟩) _ 4 (ag 32) (side n) (by rw [cE];decide) (fun _=>rfl) (by rw [cE,aj];decide) GR q0;have c2:=mT (P:=Tryz.prog) (ei w3 w2.heap.size X1) 30 30 3 zu30 aN w2.heap.size 4 28 28 d4 a cap X1 b (by omega) (fun _=>f4 (by decide)) (by rw [l1];omega) k1 ((ae HB).below ((ae GZ).trans (b1.mono hg)));have c3:=mT (P:=Tryz.prog) (ei (ei w3 w2.heap.size X1) w2.heap.size X2) 30 30 3 zu30 aN w2.heap.size 28 4 4 d28 _ 4 X2 (side n) (by rw [cE];decide) (fun _=>f28 (by decide)) (by rw [cE,l2];decide) k2 ((ae nC).below b2);rw [<- Td] at c1;rw [<- X8] at c2;rw [<- hX3] at c3;rw [cE,show((4:Nat):Int)=4 from rfl] at c1 c3;rw [show((4:Nat):Int)=4 from rfl] at e4;rw [show((28:Nat):Int)=28 from rfl] at e28;have uQ:X3=cV n b:=by rw [hX3,X8,Td];rfl
 have HF:=af uQ;have HK3:=af k3;have cT:=af ((ae GZ).trans (b3.mono hg));have hgg:=hg;clear uQ k1 k2 k3 b1 b2 b3 l1 l2 Td X8 hX3 q0 gl bR GR nE GZ nC f4 f28 oq gP;go_wp2;go_ret2;exact⟨_,rfl,hgg,by rw [<- ae HF];exact ae HK3,ae cT⟩
def gL(n:Int)(b:List Int):List Int×Int:=if n<1\/4294967295<n then ([],1) else if 24<b.length then ([],4) else (cV n b,0)
theorem Mi(a:Option Addr)(len cap:Nat)(w:World)(h:len≠32) :
  Calls Tryz.prog 241 #[.slice a len cap] w fun e w'=>e=.returned (.tuple #[.int .i64 0,.slice none 0 0,aR 3])/\w=w':=by
 have h':¬ (len:Int)=32:=by omega
 clear h;go_enter Tryz.func241,Tryz.ntmps241
 go_wp2;go_ret3;exact⟨rfl,rfl⟩
theorem Ry(a:Option Addr)(cap:Nat)(l:List Int)(w:World)(hb:Bs w a cap l)(hl:l.length=32)(h1:bz l 0 4=0)(h2:bz l 28 4=0) :
  Calls Tryz.prog 241 #[.slice a l.length cap] w fun e w'=>e=.returned (.tuple #[.int .i64 0,.slice none 0 0,aR 5])/\w=w':=by
 have g1:=jA a cap l 0 4 w hb (by decide) (by decide) (by decide) (by omega);have g2:=jA a cap l 28 4 w hb (by decide) (by decide) (by decide) (by omega);rw [show(28:Int).toNat=28 from rfl,show(4:Int).toNat=4 from rfl,h2] at g2;rw [show(0:Int).toNat=0 from rfl,show(4:Int).toNat=4 from rfl,h1] at g1;rw [hl] at g1 g2 ⊢;have G1:=af g1;have G2:=af g2;clear g1 g2 h1 h2 hl hb;go_enter Tryz.func241,Tryz.ntmps241
 go_wp2_with fail
 refine(ae G1).mono ?_;rintro e w1 ⟨rfl,rfl⟩;go_wp2_with fail
 refine(ae G2).mono ?_;rintro e w1 ⟨rfl,rfl⟩;go_wp2;go_ret3;exact⟨rfl,rfl⟩
theorem Mh(a:Option Addr)(cap:Nat)(l:List Int)(w:World)(hb:Bs w a cap l)(hl:l.length=32)(h:bz l 0 4≠bz l 28 4) :
  Calls Tryz.prog 241 #[.slice a l.length cap] w fun e w'=>e=.returned (.tuple #[.int .i64 0,.slice none 0 0,aR 6])/\w=w':=by
 have g1:=jA a cap l 0 4 w hb (by decide) (by decide) (by decide) (by omega);have g2:=jA a cap l 28 4 w hb (by decide) (by decide) (by decide) (by omega);rw [show(28:Int).toNat=28 from rfl,show(4:Int).toNat=4 from rfl] at g2;rw [show(0:Int).toNat=0 from rfl,show(4:Int).toNat=4 from rfl] at g1;rw [hl] at g1 g2 ⊢;have G1:=af g1;have G2:=af g2;generalize bz l 0 4=x at *;generalize bz l 28 4=y at *;clear g1 g2 hl hb;by_cases h0:x=0
 ·have h9:¬ y=0:=fun e=>h (by rw [h0,e])
  have h8:¬ (0:Int)=y:=fun e=>h9 e.symm
  subst h0;clear h;go_enter Tryz.func241,Tryz.ntmps241
  go_wp2_with fail
  refine(ae G1).mono ?_;rintro e w1 ⟨rfl,rfl⟩;go_wp2_with fail
  refine(ae G2).mono ?_;rintro e w1 ⟨rfl,rfl⟩;go_wp2;go_ret3;exact⟨rfl,rfl⟩
 ·go_enter Tryz.func241,Tryz.ntmps241
  go_wp2_with fail
  refine(ae G1).mono ?_;rintro e w1 ⟨rfl,rfl⟩;go_wp2_with fail
  refine(ae G2).mono ?_;rintro e w1 ⟨rfl,rfl⟩;go_wp2;go_ret3;exact⟨rfl,rfl⟩
theorem VM(a:Option Addr)(cap:Nat)(l:List Int)(w:World)(hb:Bs w a cap l)(hl:l.length=32)(h:bz l 0 4=bz l 28 4)(h0:¬ bz l 0 4=0) :
  Calls Tryz.prog 241 #[.slice a l.length cap] w fun e w'=>∃ g,e=.returned (.tuple #[.int .i64 (bz l 0 4),.slice (some ⟨g,0,none⟩) 24 24,.nilIface])/\w.heap.size<=g/\fH w' g ((l.drop 4).take 24)/\Below w.heap.size w w':=by
 obtain⟨i0,eP,cY,dw,dz⟩:=info_parts dQ;have g1:=jA a cap l 0 4 w hb (by decide) (by decide) (by decide) (by omega);have g2:=jA a cap l 28 4 w hb (by decide) (by decide) (by decide) (by omega);rw [show(28:Int).toNat=28 from rfl,show(4:Int).toNat=4 from rfl,<- h] at g2;rw [show(0:Int).toNat=0 from rfl,show(4:Int).toNat=4 from rfl] at g1;obtain⟨a4,hcut,aX⟩:=eU (P:=Tryz.prog) (t:=30) zu30 aN hb 4 28 (by decide) (by omega);rw [hl] at g1 g2 hcut ⊢;rw [show((4:Nat):Int)=4 from rfl,show((28:Nat):Int)=28 from rfl,show 28-4=24 from rfl] at hcut;rw [show 28-4=24 from rfl] at aX;have lR:((l.drop 4).take 24).length=24:=by simp;omega
 generalize bz l 0 4=x at *;generalize (l.drop 4).take 24=L at *;have nj:∀ w1,fH w1 w.heap.size (ag 24)->Bs w1 a4 (cap-4) L->Sem.run Tryz.prog (Builtin.copy_ #[30,30] 3 #[.slice (some ⟨w.heap.size,0,none⟩) 24 24,.slice a4 24 (cap-4)]) w1=.ok (.int .i64 24) (ei w1 w.heap.size L):=fun w1 h5 h6=>by have:=mS (P:=Tryz.prog) w1 30 30 3 zu30 aN w.heap.size 24 a4 (cap-4) (ag 24) L (by rw [aj,lR]) h5 h6;rw [lR] at this;exact this
 have G1:=af g1;have G2:=af g2;have nC:=af aX;clear g1 g2 hl hb h aX lR;go_enter Tryz.func241,Tryz.ntmps241
 go_wp2_with fail
 refine(ae G1).mono ?_;rintro e w1 ⟨rfl,rfl⟩;go_wp2_with fail
 refine(ae G2).mono ?_;rintro e w1 ⟨rfl,rfl⟩;go_wp2_with (at_make;refine bE rfl _ _ 30 rfl i0 zu30 eP cY dw dz _ _ _ _ 24 rfl rfl rfl rfl (by omega) ?_)
 intro w1 wJ gP ay;have hc:=nj w1 wJ ((ae nC).below ay);have HK:=af (ix wJ L);have vr:=af (dW L ay zNr);clear nj wJ ay gP nC;go_wp2;go_ret3;exact⟨_,rfl,zNr,ae HK,ae vr⟩
def cg(l:List Int):Int×List Int×Int :=if l.length≠32 then (0,[],3) else if bz l 0 4≠bz l 28 4 then (0,[],6) else if bz l 0 4=0 then (0,[],5) else (bz l 0 4,(l.drop 4).take 24,0)
def zdg(w:World)(n:Int)(L:List Int)(x:Value)(e:Ending)(w':World):Prop :=∃ a cap,e=.returned (.tuple #[.int .i64 n,.slice a L.length cap,x])/\Bs w' a cap L/\Below w.heap.size w w'
theorem wW{w:World}{n:Int}{x:Value}{e:Ending}{w':World}(he:e=.returned (.tuple #[.int .i64 n,.slice none 0 0,x]))(hw:w=w'):zdg w n [] x e w' :=⟨none,0,he,eC _,by rw [hw];exact zBr⟩
theorem VO(a:Option Addr)(cap:Nat)(l:List Int)(w:World)(hb:Bs w a cap l) :
  Calls Tryz.prog 241 #[.slice a l.length cap] w (zdg w (cg l).1 (cg l).2.1 (aR (cg l).2.2)):=by
 unfold cg;by_cases h:l.length≠32
 ·rw [if_pos h];exact(Mi a l.length cap w h).mono fun e w' ⟨he,hw⟩=>wW he hw
 ·rw [if_neg h];have hl:l.length=32:=by omega
  by_cases h2:bz l 0 4≠bz l 28 4
  ·rw [if_pos h2];exact(Mh a cap l w hb hl h2).mono fun e w' ⟨he,hw⟩=>wW he hw
  ·rw [if_neg h2];have h3:bz l 0 4=bz l 28 4:=by omega
   by_cases h4:bz l 0 4=0
   ·rw [if_pos h4];exact(Ry a cap l w hb hl h4 (by omega)).mono fun e w' ⟨he,hw⟩=>wW he hw
   ·rw [if_neg h4];have lR:((l.drop 4).take 24).length=24:=by simp;omega
    refine(VM a cap l w hb hl h3 h4).mono fun e w' ⟨g,he,_,hk,ao⟩=>⟨some ⟨g,0,none⟩,24,?_,?_,ao⟩
    ·rw [he,lR];rfl
    ·have:=fH.bs hk (hb.1.sub 4 24) (by rw [lR];decide);rwa [lR] at this
def kX(l m:List Int)(c:Nat):List Int:=l.take c++m.drop c
theorem Jk(l m:List Int)(c:Nat)(hl:l.length=32)(hm:m.length=32)(hc:c<=32):(kX l m c).length=32:=by simp [kX];omega
theorem Y0{l m:List Int}(hl:bj l)(hm:bj m)(c:Nat):bj (kX l m c):=by
 intro z hz;rcases zMa hz with h | h
 ·exact hl z (List.mem_of_mem_take h)
 ·exact hm z (List.mem_of_mem_drop h)
theorem xA(n k:Nat):(ag n).drop k=ag (n-k):=by simp [ag]
theorem G5(n k:Nat)(h:k<=n):(ag n).take k=ag k:=by simp [ag,Nat.min_eq_left h]
theorem Fl(n:Int)(b:List Int)(h:b.length<=24):cV n b=side n++((b++ag (24-b.length))++side n):=by
 have hs:=cE n;have e1:splice (ag 32) 0 (side n)=side n++ag 28:=by unfold splice;rw [hs,xA];rfl
 have e2:splice (side n++ag 28) 4 b=side n++(b++ag (28-b.length)):=by
  unfold splice;rw [List.take_append_of_le_length (by omega),List.take_of_length_le (by omega),List.drop_append,hs,List.drop_eq_nil_of_le (by omega),List.nil_append,xA]
  congr 3
  omega
 have l3:(side n++(b++ag (28-b.length))).length=32:=by simp [hs,ag];omega
 unfold cV;rw [e1,e2];unfold splice;rw [List.drop_eq_nil_of_le (by rw [l3,hs];decide),List.append_nil];have e3:(side n++(b++ag (28-b.length))).take 28=side n++(b++ag (24-b.length)):=by rw [List.take_append,hs,List.take_of_length_le (by omega),List.take_append,List.take_of_length_le (by omega),G5 _ _ (by omega)]
 rw [e3,List.append_assoc]
theorem jY(n:Int)(h1:1<=n)(h2:n<=4294967295):numOf (side n)=n:=by have h:=qQ (ag 4) 0 n 4 (by decide) (by decide) (by omega) (by show n<=4294967295;exact h2) (by rw [aj];decide);unfold bz at h;rw [List.drop_zero,List.take_of_length_le (by rw [cQ,aj];decide)] at h;exact h
theorem sX(n:Int)(b:List Int)(h:b.length<=24):(cV n b).take 4=side n:=by rw [Fl n b h,List.take_append_of_le_length (by rw [cE];decide),List.take_of_length_le (by rw [cE];decide)]
theorem CU(n:Int)(b:List Int)(h:b.length<=24):(cV n b).drop 28=side n:=by
 have hs:=cE n;have l1:(b++ag (24-b.length)).length=24:=by simp [ag];omega
 rw [Fl n b h,List.drop_append,hs,List.drop_eq_nil_of_le (by omega),List.nil_append,List.drop_append,l1,List.drop_eq_nil_of_le (by omega),List.nil_append];rfl
theorem Q9(n:Int)(b:List Int)(h:b.length<=24):((cV n b).drop 4).take 24=b++ag (24-b.length):=by
 have hs:=cE n;have l1:(b++ag (24-b.length)).length=24:=by simp [ag];omega
 rw [Fl n b h,List.drop_append,hs,List.drop_eq_nil_of_le (by omega),List.nil_append]
 show(List.take 24 ((b++ag (24-b.length))++side n))=_
 rw [List.take_append_of_le_length (by omega),List.take_of_length_le (by omega)]
theorem pB(l:List Int):bz l 0 4=numOf (l.take 4):=by unfold bz;rw [List.drop_zero]
theorem wQ(l:List Int)(h:l.length=32):bz l 28 4=numOf (l.drop 28):=by unfold bz;rw [List.take_of_length_le (by simp;omega)]
theorem lD(n:Int)(b:List Int)(h1:1<=n)(h2:n<=4294967295)(h:b.length<=24):cg (cV n b)=(n,b++ag (24-b.length),0):=by
 have hl:=gg n b h;have e1:bz (cV n b) 0 4=n:=by rw [pB,sX n b h,jY n h1 h2]
 have e2:bz (cV n b) 28 4=n:=by rw [wQ _ hl,CU n b h,jY n h1 h2]
 unfold cg;rw [if_neg (by omega),e1,e2,if_neg (by omega),if_neg (by omega),Q9 n b h]
theorem vY:∀ {l m:List Int},l.length=m.length->bj l->bj m->numOf l=numOf m->l=m
 | [],[],_,_,_,_=>rfl
 | x :: l,y :: m,hlen,hl,hm,h=>by
  have h':x+256 * numOf l=y+256 * numOf m:=h;have hx:=hl x (List.mem_cons_self ..);have hy:=hm y (List.mem_cons_self ..);have e1:x=y:=by omega
  have e2:numOf l=numOf m:=by omega
  rw [e1,vY (by simpa using hlen) (fun z hz=>hl z (List.mem_cons_of_mem _ hz)) (fun z hz=>hm z (List.mem_cons_of_mem _ hz)) e2]
theorem bK{X Y:List Int}(hx:X.length=32)(hy:Y.length=32)(fx:X.take 4=X.drop 28)(fy:Y.take 4=Y.drop 28)(aO:X.take 4≠Y.take 4){c:Nat}(hc:c<=32)
  (hz:(kX X Y c).take 4=(kX X Y c).drop 28):kX X Y c=X\/kX X Y c=Y:=by
 have lx:(X.take c).length=c:=by simp;omega
 have zt:∀ k,k<=c->(kX X Y c).take k=X.take k:=fun k hk=>by unfold kX;rw [List.take_append_of_le_length (by omega),List.take_take,Nat.min_eq_left hk]
 have zd:∀ k,c<=k->(kX X Y c).drop k=Y.drop k:=fun k hk=>by
  unfold kX;rw [List.drop_append,lx,List.drop_eq_nil_of_le (by omega),List.nil_append,List.drop_drop]
  congr 1
  omega
 by_cases h:c<=28
 ·rw [zd 28 h,<- fy] at hz;by_cases h4:4<=c
  ·rw [zt 4 h4] at hz;exact absurd hz aO
  ·right;have h1:(kX X Y c).take c=Y.take c:=by have:=congrArg (List.take c) hz;rwa [List.take_take,List.take_take,Nat.min_eq_left (by omega)] at this
   rw [<- List.take_append_drop c (kX X Y c),h1,zd c zNr,List.take_append_drop]
 ·left;rw [zt 4 (by omega),fx] at hz;have h1:X.drop c=(kX X Y c).drop c:=by have:=congrArg (List.drop (c-28)) hz;rwa [List.drop_drop,List.drop_drop,show 28+(c-28)=c by omega] at this
  rw [<- List.take_append_drop c (kX X Y c),zt c zNr,<- h1,List.take_append_drop]
theorem QS{X Y:List Int}(hx:X.length=32)(hy:Y.length=32)(bx:bj X)(by':bj Y)(fx:X.take 4=X.drop 28)(fy:Y.take 4=Y.drop 28)(aO:X.take 4≠Y.take 4){c:Nat}(hc:c<=32)
  (ho:(cg (kX X Y c)).2.2=0):kX X Y c=X\/kX X Y c=Y:=by
 have hl:=Jk X Y c hx hy hc;have hb:=Y0 bx by' c;refine bK hx hy fx fy aO hc ?_;have he:bz (kX X Y c) 0 4=bz (kX X Y c) 28 4:=by
  unfold cg at ho;rw [if_neg (by omega)] at ho;by_cases h2:bz (kX X Y c) 0 4≠bz (kX X Y c) 28 4
  ·rw [if_pos h2] at ho;cases ho
  ·omega
 rw [pB,wQ _ hl] at he;exact vY (by simp;omega) (fun z hz=>hb z (List.mem_of_mem_take hz)) (fun z hz=>hb z (List.mem_of_mem_drop hz)) he
theorem Fh{n:Int}(h1:1<=n)(h2:n<=4294967295):side n≠(ag 32).take 4:=fun e=>by have:=jY n h1 h2;rw [e] at this;have h0:numOf ((ag 32).take 4)=0:=rfl;omega
end
def kS(l:List Int):Prop:=l.length=32/\bj l
structure DS where
 secs:List (List Int)
 mem:List (Nat×List Int)
 left:Int
 down:Bool
structure DS.Ok (D:DS):Prop where
 len:D.secs.length<=300
 sec:∀ s∈D.secs,kS s
 mem:∀ p∈D.mem,p.1<D.secs.length/\kS p.2
 apart:(D.mem.map (·.1)).Nodup
 left:-9223372036854775808<=D.left/\D.left<=9223372036854775807
def memPut:List (Nat×List Int)->Nat->List Int->List (Nat×List Int)
 | [],i,b=>[(i,b)]
 | (j,c) :: r,i,b=>if j=i then (i,b) :: r else (j,c) :: memPut r i b
def DS.rd(D:DS)(i:Nat):List Int:=(D.mem.lookup i).getD (D.secs.getD i [])
theorem gw{m:List (Nat×List Int)}{i:Nat}{b:List Int}(h:m.lookup i=some b):(i,b)∈m:=by
 induction m with
 | nil=>simp at h
 | cons p r ih =>
  obtain⟨j,c⟩:=p;simp only [List.lookup_cons] at h;split at h
  ·rename_i e
   simp at e h;subst e;subst h;simp
  ·exact List.mem_cons_of_mem _ (ih h)
theorem gV{m:List (Nat×List Int)}{i:Nat}:m.lookup i=none ↔ i ∉ m.map (·.1):=by
 induction m with
 | nil=>simp
 | cons p r ih =>
  obtain⟨j,c⟩:=p;simp only [List.lookup_cons];split
  ·rename_i e
   simp at e;subst e;simp
  ·rename_i e
   have e':¬ i=j:=by simpa using e
   rw [ih];simp [e']
theorem wo{m:List (Nat×List Int)}(hn:(m.map (·.1)).Nodup){k:Nat}(hk:k<m.length):m.lookup (m.getD k (0,[])).1=some (m.getD k (0,[])).2:=by
 induction m generalizing k with
 | nil=>simp at hk
 | cons p r ih =>
  obtain⟨j,c⟩:=p;simp only [List.map_cons,List.nodup_cons] at hn;cases k with
  | zero=>simp
  | succ k =>
   have SP:k<r.length:=by simpa using hk
   have:=ih hn.2 SP;have hm:(r.getD k (0,[])).1∈r.map (·.1):=by
    have:r.getD k (0,[])=r[k]:=by simp [List.getD,SP]
    rw [this];exact List.mem_map.2 ⟨_,List.getElem_mem SP,rfl⟩
   have aO:¬ (r.getD k (0,[])).1=j:=fun e=>hn.1 (e ▸ hm)
   have e2:((j,c) :: r).getD (k+1) (0,[])=r.getD k (0,[]):=by simp [List.getD]
   rw [e2,List.lookup_cons];simp only [show((r.getD k (0,[])).1 == j)=false from by simpa using aO];exact this
theorem iN(m:List (Nat×List Int))(i:Nat)(b:List Int)(j:Nat):(memPut m i b).lookup j=if j=i then some b else m.lookup j:=by
 induction m with
 | nil =>
  simp only [memPut,List.lookup_cons,List.lookup_nil];by_cases h:j=i
  ·simp [h]
  ·have h':(j == i)=false:=by simpa using h
   simp [h,h']
 | cons p r ih =>
  obtain⟨k,c⟩:=p;unfold memPut;by_cases PK:k=i
  ·subst PK;simp only [if_true,List.lookup_cons];by_cases h:j=k
   ·simp [h]
   ·have h':(j == k)=false:=by simpa using h
    simp [h,h']
  ·simp only [PK,if_false,List.lookup_cons,ih];by_cases h:j=k
   ·subst h;simp [PK]
   ·have h':(j == k)=false:=by simpa using h
    simp [h']
theorem od(m:List (Nat×List Int))(i:Nat)(b:List Int):(memPut m i b).map (·.1)=if i∈m.map (·.1) then m.map (·.1) else m.map (·.1)++[i]:=by
 induction m with
 | nil=>simp [memPut]
 | cons p r ih =>
  obtain⟨k,c⟩:=p;unfold memPut;by_cases PK:k=i
  ·subst PK;simp
  ·simp only [PK,if_false,List.map_cons,ih];have:¬ i=k:=fun e=>PK e.symm
   by_cases hm:i∈r.map (·.1)
   ·simp [hm]
   ·simp [hm,this]
theorem zbh{m:List (Nat×List Int)}{i:Nat}{b:List Int}{p:Nat×List Int}(h:p∈memPut m i b):p=(i,b)\/p∈m:=by
 induction m with
 | nil=>simp [memPut] at h;exact .inl h
 | cons q r ih =>
  obtain⟨k,c⟩:=q;unfold memPut at h;by_cases PK:k=i
  ·simp [PK] at h;rcases h with h | h
   ·exact .inl h
   ·exact .inr (by simp [h])
  ·simp [PK] at h;rcases h with h | h
   ·exact .inr (by simp [h])
   ·rcases ih h with h | h
    ·exact .inl h
    ·exact .inr (by simp [h])
def flushK(secs:List (List Int))(mem:List (Nat×List Int)):Nat->List (List Int)
 | 0=>secs
 | k+1=>(flushK secs mem k).set (mem.getD k (0,[])).1 (mem.getD k (0,[])).2
def zu(s b:List Int)(cut:Nat):List Int:=b.take cut++s.drop cut
def one(keep:List Bool)(bK:Int)(cut k:Nat)(s b:List Int):List Int :=if (k:Int)=bK then zu s b cut else if keep.getD k false then b else s
def eI(secs:List (List Int))(mem:List (Nat×List Int))(keep:List Bool)(bK:Int)(cut:Nat):Nat->List (List Int)
 | 0=>secs
 | k+1=>(eI secs mem keep bK cut k).set (mem.getD k (0,[])).1 (one keep bK cut k ((eI secs mem keep bK cut k).getD (mem.getD k (0,[])).1 []) (mem.getD k (0,[])).2)
theorem ku(secs mem k):(flushK secs mem k).length=secs.length:=by
 induction k with
 | zero=>rfl
 | succ k ih=>simp [flushK,ih]
theorem gH(secs mem keep bK cut k):(eI secs mem keep bK cut k).length=secs.length:=by
 induction k with
 | zero=>rfl
 | succ k ih=>simp [eI,ih]
theorem sF(l:List (List Int))(i:Nat)(x:List Int)(h:i<l.length):(l.set i x).getD i []=x:=by simp [List.getD,h]
theorem getD_set_ne(l:List (List Int)){i j:Nat}(x:List Int)(h:i≠j):(l.set i x).getD j []=l.getD j []:=by simp [List.getD,h]
theorem zbv{m:List (Nat×List Int)}{k:Nat}(hk:k<m.length):(m.getD k (0,[])).1∈m.map (·.1):=by
 have:m.getD k (0,[])=m[k]:=by simp [List.getD,hk]
 rw [this];exact List.mem_map.2 ⟨_,List.getElem_mem hk,rfl⟩
theorem kG{m:List (Nat×List Int)}{k:Nat}(hk:k<m.length):m.getD k (0,[])∈m:=by
 have:m.getD k (0,[])=m[k]:=by simp [List.getD,hk]
 rw [this];exact List.getElem_mem hk
theorem key_inj{m:List (Nat×List Int)}(hn:(m.map (·.1)).Nodup){j k:Nat}(hj:j<m.length)(hk:k<m.length)(h:(m.getD j (0,[])).1=(m.getD k (0,[])).1):j=k:=by
 have e1:(m.getD j (0,[])).1=(m.map (·.1))[j]'(by simpa using hj):=by simp [List.getD,hj]
 have e2:(m.getD k (0,[])).1=(m.map (·.1))[k]'(by simpa using hk):=by simp [List.getD,hk]
 rw [e1,e2] at h;exact(List.getElem_inj hn).1 h
theorem pG(secs mem keep bK cut)(i:Nat):∀ k,(∀ j,j<k->(mem.getD j (0,[])).1≠i)->(eI secs mem keep bK cut k).getD i []=secs.getD i []
 | 0,_=>rfl
 | k+1,h=>by unfold eI;rw [getD_set_ne _ _ (h k (Nat.lt_succ_self k))];exact pG secs mem keep bK cut i k (fun j hj=>h j (by omega))
theorem Et{secs mem}(keep bK cut)(hn:(mem.map (·.1)).Nodup)(hl:∀ p∈mem,p.1<secs.length){k:Nat}(hk:k<mem.length):∀ n,k<n->n<=mem.length ->(eI secs mem keep bK cut n).getD (mem.getD k (0,[])).1 []=one keep bK cut k (secs.getD (mem.getD k (0,[])).1 []) (mem.getD k (0,[])).2
 | 0,h,_=>by omega
 | n+1,h,hn'=>by
  unfold eI;by_cases e:k=n
  ·subst e;rw [sF _ _ _ (by rw [gH];exact hl _ (kG hk))];rw [pG secs mem keep bK cut _ k (fun j hj e2=>by have:=key_inj hn (by omega) hk e2;omega)]
  ·rw [getD_set_ne _ _ (fun e2=>e (key_inj hn hk (by omega) e2.symm))];exact Et keep bK cut hn hl hk n (by omega) (by omega)
theorem uV(secs mem)(i:Nat):∀ k,(∀ j,j<k->(mem.getD j (0,[])).1≠i)->(flushK secs mem k).getD i []=secs.getD i []
 | 0,_=>rfl
 | k+1,h=>by unfold flushK;rw [getD_set_ne _ _ (h k (Nat.lt_succ_self k))];exact uV secs mem i k (fun j hj=>h j (by omega))
theorem Ei{secs mem}(hn:(mem.map (·.1)).Nodup)(hl:∀ p∈mem,p.1<secs.length){k:Nat}(hk:k<mem.length):∀ n,k<n->n<=mem.length ->(flushK secs mem n).getD (mem.getD k (0,[])).1 []=(mem.getD k (0,[])).2
 | 0,h,_=>by omega
 | n+1,h,hn'=>by
  unfold flushK;by_cases e:k=n
  ·subst e;rw [sF _ _ _ (by rw [ku];exact hl _ (kG hk))]
  ·rw [getD_set_ne _ _ (fun e2=>e (key_inj hn hk (by omega) e2.symm))];exact Ei hn hl hk n (by omega) (by omega)
theorem tg{l:List (List Int)}{i:Nat}{x s:List Int}(h:s∈l.set i x):s∈l\/s=x:=List.mem_or_eq_of_mem_set h
theorem eE{l:List (List Int)}(h:∀ s∈l,kS s){i:Nat}(hi:i<l.length):kS (l.getD i []):=by
 have:l.getD i []=l[i]:=by simp [List.getD,hi]
 rw [this];exact h _ (List.getElem_mem hi)
theorem Ii{s b:List Int}(hs:kS s)(hb:kS b)(cut:Nat):kS (zu s b cut):=by
 refine⟨by simp [zu,hs.1,hb.1];omega,fun z hz=>?_⟩;rcases zMa hz with h | h
 ·exact hb.2 z (List.mem_of_mem_take h)
 ·exact hs.2 z (List.mem_of_mem_drop h)
theorem zaI{s b:List Int}(hs:kS s)(hb:kS b)(keep bK cut k):kS (one keep bK cut k s b):=by
 unfold one;split
 ·exact Ii hs hb cut
 ·split
  ·exact hb
  ·exact hs
theorem zL{secs mem}(hs:∀ s∈secs,kS s)(hm:∀ p∈mem,p.1<secs.length/\kS p.2):∀ k,k<=mem.length->∀ s∈flushK secs mem k,kS s
 | 0,_=>hs
 | k+1,h=>fun s h'=>by
  rcases tg h' with h1 | h1
  ·exact zL hs hm k (by omega) s h1
  ·rw [h1];exact(hm _ (kG (by omega))).2
theorem sW{secs mem}(hs:∀ s∈secs,kS s)(hm:∀ p∈mem,p.1<secs.length/\kS p.2)(keep bK cut):∀ k,k<=mem.length->∀ s∈eI secs mem keep bK cut k,kS s
 | 0,_=>hs
 | k+1,h=>fun s h'=>by
  rcases tg h' with h1 | h1
  ·exact sW hs hm keep bK cut k (by omega) s h1
  ·rw [h1];refine zaI (eE (sW hs hm keep bK cut k (by omega)) ?_) (hm _ (kG (by omega))).2 _ _ _ _;rw [gH];exact(hm _ (kG (by omega))).1
def DS.new(n:Nat):DS:=⟨List.replicate n (List.replicate 32 0),[],-1,false⟩
def DS.put(D:DS)(i:Nat)(b:List Int):DS:={ D with mem:=memPut D.mem i b }
def DS.step(D:DS):DS:=if D.left=0 then { D with down:=true } else if 0<D.left then { D with left:=D.left-1 } else D
def DS.flush(D:DS):DS:={ D with secs:=flushK D.secs D.mem D.mem.length,mem:=[]}
def DS.dY(D:DS)(keep:List Bool)(bK:Int)(cut:Nat):DS:=⟨eI D.secs D.mem keep bK cut D.mem.length,[],-1,false⟩
def DS.cX(D:DS)(i:Int)(b:List Int):Int:=if i<0\/(D.secs.length:Int)<=i then 1 else if b.length≠32 then 3 else if D.down then 9 else if D.left=0 then 9 else 0
def DS.write(D:DS)(i:Int)(b:List Int):DS:=if i<0\/(D.secs.length:Int)<=i\/b.length≠32\/D.down=true then D else (D.put i.toNat b).step
def DS.dP(D:DS):Int:=if D.down then 9 else if D.left=0 then 9 else 0
def DS.bI(D:DS):DS:=if D.down then D else if D.left=0 then { D with down:=true } else D.step.flush
theorem DS.VS(n:Nat)(h:n<=300):(DS.new n).Ok where
 len:=by simp [DS.new];exact h
 sec:=fun s hs=>by have:s=List.replicate 32 0:=List.eq_of_mem_replicate hs;subst this;exact⟨by simp,fun z hz=>by rw [List.eq_of_mem_replicate hz];omega⟩
 mem:=fun p hp=>by simp [DS.new] at hp
 apart:=by simp [DS.new]
 left:=by simp [DS.new]
theorem DS.Ok.put{D:DS}(h:D.Ok){i:Nat}{b:List Int}(hi:i<D.secs.length)(hb:kS b):(D.put i b).Ok where
 len:=h.len
 sec:=h.sec
 mem:=fun p hp=>by
  rcases zbh hp with rfl | h1
  ·exact⟨hi,hb⟩
  ·exact h.mem p h1
 apart:=by
  show((memPut D.mem i b).map (·.1)).Nodup
  rw [od];split
  ·exact h.apart
  ·rename_i hn
   rw [List.nodup_append];refine⟨h.apart,by simp,fun a ha c hc e=>?_⟩;simp at hc;subst hc;subst e;exact hn ha
 left:=h.left
theorem DS.Ok.step{D:DS}(h:D.Ok):D.step.Ok:=by
 unfold DS.step;split
 ·exact⟨h.len,h.sec,h.mem,h.apart,h.left⟩
 ·split
  ·refine⟨h.len,h.sec,h.mem,h.apart,?_⟩;have:=h.left
   show -9223372036854775808<=D.left-1/\D.left-1<=9223372036854775807
   omega
  ·exact h
theorem DS.Ok.flush{D:DS}(h:D.Ok):D.flush.Ok where
 len:=by show(flushK D.secs D.mem D.mem.length).length<=300;rw [ku];exact h.len
 sec:=zL h.sec h.mem _ zNr
 mem:=fun p hp=>by simp [DS.flush] at hp
 apart:=by simp [DS.flush]
 left:=h.left
theorem DS.Ok.dY{D:DS}(h:D.Ok)(keep bK cut):(D.dY keep bK cut).Ok where
 len:=by show(eI D.secs D.mem keep bK cut D.mem.length).length<=300;rw [gH];exact h.len
 sec:=sW h.sec h.mem _ _ _ _ zNr
 mem:=fun p hp=>by simp [DS.dY] at hp
 apart:=by simp [DS.dY]
 left:=by simp [DS.dY]
theorem DS.Ok.write{D:DS}(h:D.Ok){i:Int}{b:List Int}(hb:bj b):(D.write i b).Ok:=by
 unfold DS.write;split
 ·exact h
 ·rename_i hn
  have h1:0<=i/\i<D.secs.length/\b.length=32:=by
   refine⟨?_,?_,?_⟩
   ·rcases Int.lt_or_le i 0 with h1 | h1
    ·exact absurd (.inl h1) hn
    ·exact h1
   ·rcases Int.lt_or_le i D.secs.length with h1 | h1
    ·exact h1
    ·exact absurd (.inr (.inl h1)) hn
   ·rcases Nat.decEq b.length 32 with h1 | h1
    ·exact absurd (.inr (.inr (.inl h1))) hn
    ·exact h1
  exact(h.put (by omega) ⟨h1.2.2,hb⟩).step
theorem DS.Ok.fail{D:DS}(h:D.Ok){n:Int}(hn:-9223372036854775808<=n/\n<=9223372036854775807):DS.Ok { D with left:=n }:=⟨h.len,h.sec,h.mem,h.apart,hn⟩
theorem DS.Ok.bI{D:DS}(h:D.Ok):D.bI.Ok:=by
 unfold DS.bI;split
 ·exact h
 ·split
  ·exact⟨h.len,h.sec,h.mem,h.apart,h.left⟩
  ·exact h.step.flush
theorem DS.Ok.rd{D:DS}(h:D.Ok){i:Nat}(hi:i<D.secs.length):kS (D.rd i):=by
 unfold DS.rd;cases e:D.mem.lookup i with
 | none=>exact eE h.sec hi
 | some b=>exact(h.mem _ (gw e)).2
theorem DS.Ok.uq{D:DS}(h:D.Ok):D.mem.length<=300:=by
 have h1:(D.mem.map (·.1)).length<=D.secs.length:=by have:=List.Nodup.length_le_of_subset h.apart (l₂:=List.range D.secs.length) (fun x hx=>by obtain⟨p,hp,rfl⟩:=List.mem_map.1 hx;exact List.mem_range.2 (h.mem p hp).1);simpa using this
 have:=h.len;simp at h1;omega
section
open Go.RowKit
def eJ(x:DS×Int)(i:Int)(b:List Int):DS×Int:=if x.2=0 then (x.1.write i b,x.1.cX i b) else x
def eD(x:DS×Int):DS×Int:=if x.2=0 then (x.1.bI,x.1.dP) else x
def kT(x:DS×Int)(f:Nat->Int×List Int):Nat->DS×Int
 | 0=>x
 | k+1=>eJ (kT x f k) (f k).1 (f k).2
theorem vN(D:DS):D.step.secs=D.secs:=by
 unfold DS.step;split
 ·rfl
 ·split <;> rfl
theorem tV(D:DS):D.step.mem=D.mem:=by
 unfold DS.step;split
 ·rfl
 ·split <;> rfl
theorem jU(D:DS)(i:Int)(b:List Int):(D.write i b).secs=D.secs:=by
 unfold DS.write;split
 ·rfl
 ·rw [vN];rfl
theorem oQ(D:DS)(i:Int)(b:List Int)(k:Nat)(h:(k:Int)≠i):(D.write i b).mem.lookup k=D.mem.lookup k:=by
 unfold DS.write;split
 ·rfl
 ·rename_i hn
  rw [tV]
  show(memPut D.mem i.toNat b).lookup k=_
  rw [iN,if_neg (fun e=>h (by omega))]
theorem EP{D:DS}{i:Int}{b:List Int}(h1:0<=i)(h2:i<D.secs.length)(h3:b.length=32):(D.cX i b=0/\D.down=false/\D.left≠0)\/(D.cX i b=9):=by
 unfold DS.cX;rw [if_neg (by omega),if_neg (by omega)];by_cases hd:D.down=true
 ·rw [if_pos hd];exact .inr rfl
 ·rw [if_neg hd];by_cases hl:D.left=0
  ·rw [if_pos hl];exact .inr rfl
  ·rw [if_neg hl];exact .inl ⟨rfl,by simpa using hd,hl⟩
theorem kA{D:DS}{i:Int}{b:List Int}(h:D.cX i b=0):0<=i/\i<D.secs.length/\b.length=32/\D.down=false/\D.left≠0:=by
 unfold DS.cX at h;by_cases h1:i<0\/(D.secs.length:Int)<=i
 ·rw [if_pos h1] at h;cases h
 ·rw [if_neg h1] at h;by_cases h2:b.length≠32
  ·rw [if_pos h2] at h;cases h
  ·rw [if_neg h2] at h;by_cases hd:D.down=true
   ·rw [if_pos hd] at h;cases h
   ·rw [if_neg hd] at h;by_cases hl:D.left=0
    ·rw [if_pos hl] at h;cases h
    ·exact⟨by omega,by omega,by omega,by simpa using hd,hl⟩
theorem tP{D:DS}{i:Int}{b:List Int}(h:D.cX i b=0):D.write i b=(D.put i.toNat b).step:=by
 obtain⟨h1,h2,h3,h4,_⟩:=kA h;unfold DS.write;rw [if_neg];rintro (h | h | h | h)
 ·omega
 ·omega
 ·exact h h3
 ·rw [h4] at h;cases h
theorem tO{D:DS}{i:Int}{b:List Int}(h:D.cX i b=0):(D.write i b).mem.lookup i.toNat=some b:=by
 rw [tP h,tV]
 show(memPut D.mem i.toNat b).lookup i.toNat=_
 rw [iN,if_pos rfl]
theorem sR{D:DS}{i:Int}{b:List Int}(h:D.cX i b=0):(D.write i b).down=false:=by obtain⟨h1,h2,h3,h4,h5⟩:=kA h;rw [tP h];unfold DS.step;rw [if_neg (show ¬ (D.put i.toNat b).left=0 from h5)];split <;> exact h4
theorem qy{D:DS}{i:Int}{b:List Int}(h:D.cX i b=0)(k:Nat):(D.write i b).rd k=if (k:Int)=i then b else D.rd k:=by
 obtain⟨h1,_⟩:=kA h;unfold DS.rd;by_cases hk:(k:Int)=i
 ·rw [if_pos hk];have:k=i.toNat:=by omega
  rw [this,tO h];rfl
 ·rw [if_neg hk,oQ D i b k hk,jU]
theorem pD(D:DS):(D.dP=0/\D.down=false/\D.left≠0)\/D.dP=9:=by
 unfold DS.dP;by_cases hd:D.down=true
 ·rw [if_pos hd];exact .inr rfl
 ·rw [if_neg hd];by_cases hl:D.left=0
  ·rw [if_pos hl];exact .inr rfl
  ·rw [if_neg hl];exact .inl ⟨rfl,by simpa using hd,hl⟩
theorem J6{D:DS}(h:D.dP=0):D.bI=D.step.flush/\D.step.down=false:=by
 rcases pD D with ⟨_,h1,h2⟩ | h1
 ·unfold DS.bI;rw [if_neg (by rw [h1];exact Bool.false_ne_true),if_neg h2];refine⟨rfl,?_⟩;unfold DS.step;rw [if_neg h2];split <;> exact h1
 ·rw [h1] at h;cases h
theorem ka{D:DS}(h:D.dP=9):D.bI.secs=D.secs/\D.bI.mem=D.mem:=by
 unfold DS.bI;by_cases hd:D.down=true
 ·rw [if_pos hd];exact⟨rfl,rfl⟩
 ·rw [if_neg hd];by_cases hl:D.left=0
  ·rw [if_pos hl];exact⟨rfl,rfl⟩
  ·exfalso
   unfold DS.dP at h;rw [if_neg hd,if_neg hl] at h;cases h
theorem uw{m:List (Nat×List Int)}{k:Nat}{b:List Int}(h:m.lookup k=some b):∃ q,q<m.length/\m.getD q (0,[])=(k,b):=by obtain⟨q,hq,e⟩:=List.getElem_of_mem (gw h);exact⟨q,hq,by simp [List.getD,hq,e]⟩
theorem Ac{m:List (Nat×List Int)}{k:Nat}(h:m.lookup k=none):∀ j,j<m.length->(m.getD j (0,[])).1≠k:=fun j hj e=>gV.1 h (e ▸ zbv hj)
theorem Nt{D:DS}(h:D.Ok)(k:Nat):D.flush.secs.getD k []=D.rd k:=by
 show(flushK D.secs D.mem D.mem.length).getD k []=_
 unfold DS.rd;cases e:D.mem.lookup k with
 | none=>exact uV _ _ k _ (Ac e)
 | some b =>obtain⟨q,hq,e2⟩:=uw e;have:=Ei h.apart (fun p hp=>(h.mem p hp).1) hq D.mem.length hq zNr;rw [e2] at this;exact this
theorem zax(D:DS)(k:Nat):D.step.rd k=D.rd k:=by unfold DS.rd;rw [tV,vN]
theorem eh{D:DS}(h:D.Ok)(he:D.dP=0)(k:Nat):D.bI.secs.getD k []=D.rd k/\D.bI.mem=[]/\D.bI.down=false:=by obtain⟨h1,h2⟩:=J6 he;rw [h1];exact⟨by rw [Nt h.step,zax],rfl,h2⟩
theorem Kd(D:DS):D.bI.secs.length=D.secs.length:=by
 unfold DS.bI;split
 ·rfl
 ·split
  ·rfl
  ·show(flushK D.step.secs D.step.mem D.step.mem.length).length=_
   rw [ku,vN]
def T2(D:DS)(k:Nat)(v:List Int):Prop:=v=D.secs.getD k []\/∃ b,D.mem.lookup k=some b/\(v=b\/∃ c,c<=32/\v=kX b (D.secs.getD k []) c)
theorem Bb{D:DS}(h:D.Ok)(keep:List Bool)(bK:Int)(c:Nat)(hc:c<=32)(k:Nat):T2 D k ((D.dY keep bK c).secs.getD k []):=by
 show T2 D k ((eI D.secs D.mem keep bK c D.mem.length).getD k [])
 cases e:D.mem.lookup k with
 | none=>exact .inl (pG _ _ _ _ _ k _ (Ac e))
 | some b =>
  obtain⟨q,hq,e2⟩:=uw e;have:=Et keep bK c h.apart (fun p hp=>(h.mem p hp).1) hq D.mem.length hq zNr;rw [e2] at this;rw [this];unfold one;split
  ·exact .inr ⟨b,e,.inr ⟨c,hc,rfl⟩⟩
  ·split
   ·exact .inr ⟨b,e,.inl rfl⟩
   ·exact .inl rfl
def rb(W:Nat->Prop)(D:DS)(C:Nat->List Int):Prop:=∀ k,¬ W k->D.mem.lookup k=none/\D.secs.getD k []=C k
theorem rb.zaQ{W:Nat->Prop}{D:DS}{C:Nat->List Int}(h:rb W D C){k:Nat}(hk:¬ W k){v:List Int}(hp:T2 D k v):v=C k:=by
 obtain⟨h1,h2⟩:=h k hk;rcases hp with hp | ⟨b,hb,_⟩
 ·rw [hp,h2]
 ·rw [h1] at hb;cases hb
theorem rb.write{W:Nat->Prop}{D:DS}{C:Nat->List Int}(h:rb W D C)(i:Int)(b:List Int)(hi:∀ k:Nat,(k:Int)=i->W k):rb W (D.write i b) C:=fun k hk=>by rw [oQ D i b k (fun e=>hk (hi k e)),jU];exact h k hk
theorem rb.rd{W:Nat->Prop}{D:DS}{C:Nat->List Int}(h:rb W D C){k:Nat}(hk:¬ W k):D.rd k=C k:=by unfold DS.rd;rw [(h k hk).1,(h k hk).2];rfl
theorem rb.flush{W:Nat->Prop}{D:DS}{C:Nat->List Int}(h:rb W D C)(ho:D.Ok):rb W D.bI C:=fun k hk=>by
 rcases pD D with ⟨he,_⟩ | he
 ·obtain⟨h1,h2,_⟩:=eh ho he k;rw [h1,h2];exact⟨rfl,h.rd hk⟩
 ·rw [(ka he).1,(ka he).2];exact h k hk
structure Cx (W:Nat->Prop) (C:Nat->List Int) (n:Nat) (x:DS×Int):Prop where
 ok:x.1.Ok
 only:rb W x.1 C
 len:x.1.secs.length=n
 err:(x.2=0/\x.1.down=false)\/x.2=9
theorem Cx.w{W:Nat->Prop}{C:Nat->List Int}{n:Nat}{x:DS×Int}(h:Cx W C n x){i:Int}{b:List Int}(h1:0<=i)(h2:i<n)(hb:kS b)(hi:W i.toNat):Cx W C n (eJ x i b):=by
 unfold eJ;split
 ·rename_i hx
  refine⟨h.ok.write hb.2,h.only.write i b (fun k hk=>by rw [show k=i.toNat by omega];exact hi),by show(x.1.write i b).secs.length=n;rw [jU];exact h.len,?_⟩;rcases EP (D:=x.1) h1 (by rw [h.len];exact h2) hb.1 with ⟨he,_⟩ | he
  ·exact .inl ⟨he,sR he⟩
  ·exact .inr he
 ·exact h
theorem Cx.f{W:Nat->Prop}{C:Nat->List Int}{n:Nat}{x:DS×Int}(h:Cx W C n x):Cx W C n (eD x):=by
 unfold eD;split
 ·rename_i hx
  refine⟨h.ok.bI,h.only.flush h.ok,by show x.1.bI.secs.length=n;rw [Kd];exact h.len,?_⟩;rcases pD x.1 with ⟨he,_⟩ | he
  ·exact .inl ⟨he,(eh h.ok he 0).2.2⟩
  ·exact .inr he
 ·exact h
theorem Cx.ws{W:Nat->Prop}{C:Nat->List Int}{n:Nat}{x:DS×Int}(h:Cx W C n x){f:Nat->Int×List Int}:∀ m,(∀ j,j<m->0<=(f j).1/\(f j).1<n/\kS (f j).2/\W (f j).1.toNat)->Cx W C n (kT x f m)
 | 0,_=>h
 | m+1,hf=>(Cx.ws h m (fun j hj=>hf j (by omega))).w (hf m (by omega)).1 (hf m (by omega)).2.1 (hf m (by omega)).2.2.1 (hf m (by omega)).2.2.2
theorem xq{x:DS×Int}{i:Int}{b:List Int}(h:(eJ x i b).2=0):x.2=0/\x.1.cX i b=0/\(eJ x i b).1=x.1.write i b:=by
 unfold eJ at *;split at h
 ·rename_i hx
  rw [if_pos hx];exact⟨hx,h,rfl⟩
 ·rename_i hx
  exact absurd h hx
theorem oH{x:DS×Int}(h:(eD x).2=0):x.2=0/\x.1.dP=0/\(eD x).1=x.1.bI:=by
 unfold eD at *;split at h
 ·rename_i hx
  rw [if_pos hx];exact⟨hx,h,rfl⟩
 ·rename_i hx
  exact absurd h hx
theorem zn{x:DS×Int}{f:Nat->Int×List Int}:∀ m,(kT x f m).2=0->(∀ i j,i<m->j<m->(f i).1=(f j).1->(f i).2=(f j).2) ->x.2=0/\(∀ j,j<m->(kT x f m).1.rd (f j).1.toNat=(f j).2)/\∀ k:Nat,(∀ j,j<m->(f j).1≠k)->(kT x f m).1.rd k=x.1.rd k
 | 0,h,_=>⟨h,fun j hj=>by omega,fun k _=>rfl⟩
 | m+1,h,AK=>by
  obtain⟨h1,h2,h3⟩:=xq (show(eJ (kT x f m) (f m).1 (f m).2).2=0 from h);obtain⟨g1,g2,g3⟩:=zn m h1 (fun i j hi hj=>AK i j (by omega) (by omega));have jf:=(kA h2).1;refine⟨g1,fun j hj=>?_,fun k hk=>?_⟩
  ·show(eJ (kT x f m) (f m).1 (f m).2).1.rd _=_
   rw [h3,qy h2];by_cases e:j=m
   ·subst e;rw [if_pos (by omega)]
   ·have hj':j<m:=by omega
    by_cases hz:0<=(f j).1
    ·by_cases e2:(f j).1=(f m).1
     ·rw [if_pos (by omega)];exact(AK j m (by omega) (by omega) e2).symm
     ·rw [if_neg (by omega),g2 j hj']
    ·exfalso
     have:∀ q,j<q->(kT x f q).2=0->0<=(f j).1:=by
      intro q;induction q with
      | zero=>intro h;omega
      | succ q ih =>
       intro hq Cf;obtain⟨a1,a2,_⟩:=xq (show(eJ (kT x f q) (f q).1 (f q).2).2=0 from Cf);by_cases e3:j=q
       ·subst e3;exact(kA a2).1
       ·exact ih (by omega) a1
     exact hz (this m hj' h1)
  ·show(eJ (kT x f m) (f m).1 (f m).2).1.rd _=_
   rw [h3,qy h2,if_neg (fun e=>hk m (by omega) e.symm),g3 k (fun j hj=>hk j (by omega))]
def gT(body:List Int):List Int:=(body.drop 1).take (body.getD 0 0).toNat
def mark(L:Nat)(b:List Int):Option (Int×List Int) :=if (cg b).2.2=0/\(cg b).2.1.getD 0 0<=23/\(∀ z∈gT (cg b).2.1,z<L) then some ((cg b).1,gT (cg b).2.1) else none
def pick(x:Int×Nat×List Int)(i:Nat)(m:Option (Int×List Int)):Int×Nat×List Int :=
 match m with
 | some (s,l)=>if x.1<s then (s,i,l) else x
 | none=>x
def mK(L:Nat)(a b:List Int):Int×Nat×List Int:=pick (pick (0,0,[]) 0 (mark L a)) 1 (mark L b)
theorem zcf{L:Nat}{a:Nat}(ha:a=0\/a=1){v:Nat->List Int}{s:Int}{l:List Int}(hm:mark L (v a)=some (s,l))(ho:∀ t l',mark L (v (1-a))=some (t,l')->t<s)(hs:0<s):mK L (v 0) (v 1)=(s,a,l):=by
 unfold mK;rcases ha with rfl | rfl
 ·rw [hm];have e:pick (0,0,[]) 0 (some (s,l))=(s,0,l):=by
   show(if (0:Int)<s then (s,0,l) else (0,0,[]))=_
   rw [if_pos hs]
  rw [e];cases h1:mark L (v 1) with
  | none=>rfl
  | some q =>
   obtain⟨t,l'⟩:=q;have:=ho t l' h1
   show(if s<t then (t,1,l') else (s,0,l))=_
   rw [if_neg (by omega)]
 ·rw [hm];cases h0:mark L (v 0) with
  | none =>
   show(if (0:Int)<s then (s,1,l) else (0,0,[]))=_
   rw [if_pos hs]
  | some q =>
   obtain⟨t,l'⟩:=q;have:=ho t l' h0;have e:(pick (0,0,[]) 0 (some (t,l'))).1<s:=by
    show(if (0:Int)<t then (t,0,l') else (0,0,[])).1<s
    split
    ·exact this
    ·exact hs
   show(if (pick (0,0,[]) 0 (some (t,l'))).1<s then (s,1,l) else pick (0,0,[]) 0 (some (t,l')))=_
   rw [if_pos e]
theorem fC{L:Nat}{b:List Int}{s:Int}{l:List Int}(hb:bj b)(h:mark L b=some (s,l)):0<s/\l.length<=23/\(∀ z∈l,0<=z/\z<L)/\b.take 4=b.drop 28/\numOf (b.take 4)=s/\b.length=32:=by
 unfold mark at h;split at h
 ·rename_i hc
  obtain⟨h1,h2,h3⟩:=hc;simp only [Option.some.injEq,Prod.mk.injEq] at h;obtain⟨hs,hl⟩:=h;have hlen:b.length=32:=by
   by_cases e:b.length≠32
   ·unfold cg at h1;rw [if_pos e] at h1;cases h1
   ·omega
  have he:bz b 0 4=bz b 28 4:=by
   by_cases e:bz b 0 4≠bz b 28 4
   ·unfold cg at h1;rw [if_neg (by omega),if_pos e] at h1;cases h1
   ·omega
  have h0:¬ bz b 0 4=0:=by intro e;unfold cg at h1;rw [if_neg (by omega),if_neg (by omega),if_pos e] at h1;cases h1
  have ho:cg b=(bz b 0 4,(b.drop 4).take 24,0):=by unfold cg;rw [if_neg (by omega),if_neg (by omega),if_neg h0]
  rw [ho] at hs hl h2 h3;dsimp only at hs hl h2 h3;have sE:=PV b hb 0 4 (by omega);refine⟨by omega,?_,?_,?_,by rw [<- pB];exact hs,hlen⟩
  ·rw [<- hl];unfold gT;simp;omega
  ·intro z hz;rw [<- hl] at hz;refine⟨?_,h3 z hz⟩;have:z∈b:=List.mem_of_mem_drop (List.mem_of_mem_take (List.mem_of_mem_drop (List.mem_of_mem_take hz)));exact(hb z this).1
  ·rw [pB,wQ b hlen] at he;exact vY (by simp;omega) (fun z hz=>hb z (List.mem_of_mem_take hz)) (fun z hz=>hb z (List.mem_of_mem_drop hz)) he
 ·cases h
def Rec(L:Nat)(v:Nat->List Int)(s:Int)(P:Nat->List Int):Prop :=∃ a l,(a=0\/a=1)/\mark L (v a)=some (s,l)/\(∀ t l',mark L (v (1-a))=some (t,l')->t<s)/\0<s/\(∀ k,k<l.length->v (2+23 * a+k)=P (l.getD k 0).toNat)/\∀ i,i<L->(i:Int) ∉ l->v (48+i)=P i
structure fW (D:DS) (L:Nat) (s:Int) (P:Nat->List Int) (a:Nat) (l:List Int):Prop where
 ok:D.Ok
 mem:D.mem=[]
 down:D.down=false
 len:48+L<=D.secs.length
 lt:L<=200
 two:a=0\/a=1
 even:s % 2=(a:Int)
 s1:1<=s
 s2:s<=1000
 Th:mark L (D.secs.getD a [])=some (s,l)
 Rn:∀ k,k<l.length->D.secs.getD (2+23 * a+k) []=P (l.getD k 0).toNat
 iy:∀ i,i<L->D.secs.getD (48+i) []=P i
 other:(D.secs.getD (1-a) []).take 4=(D.secs.getD (1-a) []).drop 28
 u7:(D.secs.getD (1-a) []).take 4≠side (s+1)
 less:∀ t l',mark L (D.secs.getD (1-a) [])=some (t,l')->t<s
theorem fW.again{D:DS}{L:Nat}{s:Int}{P:Nat->List Int}{a:Nat}{l:List Int}(h:fW D L s P a l):Rec L (fun k=>D.secs.getD k []) s P :=⟨a,l,h.two,h.Th,h.less,by have:=h.s1;omega,h.Rn,fun i hi _=>h.iy i hi⟩
def iF(L:Int)(l:List (Int×List Int))(k:Nat):Int :=if (l.getD k (0,[])).1<0\/L<=(l.getD k (0,[])).1 then 1 else if (l.getD k (0,[])).2.length≠32 then 3 else if (List.range k).any (fun j=>(l.getD j (0,[])).1 == (l.getD k (0,[])).1) then 7 else 0
def chkK(L:Int)(l:List (Int×List Int)):Nat->Int
 | 0=>0
 | k+1=>if chkK L l k=0 then iF L l k else chkK L l k
def cO(L:Int)(l:List (Int×List Int)):Int:=if 23<l.length then 4 else chkK L l l.length
structure Valid (L:Nat) (l:List (Int×List Int)):Prop where
 len:l.length<=23
 num:∀ k,k<l.length->0<=(l.getD k (0,[])).1/\(l.getD k (0,[])).1<L
 body:∀ k,k<l.length->(l.getD k (0,[])).2.length=32
 apart:∀ j k,j<k->k<l.length->(l.getD j (0,[])).1≠(l.getD k (0,[])).1
theorem Ev{L:Nat}{l:List (Int×List Int)}:∀ n,chkK L l n=0->∀ k,k<n->iF L l k=0
 | 0,_,k,hk=>by omega
 | n+1,h,k,hk=>by
  unfold chkK at h;by_cases h0:chkK L l n=0
  ·rw [if_pos h0] at h;by_cases e:k=n
   ·subst e;exact h
   ·exact Ev n h0 k (by omega)
  ·rw [if_neg h0] at h;exact absurd h h0
theorem qp{L:Nat}{l:List (Int×List Int)}(h:cO L l=0):Valid L l:=by
 unfold cO at h;by_cases h1:23<l.length
 ·rw [if_pos h1] at h;cases h
 ·rw [if_neg h1] at h;have hp:=Ev l.length h;have bB:∀ k,k<l.length->(0<=(l.getD k (0,[])).1/\(l.getD k (0,[])).1<L)/\(l.getD k (0,[])).2.length=32/\∀ j,j<k->(l.getD j (0,[])).1≠(l.getD k (0,[])).1:=by
   intro k hk;have:=hp k hk;unfold iF at this;by_cases c1:(l.getD k (0,[])).1<0\/(L:Int)<=(l.getD k (0,[])).1
   ·rw [if_pos c1] at this;cases this
   ·rw [if_neg c1] at this;by_cases c2:(l.getD k (0,[])).2.length≠32
    ·rw [if_pos c2] at this;cases this
    ·rw [if_neg c2] at this;by_cases c3:(List.range k).any (fun j=>(l.getD j (0,[])).1 == (l.getD k (0,[])).1)=true
     ·rw [if_pos c3] at this;cases this
     ·refine⟨by omega,by omega,fun j hj e=>c3 ?_⟩;rw [List.any_eq_true];exact⟨j,List.mem_range.2 hj,by simpa using e⟩
  exact⟨by omega,fun k hk=>(bB k hk).1,fun k hk=>(bB k hk).2.1,fun j k hj hk=>(bB k hk).2.2 j hj⟩
def dM(l:List (Int×List Int)):List Int:=(l.length:Int) :: l.map (·.1)
def fq(D:DS)(a:Int)(l:List (Int×List Int)):DS×Int:=eD (kT (D,0) (fun i=>(2+23 * a+i,(l.getD i (0,[])).2)) l.length)
def cM(x:DS×Int)(a s:Int)(l:List (Int×List Int)):DS×Int :=eD (if x.2=0 then (if (gL s (dM l)).2=0 then eJ x a (gL s (dM l)).1 else (x.1,(gL s (dM l)).2)) else x)
def jD(x:DS×Int)(l:List (Int×List Int)):DS×Int:=eD (kT x (fun i=>(48+(l.getD i (0,[])).1,(l.getD i (0,[])).2)) l.length)
def bC(D:DS)(s:Int)(l:List (Int×List Int)):DS×Int:=jD (cM (fq D ((s+1) % 2) l) ((s+1) % 2) (s+1) l) l
def Hk(P:Nat->List Int)(l:List (Int×List Int))(i:Nat):List Int :=
 match l.find? (fun q=>q.1 == (i:Int)) with
 | some q=>q.2
 | none=>P i
theorem rl{P:Nat->List Int}{l:List (Int×List Int)}{i:Nat}(h:(i:Int) ∉ l.map (·.1)):Hk P l i=P i:=by
 unfold Hk;cases e:l.find? (fun q=>q.1 == (i:Int)) with
 | none=>rfl
 | some q =>
  exfalso
  have h1:=List.find?_some e;have h2:=List.mem_of_find?_eq_some e;exact h (List.mem_map.2 ⟨q,h2,by simpa using h1⟩)
theorem EU{P:Nat->List Int}{l:List (Int×List Int)}{L:Nat}(hv:Valid L l){k:Nat}(hk:k<l.length):Hk P l (l.getD k (0,[])).1.toNat=(l.getD k (0,[])).2:=by
 unfold Hk;have h0:=hv.num k hk;have hq:(((l.getD k (0,[])).1.toNat:Nat):Int)=(l.getD k (0,[])).1:=by omega
 rw [hq];cases e:l.find? (fun q=>q.1 == (l.getD k (0,[])).1) with
 | none =>
  exfalso
  have:=List.find?_eq_none.1 e (l.getD k (0,[])) (by simp [List.getD,hk]);simp at this
 | some q =>
  have h1:q.1=(l.getD k (0,[])).1:=by simpa using List.find?_some e
  obtain⟨j,hj,D3⟩:=List.getElem_of_mem (List.mem_of_find?_eq_some e);have hg:l.getD j (0,[])=q:=by simp [List.getD,hj,D3]
  have:j=k:=by
   rcases Nat.lt_trichotomy j k with h | h | h
   ·exact absurd (by rw [hg];exact h1) (hv.apart j k h hk)
   ·exact h
   ·exact absurd (by rw [hg];exact h1.symm) (hv.apart k j h hj)
  subst this;rw [hg]
theorem lE(l:List (Int×List Int)):(dM l).length=l.length+1:=by simp [dM]
theorem rM{L:Nat}{s:Int}{l:List (Int×List Int)}(hv:Valid L l)(h1:1<=s)(h2:s<=4294967295):gL s (dM l)=(cV s (dM l),0)/\mark L (cV s (dM l))=some (s,l.map (·.1)):=by
 have hl:=hv.len;have hm:=lE l;refine⟨by unfold gL;rw [if_neg (by omega),if_neg (by omega)],?_⟩;have ho:=lD s (dM l) h1 h2 (by omega);have hn:gT (dM l++ag (24-(dM l).length))=l.map (·.1):=by
  unfold gT dM
  show List.take (Int.toNat ((l.length:Int))) (l.map (·.1)++ag _)=_
  rw [zTn,List.take_append_of_le_length (by simp),List.take_of_length_le (by simp)]
 unfold mark;rw [ho];dsimp only;rw [hn,if_pos];refine⟨rfl,?_,fun z hz=>?_⟩
 ·show(l.length:Int)<=23
  omega
 ·obtain⟨q,hq,rfl⟩:=List.mem_map.1 hz;obtain⟨j,hj,D3⟩:=List.getElem_of_mem hq;have:=hv.num j hj;have hg:l.getD j (0,[])=q:=by simp [List.getD,hj,D3]
  rw [hg] at this;exact this.2
theorem wR(l:List (Int×List Int)){k:Nat}(hk:k<l.length):(l.map (·.1)).getD k 0=(l.getD k (0,[])).1:=by simp [List.getD,hk]
theorem Zb{x:DS×Int}{i:Int}{b:List Int}(h:x.2≠0):eJ x i b=x:=by unfold eJ;rw [if_neg h]
theorem Bt{x:DS×Int}(h:x.2≠0):eD x=x:=by unfold eD;rw [if_neg h]
theorem OI{x:DS×Int}{f:Nat->Int×List Int}(h:x.2≠0):∀ m,kT x f m=x
 | 0=>rfl
 | m+1=>by
  show eJ (kT x f m) (f m).1 (f m).2=x
  rw [OI h m,Zb h]
theorem yl{x:DS×Int}{l:List (Int×List Int)}(h:x.2≠0):jD x l=x:=by unfold jD;rw [OI h,Bt h]
theorem Kk{x:DS×Int}{a s:Int}{l:List (Int×List Int)}(h:x.2≠0):cM x a s l=x:=by unfold cM;rw [if_neg h,Bt h]
theorem yG{D:DS}{i:Int}{b b':List Int}{k:Nat}(h:(D.write i b).mem.lookup k=some b'):D.mem.lookup k=some b'\/b'=b:=by
 by_cases hk:(k:Int)=i
 ·unfold DS.write at h;split at h
  ·exact .inl h
  ·rw [tV] at h;have h':(memPut D.mem i.toNat b).lookup k=some b':=h;rw [iN] at h';split at h'
   ·exact .inr (zOi h').symm
   ·exact .inl h'
 ·rw [oQ D i b k hk] at h;exact .inl h
def fK(D:DS)(k:Nat):List Int:=D.secs.getD k []
theorem l6{D:DS}(h:D.mem=[])(W:Nat->Prop):rb W D (fK D):=fun k _=>by rw [h];exact⟨rfl,rfl⟩
def Cut(D:DS)(L:Nat)(s:Int)(P:Nat->List Int)(l:List (Int×List Int)):Prop :=∀ v:Nat->List Int,(∀ k,T2 D k (v k))->Rec L v s P\/Rec L v (s+1) (Hk P l)
section
variable {D:DS} {L:Nat} {s:Int} {P:Nat->List Int} {a:Nat} {nl:List Int} {l:List (Int×List Int)}
def C5(a:Nat)(k:Nat):Prop:=2+23 * (1-a)<=k/\k<25+23 * (1-a)
theorem zcA(h:fW D L s P a nl)(hv:Valid L l)(hb:∀ k,k<l.length->bj (l.getD k (0,[])).2):Cx (C5 a) (fK D) D.secs.length (fq D ((s+1) % 2) l):=by
 have ha:(s+1) % 2=((1-a:Nat):Int):=by have:=h.even;rcases h.two with rfl | rfl <;> omega
 have hl:=h.len;have hvl:=hv.len;unfold fq;refine Cx.f (Cx.ws (⟨h.ok,l6 h.mem _,rfl,.inl ⟨rfl,h.down⟩⟩:Cx (C5 a) (fK D) D.secs.length (D,0)) l.length (fun j hj=>?_));rw [ha];have h2:=h.two;have hL:=hv.num j hj;refine⟨by omega,by omega,⟨hv.body j hj,hb j hj⟩,?_⟩;unfold C5;constructor <;> omega
theorem zi4(h:fW D L s P a nl){D':DS}(ho:rb (C5 a) D' (fK D)):∀ v:Nat->List Int,(∀ k,T2 D' k (v k))->Rec L v s P:=by
 intro v hv;have e:∀ k,¬ C5 a k->v k=fK D k:=fun k hk=>ho.zaQ hk (hv k)
 have hn:=fC (eE h.ok.sec (by have:=h.len;rcases h.two with rfl | rfl <;> omega)).2 h.Th;have h2:=h.two;refine⟨a,nl,h.two,?_,?_,by have:=h.s1;omega,fun k hk=>?_,fun i hi _=>?_⟩
 ·rw [e a (by unfold C5;omega)];exact h.Th
 ·rw [e (1-a) (by unfold C5;omega)];exact h.less
 ·rw [e (2+23 * a+k) (by unfold C5;have:=hn.2.1;omega)];exact h.Rn k hk
 ·rw [e (48+i) (by unfold C5;omega)];exact h.iy i hi
structure Aside (D:DS) (L:Nat) (s:Int) (P:Nat->List Int) (a:Nat) (nl:List Int) (l:List (Int×List Int)) (E:DS):Prop where
 ok:E.Ok
 mem:E.mem=[]
 down:E.down=false
 len:E.secs.length=D.secs.length
 same:∀ k,¬ C5 a k->fK E k=fK D k
 body:∀ j,j<l.length->fK E (2+23 * (1-a)+j)=(l.getD j (0,[])).2
theorem aside(h:fW D L s P a nl)(hv:Valid L l)(hb:∀ k,k<l.length->bj (l.getD k (0,[])).2)(he:(fq D ((s+1) % 2) l).2=0):Aside D L s P a nl l (fq D ((s+1) % 2) l).1:=by
 have hr:=zcA h hv hb;have ha:(s+1) % 2=((1-a:Nat):Int):=by have:=h.even;rcases h.two with rfl | rfl <;> omega
 have bw:(fq D ((s+1) % 2) l).2=0:=he;unfold fq at he hr ⊢;obtain⟨e1,e2,e3⟩:=oH he;obtain⟨r1,r2,r3,_⟩:=hr;rw [e3] at r1 r2 r3 ⊢;have dy:(kT (D,0) (fun i=>(2+23 * ((s+1) % 2)+i,(l.getD i (0,[])).2)) l.length).1.Ok:=by have hl:=h.len;have hvl:=hv.len;refine(Cx.ws (⟨h.ok,l6 h.mem _,rfl,.inl ⟨rfl,h.down⟩⟩:Cx (C5 a) (fK D) D.secs.length (D,0)) l.length (fun j hj=>?_)).ok;rw [ha];have h2:=h.two;refine⟨by omega,by omega,⟨hv.body j hj,hb j hj⟩,?_⟩;unfold C5;constructor <;> omega
 have hw:=zn l.length e1 (fun i j _ _ e=>by dsimp only at e ⊢;rw [show i=j by omega]);refine⟨r1,(eh dy e2 0).2.1,(eh dy e2 0).2.2,r3,fun k hk=>(r2 k hk).2,fun j hj=>?_⟩
 show(DS.bI _).secs.getD _ []=_
 rw [(eh dy e2 _).1];have:=hw.2.1 j hj;dsimp only at this;rw [ha] at this ⊢;rw [show(2+23 * ((1-a:Nat):Int)+(j:Int)).toNat=2+23 * (1-a)+j by omega] at this;exact this
variable {E:DS}
theorem Aside.Vr(h:fW D L s P a nl)(hv:Valid L l)(hs:Aside D L s P a nl l E){v:Nat->List Int}(e:∀ k,k≠1-a->(∀ j,j<l.length->(k:Int)≠48+(l.getD j (0,[])).1)->v k=fK E k)(hx:v (1-a)=cV (s+1) (dM l)):Rec L v (s+1) (Hk P l):=by
 have h2:=h.two;have gP:=h.s1;have gM:=h.s2;have hm:=(rM hv (show 1<=s+1 by omega) (by omega)).2;have ha1:1-(1-a)=a:=by omega
 have hvl:=hv.len;refine⟨1-a,l.map (·.1),by omega,?_,?_,by omega,fun k hk=>?_,fun i hi hn=>?_⟩
 ·rw [hx];exact hm
 ·rw [ha1,e a (by omega) (fun j hj=>by have:=hv.num j hj;omega),hs.same a (by unfold C5;omega)];intro t l' ht;have hg:mark L (fK D a)=some (s,nl):=h.Th;rw [hg] at ht;have:s=t:=by simpa using congrArg (fun o:Option (Int×List Int)=>(o.map (·.1)).getD 0) ht
  omega
 ·have SP:k<l.length:=by simpa using hk
  rw [e _ (by omega) (fun j hj=>by have:=hv.num j hj;omega),hs.body k SP,wR l SP,EU hv SP]
 ·rw [rl hn,e _ (by omega) (fun j hj e2=>hn (List.mem_map.2 ⟨l.getD j (0,[]),by simp [List.getD,hj],by omega⟩)),hs.same (48+i) (by unfold C5;omega)];exact h.iy i hi
theorem zc8(h:fW D L s P a nl)(hv:Valid L l)(hs:Aside D L s P a nl l E){E':DS}(ho:rb (fun k=>k=1-a) E' (fK E))(gN:E'.secs=E.secs)(bX:∀ b,E'.mem.lookup (1-a)=some b->b=cV (s+1) (dM l)):Cut E' L s P l:=by
 intro v hp;have h2:=h.two;have gP:=h.s1;have gM:=h.s2;have hvl:=hv.len;have tH:=lE l;have e:∀ k,k≠1-a->v k=fK E k:=fun k hk=>ho.zaQ hk (hp k)
 have hY:fK E (1-a)=fK D (1-a):=hs.same (1-a) (by unfold C5;omega);have VR:(∀ t l',mark L (v (1-a))=some (t,l')->t<s)->Rec L v s P:=fun hm=>by
  have hn:=fC (eE h.ok.sec (by have:=h.len;omega)).2 h.Th;refine⟨a,nl,h.two,?_,hm,by omega,fun k hk=>?_,fun i hi _=>?_⟩
  ·rw [e a (by omega),hs.same a (by unfold C5;omega)];exact h.Th
  ·rw [e _ (by omega),hs.same _ (by unfold C5;have:=hn.2.1;omega)];exact h.Rn k hk
  ·rw [e _ (by omega),hs.same _ (by unfold C5;omega)];exact h.iy i hi
 have new:v (1-a)=cV (s+1) (dM l)->Rec L v (s+1) (Hk P l):=fun hx=>hs.Vr h hv (fun k hk _=>e k hk) hx
 have uP:v (1-a)=fK D (1-a)->Rec L v s P\/Rec L v (s+1) (Hk P l):=fun hx=>.inl (VR (by rw [hx];exact h.less))
 rcases hp (1-a) with hq | ⟨b,hb,hq⟩
 ·rw [gN] at hq;exact uP (hq.trans hY)
 ·have K7:=bX b hb;subst K7;rcases hq with hq | ⟨c,hc,hq⟩
  ·exact .inr (new hq)
  ·rw [gN,show E.secs.getD (1-a) []=fK D (1-a) from hY] at hq;have hXl:(cV (s+1) (dM l)).length=32:=gg _ _ (by omega);have hDs:kS (fK D (1-a)):=eE h.ok.sec (by have:=h.len;omega);have Up:bj (dM l):=fun z hz=>by
    rcases zMc hz with rfl | hz
    ·omega
    ·obtain⟨q,hq,rfl⟩:=List.mem_map.1 hz;obtain⟨j,hj,D3⟩:=List.getElem_of_mem hq;have hn:=hv.num j hj;have hg:l.getD j (0,[])=q:=by simp [List.getD,hj,D3]
     rw [hg] at hn;have:=h.lt;omega
   by_cases K2:(cg (v (1-a))).2.2=0
   ·rw [hq] at K2;rcases QS hXl hDs.1 (qV _ _ Up) hDs.2 (by rw [sX _ _ (by omega),CU _ _ (by omega)]) h.other (by rw [sX _ _ (by omega)];exact fun e=>h.u7 e.symm) hc K2 with hz | hz
    ·exact .inr (new (hq.trans hz))
    ·exact uP (hq.trans hz)
   ·refine .inl (VR ?_);intro t l' ht;unfold mark at ht;rw [if_neg (fun hc=>K2 hc.1)] at ht;cases ht
theorem zg6(h:fW D L s P a nl)(hv:Valid L l)(hs:Aside D L s P a nl l E) :
  ((cM (E,0) ((s+1) % 2) (s+1) l).2=9/\(cM (E,0) ((s+1) % 2) (s+1) l).1.Ok/\(cM (E,0) ((s+1) % 2) (s+1) l).1.secs.length=D.secs.length/\Cut (cM (E,0) ((s+1) % 2) (s+1) l).1 L s P l) \/
  ((cM (E,0) ((s+1) % 2) (s+1) l).2=0/\(cM (E,0) ((s+1) % 2) (s+1) l).1.Ok/\(cM (E,0) ((s+1) % 2) (s+1) l).1.mem=[]/\(cM (E,0) ((s+1) % 2) (s+1) l).1.down=false /\
   (cM (E,0) ((s+1) % 2) (s+1) l).1.secs.length=D.secs.length/\(∀ k,k≠1-a->fK (cM (E,0) ((s+1) % 2) (s+1) l).1 k=fK E k)/\fK (cM (E,0) ((s+1) % 2) (s+1) l).1 (1-a)=cV (s+1) (dM l)):=by
 have ha:(s+1) % 2=((1-a:Nat):Int):=by have:=h.even;rcases h.two with rfl | rfl <;> omega
 have h2:=h.two;have gP:=h.s1;have gM:=h.s2;have hlen:=h.len;have hvl:=hv.len;have tH:=lE l;have hm:=(rM hv (show 1<=s+1 by omega) (by omega)).1;have Up:bj (dM l):=fun z hz=>by
  rcases zMc hz with rfl | hz
  ·omega
  ·obtain⟨q,hq,rfl⟩:=List.mem_map.1 hz;obtain⟨j,hj,D3⟩:=List.getElem_of_mem hq;have hn:=hv.num j hj;have hg:l.getD j (0,[])=q:=by simp [List.getD,hj,D3]
   rw [hg] at hn;have:=h.lt;omega
 have hX:kS (cV (s+1) (dM l)):=⟨gg _ _ (by omega),qV _ _ Up⟩;have e0:cM (E,0) ((s+1) % 2) (s+1) l=eD (eJ (E,0) ((1-a:Nat):Int) (cV (s+1) (dM l))):=by unfold cM;rw [if_pos rfl,hm,if_pos rfl,ha]
 rw [e0];have r0:Cx (fun k=>k=1-a) (fK E) D.secs.length (E,0):=⟨hs.ok,l6 hs.mem _,hs.len,.inl ⟨rfl,hs.down⟩⟩;have r1:=r0.w (i:=((1-a:Nat):Int)) (b:=cV (s+1) (dM l)) (by omega) (by omega) hX (by omega);have r2:=r1.f;have zcO:(eJ (E,0) ((1-a:Nat):Int) (cV (s+1) (dM l))).1.secs=E.secs:=by unfold eJ;rw [if_pos rfl];exact jU _ _ _
 have Xz:∀ b,(eJ (E,0) ((1-a:Nat):Int) (cV (s+1) (dM l))).1.mem.lookup (1-a)=some b->b=cV (s+1) (dM l):=by
  intro b hb;unfold eJ at hb;rw [if_pos rfl] at hb;rcases yG hb with h3 | h3
  ·have h4:E.mem.lookup (1-a)=some b:=h3;rw [hs.mem] at h4;cases h4
  ·exact h3
 generalize hx:eJ (E,0) ((1-a:Nat):Int) (cV (s+1) (dM l))=x at *;rcases r2.err with ⟨hz,hd⟩ | hz
 ·right;obtain⟨f1,f2,f3⟩:=oH hz;rw [<- hx] at f1;obtain⟨g1,g2,g3⟩:=xq f1;rw [hx] at g3;have dy:=r1.ok;have pN:=fun k=>eh dy f2 k
  refine⟨hz,r2.ok,?_,hd,r2.len,fun k hk=>(r2.only k hk).2,?_⟩
  ·rw [f3];exact(pN 0).2.1
  ·show(eD x).1.secs.getD (1-a) []=_
   rw [f3,(pN _).1,g3,qy g2,if_pos rfl]
 ·left;refine⟨hz,r2.ok,r2.len,?_⟩;by_cases DO:x.2=0
  ·have hf:x.1.dP=9:=by unfold eD at hz;rw [if_pos DO] at hz;exact hz
   have e1:(eD x).1=x.1.bI:=by unfold eD;rw [if_pos DO]
   rw [e1];refine zc8 h hv hs (fun k hk=>?_) ?_ ?_
   ·rw [(ka hf).1,(ka hf).2];exact r1.only k hk
   ·rw [(ka hf).1];exact zcO
   ·rw [(ka hf).2];exact Xz
  ·rw [Bt DO];exact zc8 h hv hs r1.only zcO Xz
theorem Bc(h:fW D L s P a nl)(SA:s<=999)(hv:Valid L l)(hb:∀ k,k<l.length->bj (l.getD k (0,[])).2) :
  ((bC D s l).2=0/\fW (bC D s l).1 L (s+1) (Hk P l) (1-a) (l.map (·.1))/\(bC D s l).1.secs.length=D.secs.length) \/
  ((bC D s l).2=9/\(bC D s l).1.Ok/\(bC D s l).1.secs.length=D.secs.length/\Cut (bC D s l).1 L s P l):=by
 have hra:=zcA h hv hb;unfold bC;rcases hra.err with ⟨he,_⟩ | he
 ·have hs:=aside h hv hb he;have ex:fq D ((s+1) % 2) l=((fq D ((s+1) % 2) l).1,0):=Prod.ext rfl he;generalize (fq D ((s+1) % 2) l).1=E at hs ex;rw [ex];rcases zg6 h hv hs with ⟨b1,b2,b3,b4⟩ | ⟨b1,b2,b3,b4,b5,b6,b7⟩
  ·rw [yl (by rw [b1];decide)];exact .inr ⟨b1,b2,b3,b4⟩
  ·have ey:cM (E,0) ((s+1) % 2) (s+1) l=((cM (E,0) ((s+1) % 2) (s+1) l).1,0):=Prod.ext rfl b1;generalize (cM (E,0) ((s+1) % 2) (s+1) l).1=F at b2 b3 b4 b5 b6 b7 ey;rw [ey];have h2:=h.two;have gP:=h.s1;have hlen:=h.len;have hvl:=hv.len;have r0:Cx (fun k=>∃ j,j<l.length/\(k:Int)=48+(l.getD j (0,[])).1) (fK F) D.secs.length (F,0):=⟨b2,l6 b3 _,b5,.inl ⟨rfl,b4⟩⟩;have r1:=r0.ws (f:=fun i=>(48+(l.getD i (0,[])).1,(l.getD i (0,[])).2)) l.length (fun j hj=>by have hn:=hv.num j hj;refine⟨?_,?_,⟨hv.body j hj,hb j hj⟩,j,hj,?_⟩ <;> (dsimp only;omega));have r2:=r1.f;have zk0:∀ v:Nat->List Int,(∀ k:Nat,¬ (∃ j,j<l.length/\(k:Int)=48+(l.getD j (0,[])).1)->v k=fK F k)->Rec L v (s+1) (Hk P l):=fun v e=>by
    refine hs.Vr h hv (fun k hk hn=>?_) ?_
    ·rw [e k (fun⟨j,hj,gO⟩=>hn j hj gO),b6 k hk]
    ·rw [e (1-a) (fun⟨j,hj,gO⟩=>by have:=hv.num j hj;omega),b7]
   unfold jD;rcases r2.err with ⟨hz,hd⟩ | hz
   ·left;refine⟨hz,?_,r2.len⟩;obtain⟨f1,f2,f3⟩:=oH hz;have pN:=fun k=>eh r1.ok f2 k
    have hw:=zn l.length f1 (fun i j hi hj e=>by
     dsimp only at e ⊢;rcases Nat.lt_trichotomy i j with h3 | h3 | h3
     ·exact absurd (by omega) (hv.apart i j h3 hj)
     ·rw [h3]
     ·exact absurd (by omega) (hv.apart j i h3 hi))
    have mn:∀ k:Nat,¬ (∃ j,j<l.length/\(k:Int)=48+(l.getD j (0,[])).1)->fK (eD (kT (F,0) (fun i=>(48+(l.getD i (0,[])).1,(l.getD i (0,[])).2)) l.length)).1 k=fK F k:=fun k hk=>(r2.only k hk).2
    have nG:∀ k:Nat,k<48->fK (eD (kT (F,0) (fun i=>(48+(l.getD i (0,[])).1,(l.getD i (0,[])).2)) l.length)).1 k=fK F k:=fun k hk=>mn k (fun⟨j,hj,gO⟩=>by have:=hv.num j hj;omega)
    have hm:=(rM hv (show 1<=s+1 by omega) (by omega)).2;have ha1:1-(1-a)=a:=by omega
    have XX:fK (eD (kT (F,0) (fun i=>(48+(l.getD i (0,[])).1,(l.getD i (0,[])).2)) l.length)).1 a=fK D a:=by rw [nG a (by omega),b6 a (by omega),hs.same a (by unfold C5;omega)]
    have hfa:=fC (eE h.ok.sec (show a<D.secs.length by omega)).2 h.Th;refine⟨r2.ok,?_,hd,by rw [r2.len];exact hlen,h.lt,by omega,?_,by omega,by omega,?_,fun k hk=>?_,fun i hi=>?_,?_,?_,?_⟩
    ·rw [f3];exact(pN 0).2.1
    ·have:=h.even;rcases h2 with rfl | rfl <;> omega
    ·show mark L (fK _ (1-a))=_
     rw [nG (1-a) (by omega),b7];exact hm
    ·have SP:k<l.length:=by simpa using hk
     show fK _ _=_
     rw [nG _ (by omega),b6 _ (by omega),hs.body k SP,wR l SP,EU hv SP]
    ·show fK _ (48+i)=_
     by_cases eQ:∃ j,j<l.length/\((48+i:Nat):Int)=48+(l.getD j (0,[])).1
     ·obtain⟨j,hj,gO⟩:=eQ;have hn:=hv.num j hj;have e1:=hw.2.1 j hj;dsimp only at e1;rw [show(48+(l.getD j (0,[])).1).toNat=48+i by omega] at e1
      show(eD _).1.secs.getD (48+i) []=_
      rw [f3,(pN _).1,e1,<- EU (P:=P) hv hj,show(l.getD j (0,[])).1.toNat=i by omega]
     ·rw [mn _ eQ,b6 _ (by omega),hs.same _ (by unfold C5;omega),rl (fun iP=>eQ (by
       obtain⟨q,hq,hqe⟩:=List.mem_map.1 iP;obtain⟨j,hj,D3⟩:=List.getElem_of_mem hq;have hg:l.getD j (0,[])=q:=by simp [List.getD,hj,D3]
       exact⟨j,hj,by rw [hg];omega⟩))]
      exact h.iy i hi
    ·rw [ha1]
     show(fK _ a).take 4=(fK _ a).drop 28
     rw [XX];exact hfa.2.2.2.1
    ·rw [ha1]
     show(fK _ a).take 4≠_
     rw [XX];intro e;have e1:=hfa.2.2.2.2.1;rw [show(D.secs.getD a []).take 4=side (s+1+1) from e,jY (s+1+1) (by omega) (by omega)] at e1;omega
    ·rw [ha1]
     show ∀ t l',mark L (fK _ a)=some (t,l')->t<s+1
     rw [XX];intro t l' ht;have hg:mark L (fK D a)=some (s,nl):=h.Th;rw [hg] at ht;have:s=t:=by simpa using congrArg (fun o:Option (Int×List Int)=>(o.map (·.1)).getD 0) ht
     omega
   ·right;exact⟨hz,r2.ok,r2.len,fun v hp=>.inr (zk0 v (fun k hk=>r2.only.zaQ hk (hp k)))⟩
 ·right;rw [Kk (by rw [he];decide),yl (by rw [he];decide)];exact⟨he,hra.ok,hra.len,fun v hp=>.inl (zi4 h hra.only v hp)⟩
end
def ef(D:DS)(a:Nat)(l:List Int):DS×Int:=eD (kT (D,0) (fun i=>(48+l.getD i 0,D.rd (2+23 * a+i))) l.length)
structure tw (D E:DS) (L:Nat) (P:Nat->List Int):Prop where
  ok:E.Ok
  mem:E.mem=[]
  down:E.down=false
  len:E.secs.length=D.secs.length
  low:∀ k,k<48->fK E k=fK D k
  iy:∀ i,i<L->fK E (48+i)=P i
theorem s8{D:DS}(h:D.mem=[])(k:Nat):D.rd k=fK D k:=by unfold DS.rd fK;rw [h];rfl
theorem nV{l:List Int}{k:Nat}(hk:k<l.length):l.getD k 0∈l:=by rw [List.getD_eq_getElem?_getD,zLg hk];exact List.getElem_mem hk
theorem VP{D:DS}{L:Nat}{s:Int}{P:Nat->List Int}(dy:D.Ok)(hm:D.mem=[])(hd:D.down=false)(hlen:48+L<=D.secs.length)(hr:Rec L (fK D) s P) :
    ∃ a l,mK L (fK D 0) (fK D 1)=(s,a,l)/\0<s/\(a=0\/a=1)/\l.length<=23/\(∀ z∈l,0<=z/\z<L) /\
      (((ef D a l).2=0/\tw D (ef D a l).1 L P) \/
       ((ef D a l).2=9/\(ef D a l).1.Ok/\(ef D a l).1.secs.length=D.secs.length/\∀ v:Nat->List Int,(∀ k,T2 (ef D a l).1 k (v k))->Rec L v s P)):=by
  obtain⟨a,l,h2,hg,PH,hs,DV,M8⟩:=hr;have hf:=fC (eE dy.sec (show a<D.secs.length by omega)).2 hg;refine⟨a,l,zcf h2 hg PH hs,hs,h2,hf.2.1,hf.2.2.1,?_⟩;have hl:=hf.2.1;have ou:=hf.2.2.1;have r0:Cx (fun k=>∃ j,j<l.length/\(k:Int)=48+l.getD j 0) (fK D) D.secs.length (D,0):=⟨dy,l6 hm _,rfl,.inl ⟨rfl,hd⟩⟩;have r1:=r0.ws (f:=fun i=>(48+l.getD i 0,D.rd (2+23 * a+i))) l.length (fun j hj=>by have hn:=ou _ (nV hj);refine⟨?_,?_,dy.rd (by omega),j,hj,?_⟩ <;> (dsimp only;omega));have r2:=r1.f;unfold ef;rcases r2.err with ⟨hz,hdz⟩ | hz
  · left
    obtain⟨f1,f2,f3⟩:=oH hz;have pN:=fun k=>eh r1.ok f2 k
    have hw:=zn l.length f1 (fun i j hi hj e=>by dsimp only at e ⊢;rw [s8 hm,s8 hm,DV i hi,DV j hj,show l.getD i 0=l.getD j 0 by omega]);refine⟨hz,r2.ok,by rw [f3];exact(pN 0).2.1,hdz,r2.len,fun k hk=>(r2.only k (fun⟨j,hj,gO⟩=>by have:=ou _ (nV hj);omega)).2,fun i hi=>?_⟩;by_cases eQ:(i:Int)∈l
    · obtain⟨j,hj,D3⟩:=List.getElem_of_mem eQ
      have hjd:l.getD j 0=(i:Int):=by rw [List.getD_eq_getElem?_getD,zLg hj,D3];rfl
      have e1:=hw.2.1 j hj;dsimp only at e1;rw [hjd,show(48+(i:Int)).toNat=48+i by omega,s8 hm,DV j hj,hjd,zTn] at e1
      show(eD _).1.secs.getD (48+i) []=_
      rw [f3,(pN _).1,e1]
    · have gI:¬ ∃ j,j<l.length/\((48+i:Nat):Int)=48+l.getD j 0:=fun⟨j,hj,gO⟩=>eQ (by have:=nV hj;rwa [show l.getD j 0=(i:Int) by omega] at this)
      have e1:fK (eD (kT (D,0) (fun i=>(48+l.getD i 0,D.rd (2+23 * a+i))) l.length)).1 (48+i)=fK D (48+i):=(r2.only _ gI).2;rw [e1];exact M8 i hi eQ
  · right
    refine⟨hz,r2.ok,r2.len,fun v hp=>?_⟩;have e:∀ k:Nat,¬ (∃ j,j<l.length/\(k:Int)=48+l.getD j 0)->v k=fK D k:=fun k hk=>r2.only.zaQ hk (hp k)
    have low:∀ k:Nat,k<48->v k=fK D k:=fun k hk=>e k (fun⟨j,hj,gO⟩=>by have:=ou _ (nV hj);omega)
    refine⟨a,l,h2,?_,?_,hs,fun k hk=>?_,fun i hi eQ=>?_⟩
    · rw [low a (by omega)];exact hg
    · rw [low (1-a) (by omega)];exact PH
    · rw [low _ (by omega)];exact DV k hk
    · rw [e (48+i) (fun⟨j,hj,gO⟩=>eQ (by have:=nV hj;rwa [show l.getD j 0=(i:Int) by omega] at this))]
      exact M8 i hi eQ
theorem tw.again{D E:DS}{L:Nat}{s:Int}{P:Nat->List Int}(h:tw D E L P)(hr:Rec L (fK D) s P)(dy:D.Ok)(hlen:48+L<=D.secs.length):Rec L (fK E) s P:=by
  obtain⟨a,l,h2,hg,PH,hs,DV,M8⟩:=hr;have hf:=fC (eE dy.sec (show a<D.secs.length by omega)).2 hg;refine⟨a,l,h2,?_,?_,hs,fun k hk=>?_,fun i hi _=>h.iy i hi⟩
  · rw [h.low a (by omega)];exact hg
  · rw [h.low (1-a) (by omega)];exact PH
  · rw [h.low _ (by have:=hf.2.1;omega)];exact DV k hk
theorem fW.opened{D E:DS}{L:Nat}{s:Int}{P:Nat->List Int}{a:Nat}{l:List Int}(h:fW D L s P a l)(ho:tw D E L P):fW E L s P a l:=by
  have h2:=h.two;have hlen:=h.len;have hf:=fC (eE h.ok.sec (show a<D.secs.length by omega)).2 h.Th;have low:∀ k,k<48->E.secs.getD k []=D.secs.getD k []:=ho.low;refine⟨ho.ok,ho.mem,ho.down,by rw [ho.len];exact hlen,h.lt,h.two,h.even,h.s1,h.s2,?_,fun k hk=>?_,ho.iy,?_,?_,?_⟩
  · rw [low a (by omega)];exact h.Th
  · rw [low _ (by have:=hf.2.1;omega)];exact h.Rn k hk
  · rw [low (1-a) (by omega)];exact h.other
  · rw [low (1-a) (by omega)];exact h.u7
  · rw [low (1-a) (by omega)];exact h.less
def cI(D:DS):DS×Int:=eD (eJ (eJ (D,0) 0 (cV 2 [])) 1 (ag 32))
theorem rz:kS (ag 32):=⟨aj 32,bW 32⟩
theorem yZ:kS (cV 2 []):=⟨gg 2 [] (by decide),qV 2 [] (fun z hz=>by cases hz)⟩
theorem Wt(L:Nat):mark L (cV 2 [])=some (2,[]):=by
  unfold mark;rw [lD 2 [] (by decide) (by decide) (by decide)];rw [if_pos]
  · rfl
  · refine⟨rfl,by decide,fun z hz=>?_⟩
    have:gT ([]++ag (24-([]:List Int).length))=[]:=by decide
    rw [this] at hz;cases hz
theorem MH(L:Nat):mark L (ag 32)=none:=by
  unfold mark;have:(cg (ag 32)).2.2=5:=by decide
  rw [if_neg];rintro ⟨h,_⟩;rw [this] at h;cases h
theorem pC(n:Nat)(h:48<n)(hn:n<=300)(L:Nat)(hL:48+L<=n)(JX:L<=200):(cI (DS.new n)).2=0/\fW (cI (DS.new n)).1 L 2 (fun _=>ag 32) 0 []/\(cI (DS.new n)).1.secs.length=n:=by
  have hlen:(DS.new n).secs.length=n:=by simp [DS.new]
  have r0:Cx (fun k=>k=0\/k=1) (fK (DS.new n)) n (DS.new n,0):=⟨DS.VS n hn,l6 rfl _,hlen,.inl ⟨rfl,rfl⟩⟩;have r1:=r0.w (i:=0) (b:=cV 2 []) (by omega) (by omega) yZ (.inl rfl);have r2:=r1.w (i:=1) (b:=ag 32) (by omega) (by omega) rz (.inr rfl);have r3:=r2.f;have e1:(DS.new n).cX 0 (cV 2 [])=0:=by unfold DS.cX;rw [if_neg (by rw [hlen];omega),if_neg (by rw [yZ.1];decide)];rfl
  have kU:((DS.new n).write 0 (cV 2 [])).left=-1:=by rw [tP e1];rfl
  have XQ:=sR e1;have e2:((DS.new n).write 0 (cV 2 [])).cX 1 (ag 32)=0:=by unfold DS.cX;rw [if_neg (by rw [jU,hlen];omega),if_neg (by rw [aj];decide),if_neg (by rw [XQ];exact Bool.false_ne_true),if_neg (by rw [kU];decide)]
  have lR:(((DS.new n).write 0 (cV 2 [])).write 1 (ag 32)).left=-1:=by rw [tP e2];unfold DS.step;have:(((DS.new n).write 0 (cV 2 [])).put (1:Int).toNat (ag 32)).left=-1:=kU;rw [if_neg (by rw [this];decide),if_neg (by rw [this];decide)];exact kU
  have hd2:=sR e2;have x1:eJ (DS.new n,0) 0 (cV 2 [])=((DS.new n).write 0 (cV 2 []),0):=by unfold eJ;rw [if_pos rfl,e1]
  have x2:eJ (eJ (DS.new n,0) 0 (cV 2 [])) 1 (ag 32)=(((DS.new n).write 0 (cV 2 [])).write 1 (ag 32),0):=by rw [x1];unfold eJ;rw [if_pos rfl,e2]
  have e3:(((DS.new n).write 0 (cV 2 [])).write 1 (ag 32)).dP=0:=by unfold DS.dP;rw [if_neg (by rw [hd2];exact Bool.false_ne_true),if_neg (by rw [lR];decide)]
  have x3:cI (DS.new n)=((((DS.new n).write 0 (cV 2 [])).write 1 (ag 32)).bI,0):=by unfold cI;rw [x2];unfold eD;rw [if_pos rfl,e3]
  have zk2:(((DS.new n).write 0 (cV 2 [])).write 1 (ag 32)).Ok:=by have:=r2.ok;rw [x2] at this;exact this
  have pN:=fun k=>eh zk2 e3 k
  have hi:∀ k,fK (((DS.new n).write 0 (cV 2 [])).write 1 (ag 32)).bI k=if (k:Int)=1 then ag 32 else if (k:Int)=0 then cV 2 [] else fK (DS.new n) k:=fun k=>by
    show(DS.bI _).secs.getD k []=_
    rw [(pN k).1,qy e2,qy e1];rfl
  have hz:∀ k,k<n->fK (DS.new n) k=ag 32:=fun k hk=>by
    show(List.replicate n (List.replicate 32 (0:Int))).getD k []=_
    simp [List.getD,hk,ag]
  have h3:=r3.ok;have lQ:=r3.len;change (cI (DS.new n)).1.Ok at h3;change (cI (DS.new n)).1.secs.length=n at lQ;rw [x3] at h3 lQ;rw [x3];have i0:fK (((DS.new n).write 0 (cV 2 [])).write 1 (ag 32)).bI 0=cV 2 []:=by rw [hi 0,if_neg (by decide),if_pos (by decide)]
  have i1:fK (((DS.new n).write 0 (cV 2 [])).write 1 (ag 32)).bI 1=ag 32:=by rw [hi 1,if_pos (by decide)]
  refine⟨rfl,⟨h3,(pN 0).2.1,(pN 0).2.2,by show 48+L<=(DS.bI _).secs.length;rw [lQ];exact hL,JX,.inl rfl,by decide,by decide,by decide,?_,fun k hk=>?_,fun i hL3=>?_,?_,?_,?_⟩,lQ⟩
  · show mark L (fK _ 0)=_
    rw [i0];exact Wt L
  · cases hk
  · show fK _ (48+i)=_
    rw [hi,if_neg (by omega),if_neg (by omega),hz _ (by omega)]
  · show(fK _ 1).take 4=(fK _ 1).drop 28
    rw [i1];rfl
  · show(fK _ 1).take 4≠_
    rw [i1];exact fun e=>Fh (n:=2+1) (by decide) (by decide) e.symm
  · show ∀ t l',mark L (fK _ 1)=some (t,l')->t<2
    rw [i1,MH];intro t l' ht;cases ht
def aG(D:DS)(s:Int)(L:Nat)(l:List (Int×List Int)):DS×Int×Int :=if cO L l≠0 then (D,s,cO L l) else if D.down then (D,s,9) else if l=[] then (D,s,0) else ((bC D s l).1,if (bC D s l).2=0 then s+1 else s,(bC D s l).2)
def fO(D:DS)(L:Nat):DS×Int×Int :=
 if D.down then (D,0,9) else if (mK L (D.rd 0) (D.rd 1)).1=0 then (D,0,5) else
  ((ef D (mK L (D.rd 0) (D.rd 1)).2.1 (mK L (D.rd 0) (D.rd 1)).2.2).1,if (ef D (mK L (D.rd 0) (D.rd 1)).2.1 (mK L (D.rd 0) (D.rd 1)).2.2).2=0 then (mK L (D.rd 0) (D.rd 1)).1 else 0,(ef D (mK L (D.rd 0) (D.rd 1)).2.1 (mK L (D.rd 0) (D.rd 1)).2.2).2)
def lk(x:DS×Int):Prop:=x.1.left<0/\(x.2=0->x.1.down=false)/\x.2≠9
theorem CS{D:DS}(h:D.left<0):D.step=D:=by unfold DS.step;rw [if_neg (by omega),if_neg (by omega)]
theorem lk.w{x:DS×Int}(h:lk x)(i:Int)(b:List Int):lk (eJ x i b):=by
 unfold eJ;split
 ·rename_i hx
  have hd:=h.2.1 hx;have he:x.1.cX i b≠9:=by
   unfold DS.cX;split
   ·decide
   ·split
    ·decide
    ·rw [if_neg (by rw [hd];exact Bool.false_ne_true),if_neg (by have:=h.1;omega)];decide
  have hl:(x.1.write i b).left<0/\(x.1.write i b).down=false:=by
   unfold DS.write;split
   ·exact⟨h.1,hd⟩
   ·rw [CS (show(x.1.put i.toNat b).left<0 from h.1)];exact⟨h.1,hd⟩
  exact⟨hl.1,fun _=>hl.2,he⟩
 ·exact h
theorem lk.f{x:DS×Int}(h:lk x):lk (eD x):=by
 unfold eD;split
 ·rename_i hx
  have hd:=h.2.1 hx;have h1:=h.1;have he:x.1.dP=0:=by unfold DS.dP;rw [if_neg (by rw [hd];exact Bool.false_ne_true),if_neg (by omega)]
  obtain⟨e1,e2⟩:=J6 he;refine⟨?_,fun _=>?_,by show x.1.dP≠9;rw [he];decide⟩
  ·show x.1.bI.left<0
   rw [e1,CS h.1];exact h.1
  ·show x.1.bI.down=false
   rw [e1];exact e2
 ·exact h
theorem lk.ws{x:DS×Int}(h:lk x)(f:Nat->Int×List Int):∀ m,lk (kT x f m)
 | 0=>h
 | m+1=>(lk.ws h f m).w _ _
theorem MN(s:Int)(b:List Int):(gL s b).2≠9:=by
 unfold gL;split
 ·show(1:Int)≠9;decide
 ·split
  ·show(4:Int)≠9;decide
  ·show(0:Int)≠9;decide
theorem lk.NU{D:DS}{s:Int}{l:List (Int×List Int)}(h:D.left<0)(hd:D.down=false):(bC D s l).2≠9/\(bC D s l).1.left<0:=by
 have h0:lk (D,0):=⟨h,fun _=>hd,by show(0:Int)≠9;decide⟩;have h1:lk (fq D ((s+1) % 2) l):=(h0.ws _ _).f;have h2:lk (cM (fq D ((s+1) % 2) l) ((s+1) % 2) (s+1) l):=by
  unfold cM;split
  ·rename_i hx
   split
   ·exact(h1.w _ _).f
   ·rename_i hm
    refine lk.f ⟨h1.1,fun e=>absurd e hm,MN _ _⟩
  ·exact h1.f
 have h3:lk (bC D s l):=(h2.ws _ _).f;exact⟨h3.2.2,h3.1⟩
theorem lk.open{D:DS}{a:Nat}{l:List Int}(h:D.left<0)(hd:D.down=false):(ef D a l).2≠9/\(ef D a l).1.left<0:=by have h0:lk (D,0):=⟨h,fun _=>hd,by show(0:Int)≠9;decide⟩;have h3:lk (ef D a l):=(h0.ws _ _).f;exact⟨h3.2.2,h3.1⟩
structure lz (D:DS) (L:Nat) (s:Int) (P:Nat->List Int):Prop where
 ok:D.Ok
 mem:D.mem=[]
 down:D.down=false
 len:48+L<=D.secs.length
 zdL:Rec L (fK D) s P
theorem fW.ready{D:DS}{L:Nat}{s:Int}{P:Nat->List Int}{a:Nat}{l:List Int}(h:fW D L s P a l):lz D L s P:=⟨h.ok,h.mem,h.down,h.len,h.again⟩
theorem kE{D:DS}{L:Nat}{s:Int}{P:Nat->List Int}(dy:D.Ok)(hlen:48+L<=D.secs.length)(keep:List Bool)(bK:Int)(c:Nat)(hr:Rec L (fK (D.dY keep bK c)) s P):lz (D.dY keep bK c) L s P :=⟨dy.dY keep bK c,rfl,rfl,by show 48+L<=(eI _ _ _ _ _ _).length;rw [gH];exact hlen,hr⟩
theorem kZ{D:DS}(hm:D.mem=[])(keep:List Bool)(bK:Int)(c:Nat):fK (D.dY keep bK c)=fK D:=by
 funext k
 show(eI D.secs D.mem keep bK c D.mem.length).getD k []=_
 rw [hm];rfl
theorem Mj{D:DS}{L:Nat}{s:Int}{P:Nat->List Int}(h:lz D L s P) :
  ((fO D L).2.2=0/\(fO D L).2.1=s/\tw D (fO D L).1 L P/\lz (fO D L).1 L s P/\(D.left<0->(fO D L).1.left<0)) \/
  ((fO D L).2.2=9/\¬ D.left<0/\(fO D L).1.Ok/\48+L<=(fO D L).1.secs.length/\∀ keep bK c,c<=32->lz ((fO D L).1.dY keep bK c) L s P):=by
 obtain⟨a,l,hb,hs,h2,hl,hn,zkZ⟩:=VP h.ok h.mem h.down h.len h.zdL;have e0:fO D L=((ef D a l).1,if (ef D a l).2=0 then s else 0,(ef D a l).2):=by unfold fO;rw [s8 h.mem,s8 h.mem,hb,if_neg (by rw [h.down];exact Bool.false_ne_true),if_neg (show ¬ s=0 by omega)]
 rw [e0];rcases zkZ with ⟨r1,r2⟩ | ⟨r1,r2,r3,r4⟩
 ·left;refine⟨r1,by show(if (ef D a l).2=0 then s else 0)=s;rw [if_pos r1],r2,⟨r2.ok,r2.mem,r2.down,by rw [r2.len];exact h.len,r2.again h.zdL h.ok h.len⟩,fun tl=>(lk.open tl h.down).2⟩
 ·right;refine⟨r1,fun tl=>(lk.open tl h.down).1 r1,r2,by rw [r3];exact h.len,fun keep bK c hc=>kE r2 (by rw [r3];exact h.len) keep bK c (r4 _ (Bb r2 keep bK c hc))⟩
theorem Kj{D:DS}{L:Nat}{s:Int}{P:Nat->List Int}{a:Nat}{nl:List Int}(h:fW D L s P a nl)(SA:s<=999)(hl:D.left<0)(m:List (Int×List Int))(hb:∀ k,k<m.length->bj (m.getD k (0,[])).2) :
  (cO L m≠0/\aG D s L m=(D,s,cO L m))\/(m=[]/\aG D s L m=(D,s,0)) \/
  (m≠[]/\Valid L m/\(aG D s L m).2=(s+1,0)/\fW (aG D s L m).1 L (s+1) (Hk P m) (1-a) (m.map (·.1))/\(aG D s L m).1.left<0):=by
 by_cases h1:cO L m≠0
 ·exact .inl ⟨h1,by unfold aG;rw [if_pos h1]⟩
 ·have hv:=qp (show cO L m=0 by omega);by_cases h2:m=[]
  ·exact .inr (.inl ⟨h2,by unfold aG;rw [if_neg h1,if_neg (by rw [h.down];exact Bool.false_ne_true),if_pos h2]⟩)
  ·have e:aG D s L m=((bC D s m).1,if (bC D s m).2=0 then s+1 else s,(bC D s m).2):=by unfold aG;rw [if_neg h1,if_neg (by rw [h.down];exact Bool.false_ne_true),if_neg h2]
   have PQ:=lk.NU (s:=s) (l:=m) hl h.down;rcases Bc h SA hv hb with ⟨r1,r2,r3⟩ | ⟨r1,_⟩
   ·rw [e];refine .inr (.inr ⟨h2,hv,?_,r2,PQ.2⟩)
    show(if (bC D s m).2=0 then s+1 else s,(bC D s m).2)=(s+1,0)
    rw [if_pos r1,r1]
   ·exact absurd r1 PQ.1
def prt(L:List Int)(i:Nat):List Int:=(L.drop (32 * i)).take 32
theorem FF{L:List Int}{m i:Nat}(hL:L.length=32 * m)(hi:i<m):(prt L i).length=32:=by unfold prt;rw [zLt,zLd];omega
theorem O9{L:List Int}{m i:Nat}(hL:L.length=32 * m)(hi:m<=i):prt L i=[]:=by unfold prt;rw [List.drop_eq_nil_of_le (by omega)];rfl
theorem Pa{L:List Int}(hb:bj L)(i:Nat):bj (prt L i):=fun x hx=>hb x (List.mem_of_mem_drop (List.mem_of_mem_take hx))
theorem IK{L:List Int}{i j:Nat}(hj:j<32):(prt L i).getD j 0=L.getD (32 * i+j) 0:=by unfold prt;simp [List.getD,hj]
def oe(P:Nat->List Int):Nat->List Int
 | 0=>[]
 | m+1=>oe P m++P m
theorem As(L:List Int):∀ m,32 * m<=L.length->oe (prt L) m=L.take (32 * m)
 | 0,_=>rfl
 | m+1,h=>by
  show oe (prt L) m++prt L m=_
  rw [As L m (by omega)];unfold prt;rw [show 32 * (m+1)=32 * m+32 by omega,List.take_add]
theorem DH{L:List Int}{m:Nat}(h:L.length=32 * m):oe (prt L) m=L:=by rw [As L m (by omega),List.take_of_length_le (by omega)]
theorem Au{P Q:Nat->List Int}:∀ m,(∀ i,i<m->P i=Q i)->oe P m=oe Q m
 | 0,_=>rfl
 | m+1,h=>by
  show oe P m++P m=oe Q m++Q m
  rw [Au m (fun i hi=>h i (by omega)),h m (by omega)]
def ff(K L:List Int)(m:Nat):List Nat:=(List.range m).filter fun i=>decide (prt K i≠prt L i)
theorem ur{K L:List Int}{m i:Nat}:i∈ff K L m ↔ i<m/\prt K i≠prt L i:=by unfold ff;rw [List.mem_filter,List.mem_range,decide_eq_true_iff]
theorem zb5(K L:List Int)(m:Nat):(ff K L m).Pairwise (·<·):=List.Pairwise.filter _ List.pairwise_lt_range
def kd(K L:List Int)(m:Nat):List (Int×List Int):=(ff K L m).map fun i:Nat=>((i:Int),prt L i)
theorem u9(K L:List Int)(m:Nat):(kd K L m).length=(ff K L m).length:=by unfold kd;simp
theorem NP{K L:List Int}{m k:Nat}(hk:k<(kd K L m).length):∃ i,i∈ff K L m/\(ff K L m)[k]?=some i/\(kd K L m).getD k (0,[])=((i:Int),prt L i):=by rw [u9] at hk;refine⟨(ff K L m)[k],List.getElem_mem hk,zLg hk,?_⟩;unfold kd;simp [List.getD,hk]
theorem Qc{K L:List Int}{m:Nat}(hb:bj L):∀ k,k<(kd K L m).length->bj ((kd K L m).getD k (0,[])).2:=fun k hk=>by obtain⟨i,_,_,e⟩:=NP hk;rw [e];exact Pa hb i
theorem TA{K L:List Int}{m:Nat}(hL:L.length=32 * m){k:Nat}(hk:k<(kd K L m).length):iF m (kd K L m) k=0:=by
 obtain⟨i,hi,Z8,e⟩:=NP hk;obtain⟨h1,_⟩:=ur.1 hi;unfold iF;rw [e,if_neg (by dsimp only;omega),if_neg (by dsimp only;rw [FF hL h1];decide),if_neg];intro h;obtain⟨j,hj,D3⟩:=List.any_eq_true.1 h;have hjk:=List.mem_range.1 hj;obtain⟨i',hi',zli,e'⟩:=NP (K:=K) (L:=L) (m:=m) (k:=j) (by omega);rw [e'] at D3;have:(i':Int)=(i:Int):=by simpa using D3
 have h2:i'=i:=by omega
 subst h2;obtain⟨q1,q2⟩:=zLs Z8;obtain⟨q3,q4⟩:=zLs zli;have:=List.pairwise_iff_getElem.1 (zb5 K L m) j k q3 q1 hjk;omega
theorem Qb{K L:List Int}{m:Nat}(hL:L.length=32 * m):∀ n,n<=(kd K L m).length->chkK m (kd K L m) n=0
 | 0,_=>rfl
 | n+1,h=>by
  show(if chkK m (kd K L m) n=0 then iF m (kd K L m) n else chkK m (kd K L m) n)=0
  rw [if_pos (Qb hL n (by omega))];exact TA hL (by omega)
theorem NO{K L:List Int}{m:Nat}(hL:L.length=32 * m):cO m (kd K L m)=if 23<(ff K L m).length then 4 else 0:=by
 unfold cO;rw [u9];by_cases h:23<(ff K L m).length
 ·rw [if_pos h,if_pos h]
 ·rw [if_neg h,if_neg h,<- u9];exact Qb hL _ zNr
theorem OM{K L:List Int}{m:Nat}(hK:K.length=32 * m)(hL:L.length=32 * m):Hk (prt K) (kd K L m)=prt L:=by
 funext i;by_cases hi:i∈ff K L m
 ·unfold Hk;cases hf:(kd K L m).find? (fun q=>q.1 == (i:Int)) with
  | none =>have:=List.find?_eq_none.1 hf ((i:Int),prt L i) (List.mem_map.2 ⟨i,hi,rfl⟩);simp at this
  | some q =>
   have h1:=List.find?_some hf;have h2:=List.mem_of_find?_eq_some hf;obtain⟨j,hj,rfl⟩:=List.mem_map.1 h2;have:(j:Int)=(i:Int):=by simpa using h1
   have e:j=i:=by omega
   rw [e]
 ·rw [rl (fun h=>by
   obtain⟨q,hq,e⟩:=List.mem_map.1 h;obtain⟨j,hj,rfl⟩:=List.mem_map.1 hq;have e':(j:Int)=(i:Int):=e;have e2:j=i:=by omega
   exact hi (e2 ▸ hj))]
  by_cases hm:i<m
  ·exact Classical.byContradiction fun aO=>hi (ur.2 ⟨hm,aO⟩)
  ·rw [O9 hK (by omega),O9 hL (by omega)]
theorem zf{K L:List Int}{m:Nat}(hK:K.length=32 * m)(hL:L.length=32 * m):kd K L m=[] ↔ K=L:=by
 constructor
 ·intro h;have h0:ff K L m=[]:=List.map_eq_nil_iff.1 h;rw [<- DH hK,<- DH hL];refine Au m (fun i hi=>Classical.byContradiction fun aO=>?_);have:=ur.2 ⟨hi,aO⟩;rw [h0] at this;cases this
 ·rintro rfl;unfold kd ff;rw [List.map_eq_nil_iff,List.filter_eq_nil_iff];intro i _;simp
section
variable {D:DS} {m:Nat} {s:Int} {K L:List Int} {a:Nat} {nl:List Int}
theorem Q2(h:fW D m s (prt K) a nl)(SA:s<=999)(hl:D.left<0)(hK:K.length=32 * m)(hL:L.length=32 * m)(hb:bj L) :
  (23<(ff K L m).length/\aG D s m (kd K L m)=(D,s,4))\/(K=L/\aG D s m (kd K L m)=(D,s,0)) \/
  (K≠L/\(ff K L m).length<=23/\(aG D s m (kd K L m)).2=(s+1,0)/\fW (aG D s m (kd K L m)).1 m (s+1) (prt L) (1-a) ((kd K L m).map (·.1))/\(aG D s m (kd K L m)).1.left<0):=by
 have hce:=NO (K:=K) hL;rcases Kj h SA hl (kd K L m) (Qc hb) with ⟨h1,h2⟩ | ⟨h1,h2⟩ | ⟨h1,h2,h3,h4,h5⟩
 ·rw [hce] at h1 h2;by_cases h23:23<(ff K L m).length
  ·rw [if_pos h23] at h2;exact .inl ⟨h23,h2⟩
  ·rw [if_neg h23] at h1;exact absurd rfl h1
 ·exact .inr (.inl ⟨(zf hK hL).1 h1,h2⟩)
 ·rw [OM hK hL] at h4;have hle:=h2.len;rw [u9] at hle;exact .inr (.inr ⟨fun e=>h1 ((zf hK hL).2 e),hle,h3,h4,h5⟩)
theorem fW.fK{E:DS}{P:Nat->List Int}(h:fW D m s P a nl)(ok:E.Ok)(mem:E.mem=[])(down:E.down=false)(len:E.secs.length=D.secs.length)(hi:∀ k,E.secs.getD k []=D.secs.getD k []):fW E m s P a nl :=⟨ok,mem,down,by rw [len];exact h.len,h.lt,h.two,h.even,h.s1,h.s2,by rw [hi];exact h.Th,fun k hk=>by rw [hi];exact h.Rn k hk,fun i hL=>by rw [hi];exact h.iy i hL,by rw [hi];exact h.other,by rw [hi];exact h.u7,by rw [hi];exact h.less⟩
def eG(D:DS)(m:Nat):DS×Int:=eD (kT (D,0) (fun i=>(48+(i:Int),ag 32)) m)
theorem QA(h:fW D m s (fun _=>ag 32) a nl)(hl:D.left<0):(eG D m).2=0/\fW (eG D m).1 m s (fun _=>ag 32) a nl/\(eG D m).1.secs.length=D.secs.length/\(eG D m).1.left<0:=by
 have hlen:=h.len;have r0:Cx (fun k=>48<=k/\k<48+m) (fK D) D.secs.length (D,0):=⟨h.ok,l6 h.mem _,rfl,.inl ⟨rfl,h.down⟩⟩;have r1:=r0.ws (f:=fun i=>(48+(i:Int),ag 32)) m (fun j hj=>⟨by dsimp only;omega,by dsimp only;omega,rz,by dsimp only;omega,by dsimp only;omega⟩);have r2:=r1.f;have ev:lk (eG D m):=(lk.ws (x:=(D,0)) ⟨hl,fun _=>h.down,by show(0:Int)≠9;decide⟩ _ _).f;have e0:(eG D m).2=0:=by
  rcases r2.err with ⟨e,_⟩ | e
  ·exact e
  ·exact absurd e ev.2.2
 obtain⟨f1,f2,f3⟩:=oH (x:=kT (D,0) (fun i=>(48+(i:Int),ag 32)) m) e0;obtain⟨_,g2,g3⟩:=zn m f1 (fun i j _ _ _=>rfl);have pN:=fun k=>eh r1.ok f2 k
 have mF:(eG D m).1.mem=[]:=by show(eD _).1.mem=[];rw [f3];exact(pN 0).2.1
 have zim:(eG D m).1.down=false:=by show(eD _).1.down=false;rw [f3];exact(pN 0).2.2
 have hi:∀ k,(eG D m).1.secs.getD k []=D.secs.getD k []:=fun k=>by
  show(eD _).1.secs.getD k []=_
  rw [f3,(pN k).1];by_cases hk:48<=k/\k<48+m
  ·have:=g2 (k-48) (by omega);dsimp only at this;rw [show(48+((k-48:Nat):Int)).toNat=k by omega] at this;rw [this];have hp:=h.iy (k-48) (by omega);rw [show 48+(k-48)=k by omega] at hp;exact hp.symm
  ·rw [g3 k (fun j hj e=>hk (by dsimp only at e;omega))];unfold DS.rd;rw [h.mem];rfl
 exact⟨e0,h.fK r2.ok mF zim r2.len hi,r2.len,ev.1⟩
end
theorem Br{x:DS×Int}(h:x.2≠0)(i:Int)(b:List Int):eJ x i b=x:=by unfold eJ;rw [if_neg h]
theorem ib{x:DS×Int}(h:x.2≠0):eD x=x:=by unfold eD;rw [if_neg h]
theorem vJ{x:DS×Int}(h:x.2≠0)(f:Nat->Int×List Int):∀ m,kT x f m=x
 | 0=>rfl
 | m+1=>by
  show eJ (kT x f m) _ _=x
  rw [vJ h f m,Br h]
theorem qk{x:DS×Int}{f:Nat->Int×List Int}{k:Nat}(h:(kT x f k).2≠0):∀ m,k<=m->kT x f m=kT x f k
 | 0,hm=>by rw [show k=0 by omega]
 | m+1,hm=>by
  by_cases e:k=m+1
  ·rw [e]
  ·show eJ (kT x f m) _ _=_
   rw [qk h m (by omega),Br h]
theorem zg{x:DS×Int}(h:x.2=0)(i:Int)(b:List Int):eJ x i b=(x.1.write i b,x.1.cX i b):=by unfold eJ;rw [if_pos h]
theorem zh{x:DS×Int}(h:x.2=0):eD x=(x.1.bI,x.1.dP):=by unfold eD;rw [if_pos h]
theorem Pd{x:DS×Int}(h:x.2=0):x=(x.1,0):=by rw [<- h]
theorem UH{D:DS}{f:Nat->Int×List Int}(hd:D.down=true){m:Nat}(hm:0<m)(h1:0<=(f 0).1)(h2:(f 0).1<D.secs.length)(h3:(f 0).2.length=32):kT (D,0) f m=(D,9):=by
 have e:kT (D,0) f 1=(D,9):=by
  show eJ (D,0) _ _=_
  rw [zg rfl]
  show(D.write _ _,D.cX _ _)=_
  have e1:D.write (f 0).1 (f 0).2=D:=by unfold DS.write;rw [if_pos (.inr (.inr (.inr hd)))]
  have e2:D.cX (f 0).1 (f 0).2=9:=by unfold DS.cX;rw [if_neg (by omega),if_neg (by omega),if_pos hd]
  rw [e1,e2]
 rw [qk (k:=1) (by rw [e];show(9:Int)≠0;decide) m hm,e]
theorem Cu{D:DS}{s:Int}{L:Nat}{l:List (Int×List Int)}(hv:cO L l=0)(hl:l≠[])(hL:48<=D.secs.length)(hs:(s+1) % 2=0\/(s+1) % 2=1) :
  aG D s L l=((bC D s l).1,if (bC D s l).2=0 then s+1 else s,(bC D s l).2):=by
 unfold aG;rw [if_neg (by rw [hv];exact fun h=>h rfl)];by_cases hd:D.down=true
 ·rw [if_pos hd];have lG:=qp hv;have hlen:=lG.len;have jf:0<l.length:=by cases l with | nil=>exact absurd rfl hl | cons _ _=>simp
  have hb:=lG.body 0 jf;have e1:fq D ((s+1) % 2) l=(D,9):=by unfold fq;rw [UH hd jf (by dsimp only;omega) (by dsimp only;omega) hb];exact ib (by show(9:Int)≠0;decide)
  have e2:cM (D,9) ((s+1) % 2) (s+1) l=(D,9):=by unfold cM;rw [if_neg (by show ¬ (9:Int)=0;decide)];exact ib (by show(9:Int)≠0;decide)
  have e3:bC D s l=(D,9):=by unfold bC;rw [e1,e2];unfold jD;rw [vJ (by show(9:Int)≠0;decide)];exact ib (by show(9:Int)≠0;decide)
  rw [e3];rfl
 ·rw [if_neg hd,if_neg hl]
theorem Jz(n:Int)(h0:0<=n)(h1:n<=4294967296):bits .and .i64 n 1=n % 2:=by
 obtain⟨N,rfl⟩:=Int.eq_ofNat_of_zero_le h0;have h2:N &&& 1=N % 2:=Nat.and_one_is_mod N
 show IntKind.i64.wrap ((BitVec.ofInt 64 (N:Int) &&& BitVec.ofInt 64 ((1:Nat):Int)).toNat:Int)=_
 rw [BitVec.toNat_and,ofInt_u64 N (by omega),ofInt_u64 1 (by omega),IntKind.wrap_i64,h2];omega
theorem EO(D:DS)(i:Int)(b:List Int):(D.write i b).secs.length=D.secs.length:=by rw [jU]
theorem A8(D:DS):D.bI.secs.length=D.secs.length:=by
 unfold DS.bI;split
 ·rfl
 ·split
  ·rfl
  ·show(flushK D.step.secs _ _).length=_
   rw [ku];unfold DS.step;split
   ·rfl
   ·split <;> rfl
theorem yq(x:DS×Int)(i:Int)(b:List Int):(eJ x i b).1.secs.length=x.1.secs.length:=by
 unfold eJ;split
 ·exact EO _ _ _
 ·rfl
theorem qY(x:DS×Int):(eD x).1.secs.length=x.1.secs.length:=by
 unfold eD;split
 ·exact A8 _
 ·rfl
theorem sP(x:DS×Int)(f:Nat->Int×List Int):∀ n,(kT x f n).1.secs.length=x.1.secs.length
 | 0=>rfl
 | n+1=>(yq _ _ _).trans (sP x f n)
theorem oC(D:DS)(s:Int)(m:Nat)(l:List (Int×List Int)):(aG D s m l).1.secs.length=D.secs.length:=by
 have hA:∀ a:Int,(fq D a l).1.secs.length=D.secs.length:=fun a=>by unfold fq;rw [qY,sP]
 have hB:∀ (x:DS×Int) (a s:Int),(cM x a s l).1.secs.length=x.1.secs.length:=fun x a s=>by
  unfold cM;rw [qY];split
  ·split
   ·rw [yq]
   ·rfl
  ·rfl
 have hC:∀ x:DS×Int,(jD x l).1.secs.length=x.1.secs.length:=fun x=>by unfold jD;rw [qY,sP]
 unfold aG;split
 ·rfl
 ·split
  ·rfl
  ·split
   ·rfl
   ·show(bC D s l).1.secs.length=_
    unfold bC;rw [hC,hB,hA]
end
end Go.Proofs.YtcimhnnendlblaaGreat
