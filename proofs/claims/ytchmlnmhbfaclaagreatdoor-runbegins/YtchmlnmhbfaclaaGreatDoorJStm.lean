/-
  Parts of the proofs, joined by program.
-/
import Derived.Test.YtchmlnmhbfaclaaGreatDoorJNum
import Derived.OwnWalk
import Derived.Deep.RegionLaw
import Derived.Laws.Strings
namespace Go.Proofs.YtchmlnmhbfaclaaGreatDoor
open Go.RowKit
set_option linter.unusedVariables false
def side(n:Int):List Int:=zbw (zerosB 4) 0 n 4
theorem zT(n:Int):(side n).length=4:=by unfold side;rw [qt,length_zerosB]
theorem ziD(n:Int):Byt (side n):=zcJ (byt_zerosB 4) 0 n 4
def qQ(n:Int)(b:List Int):List Int:=splice (splice (splice (zerosB 32) 0 (side n)) 4 b) 28 (side n)
theorem qJ(n:Int)(b:List Int)(h:b.length<=24):(qQ n b).length=32:=by
 have h1:(splice (zerosB 32) 0 (side n)).length=32:=by rw [length_splice _ _ _ (by rw [zT,length_zerosB];decide),length_zerosB]
 have h2:(splice (splice (zerosB 32) 0 (side n)) 4 b).length=32:=by rw [length_splice _ _ _ (by rw [h1];omega),h1]
 unfold qQ
 rw [length_splice _ _ _ (by rw [zT,h2];decide),h2]
theorem zbI(n:Int)(b:List Int)(hb:Byt b):Byt (qQ n b):=qv (qv (qv (byt_zerosB 32) (ziD n)) hb) (ziD n)
set_option maxRecDepth 100000 in
set_option maxHeartbeats 800000 in
theorem znb(n:Int)(a:Option Addr)(cap:Nat)(b:List Int)(w:World)(hb:Bs w a cap b)(h1:¬ n<1)(h2:¬ 4294967295<n)(h3:b.length<=24) :
  Calls Tryz.prog 165 #[.int .i64 n,.slice a b.length cap] w fun e w'=>∃ g,e=.returned (.tuple #[.slice (some ⟨g,0,none⟩) 32 32,.nilIface])/\w.heap.size<=g/\Blk w' g (qQ n b)/\Below w.heap.size w w':=by
 obtain⟨i0,hi0,hz0,hz1,hz2⟩:=info_parts qG
 have HB:=zb hb
 clear hb
 go_enter Tryz.func165,Tryz.ntmps165
 go_wp2_with (at_make;refine wpList_make_u8 rfl _ _ 29 rfl i0 Tryz.underlying29 hi0 hz0 hz1 hz2 _ _ _ _ 4 rfl rfl rfl rfl (by omega) ?_)
 intro w1 hk1 hs1 hb1
 have hput:=zhP (some ⟨w.heap.size,0,none⟩) 4 (zerosB 4) 0 4 n w1 (by have:=hk1.bs (byt_zerosB 4) (by rw [length_zerosB];decide);rwa [length_zerosB] at this) (by decide) (by decide) (by omega) (by show ¬ (4294967295:Int)<n;omega) (by rw [length_zerosB];decide)
 rw [length_zerosB,show((0:Nat):Int)=0 from rfl,show((4:Nat):Int)=4 from rfl] at hput
 have HP:=zb hput
 have HBL:=zb hb1
 clear hput hk1 hb1
 go_wp2_with fail
 refine(za HP).mono ?_
 rintro e w2 ⟨gs,rfl,hgs,hks,hb2⟩
 have hbel:Below w.heap.size w w2:=(za HBL).trans (hb2.mono (za HBL).size)
 have hBs:Bs w2 (some ⟨gs,0,none⟩) 4 (side n):=by
  have:=Blk.bs (l:=side n) hks (ziD n) (by rw [zT];decide)
  rwa [zT] at this
 have HBS:=zb hBs
 have HW2:=zb hbel
 clear hbel hBs hks hb2 HP HBL
 go_wp2_with (at_make;refine wpList_make_u8 rfl _ _ 29 rfl i0 Tryz.underlying29 hi0 hz0 hz1 hz2 _ _ _ _ 32 rfl rfl rfl rfl (by omega) ?_)
 intro w3 hk3 hs3 hb3
 have hw3:Below w.heap.size w w3:=(za HW2).trans (hb3.mono (za HW2).size)
 have hg:w.heap.size<=w2.heap.size:=(za HW2).size
 have q0:Bs w3 (some ⟨gs,0,none⟩) 4 (side n):=(za HBS).below hb3
 have gl:gs<w2.heap.size:=by
  obtain⟨b',o',e',hc⟩:=(za HBS).2.2.2.2 (by intro e;have:=zT n;rw [e] at this;cases this)
  have:=block_lt_of_cell (hc 0 (by rw [zT];decide))
  simp at e'
  obtain⟨rfl,rfl⟩:=e'
  exact this
 obtain⟨X1,hX1⟩:∃ X1,X1=splice (zerosB 32) 0 (side n):=⟨_,rfl⟩
 obtain⟨X2,hX2⟩:∃ X2,X2=splice X1 4 b:=⟨_,rfl⟩
 obtain⟨X3,hX3⟩:∃ X3,X3=splice X2 28 (side n):=⟨_,rfl⟩
 have l1:X1.length=32:=by rw [hX1,length_splice _ _ _ (by rw [zT,length_zerosB];decide),length_zerosB]
 have l2:X2.length=32:=by rw [hX2,length_splice _ _ _ (by rw [l1];omega),l1]
 have k1:Blk (rowW w3 w2.heap.size X1) w2.heap.size X1:=rowW_blk hk3 X1
 have k2:Blk (rowW (rowW w3 w2.heap.size X1) w2.heap.size X2) w2.heap.size X2:=rowW_blk k1 X2
 have k3:Blk (rowW (rowW (rowW w3 w2.heap.size X1) w2.heap.size X2) w2.heap.size X3) w2.heap.size X3:=rowW_blk k2 X3
 have b1:Below w2.heap.size w2 (rowW w3 w2.heap.size X1):=rowW_below _ hb3 (Nat.le_refl _)
 have b2:Below w2.heap.size w2 (rowW (rowW w3 w2.heap.size X1) w2.heap.size X2):=rowW_below _ b1 (Nat.le_refl _)
 have b3:Below w2.heap.size w2 (rowW (rowW (rowW w3 w2.heap.size X1) w2.heap.size X2) w2.heap.size X3):=rowW_below _ b2 (Nat.le_refl _)
 obtain⟨d4,e4,f4⟩:=zs2 (P:=Tryz.prog) (t:=29) Tryz.underlying29 zx w2.heap.size 4 28 rfl
 obtain⟨d28,e28,f28⟩:=zs2 (P:=Tryz.prog) (t:=29) Tryz.underlying29 zx w2.heap.size 28 4 rfl
 have c1:=zbq (P:=Tryz.prog) w3 29 29 3 Tryz.underlying29 zx w2.heap.size 0 32 32 (some ⟨w2.heap.size,0,none⟩) _ 4 (zerosB 32) (side n) (by rw [zT];decide) (fun _=>rfl) (by rw [zT,length_zerosB];decide) hk3 q0
 have c2:=zbq (P:=Tryz.prog) (rowW w3 w2.heap.size X1) 29 29 3 Tryz.underlying29 zx w2.heap.size 4 28 28 d4 a cap X1 b (by omega) (fun _=>f4 (by decide)) (by rw [l1];omega) k1 ((za HB).below ((za HW2).trans (b1.mono hg)))
 have c3:=zbq (P:=Tryz.prog) (rowW (rowW w3 w2.heap.size X1) w2.heap.size X2) 29 29 3 Tryz.underlying29 zx w2.heap.size 28 4 4 d28 _ 4 X2 (side n) (by rw [zT];decide) (fun _=>f28 (by decide)) (by rw [zT,l2];decide) k2 ((za HBS).below b2)
 rw [<- hX1] at c1
 rw [<- hX2] at c2
 rw [<- hX3] at c3
 rw [zT,show((4:Nat):Int)=4 from rfl] at c1 c3
 rw [show((4:Nat):Int)=4 from rfl] at e4
 rw [show((28:Nat):Int)=28 from rfl] at e28
 have hfin:X3=qQ n b:=by rw [hX3,hX2,hX1];rfl
 have HF:=zb hfin
 have HK3:=zb k3
 have HB3:=zb ((za HW2).trans (b3.mono hg))
 have hgg:=hg
 clear hfin k1 k2 k3 b1 b2 b3 l1 l2 hX1 hX2 hX3 q0 gl hb3 hk3 hw3 HW2 HBS f4 f28 hs3 hs1
 go_wp2
 go_ret2
 exact⟨_,rfl,hgg,by rw [<- za HF];exact za HK3,za HB3⟩
def qO(n:Int)(b:List Int):List Int×Int:=if n<1\/4294967295<n then ([],1) else if 24<b.length then ([],4) else (qQ n b,0)
theorem zoL(a:Option Addr)(len cap:Nat)(w:World)(h:len≠32) :
  Calls Tryz.prog 327 #[.slice a len cap] w fun e w'=>e=.returned (.tuple #[.int .i64 0,.slice none 0 0,zK 3])/\w=w':=by
 have h':¬ (len:Int)=32:=by omega
 clear h
 go_enter Tryz.func327,Tryz.ntmps327
 go_wp2
 go_ret3
 exact⟨rfl,rfl⟩
set_option maxRecDepth 100000 in
set_option maxHeartbeats 800000 in
theorem zrl(a:Option Addr)(cap:Nat)(l:List Int)(w:World)(hb:Bs w a cap l)(hl:l.length=32)(h1:Qj l 0 4=0)(h2:Qj l 28 4=0) :
  Calls Tryz.prog 327 #[.slice a l.length cap] w fun e w'=>e=.returned (.tuple #[.int .i64 0,.slice none 0 0,zK 5])/\w=w':=by
 have g1:=zaP a cap l 0 4 w hb (by decide) (by decide) (by decide) (by omega)
 have g2:=zaP a cap l 28 4 w hb (by decide) (by decide) (by decide) (by omega)
 rw [show(28:Int).toNat=28 from rfl,show(4:Int).toNat=4 from rfl,h2] at g2
 rw [show(0:Int).toNat=0 from rfl,show(4:Int).toNat=4 from rfl,h1] at g1
 rw [hl] at g1 g2 ⊢
 have G1:=zb g1
 have G2:=zb g2
 clear g1 g2 h1 h2 hl hb
 go_enter Tryz.func327,Tryz.ntmps327
 go_wp2_with fail
 refine(za G1).mono ?_
 rintro e w1 ⟨rfl,rfl⟩
 go_wp2_with fail
 refine(za G2).mono ?_
 rintro e w1 ⟨rfl,rfl⟩
 go_wp2
 go_ret3
 exact⟨rfl,rfl⟩
set_option maxRecDepth 100000 in
set_option maxHeartbeats 800000 in
theorem zoK(a:Option Addr)(cap:Nat)(l:List Int)(w:World)(hb:Bs w a cap l)(hl:l.length=32)(h:Qj l 0 4≠Qj l 28 4) :
  Calls Tryz.prog 327 #[.slice a l.length cap] w fun e w'=>e=.returned (.tuple #[.int .i64 0,.slice none 0 0,zK 6])/\w=w':=by
 have g1:=zaP a cap l 0 4 w hb (by decide) (by decide) (by decide) (by omega)
 have g2:=zaP a cap l 28 4 w hb (by decide) (by decide) (by decide) (by omega)
 rw [show(28:Int).toNat=28 from rfl,show(4:Int).toNat=4 from rfl] at g2
 rw [show(0:Int).toNat=0 from rfl,show(4:Int).toNat=4 from rfl] at g1
 rw [hl] at g1 g2 ⊢
 have G1:=zb g1
 have G2:=zb g2
 generalize Qj l 0 4=x at *
 generalize Qj l 28 4=y at *
 clear g1 g2 hl hb
 by_cases h0:x=0
 ·have h9:¬ y=0:=fun e=>h (by rw [h0,e])
  have h8:¬ (0:Int)=y:=fun e=>h9 e.symm
  subst h0
  clear h
  go_enter Tryz.func327,Tryz.ntmps327
  go_wp2_with fail
  refine(za G1).mono ?_
  rintro e w1 ⟨rfl,rfl⟩
  go_wp2_with fail
  refine(za G2).mono ?_
  rintro e w1 ⟨rfl,rfl⟩
  go_wp2
  go_ret3
  exact⟨rfl,rfl⟩
 ·go_enter Tryz.func327,Tryz.ntmps327
  go_wp2_with fail
  refine(za G1).mono ?_
  rintro e w1 ⟨rfl,rfl⟩
  go_wp2_with fail
  refine(za G2).mono ?_
  rintro e w1 ⟨rfl,rfl⟩
  go_wp2
  go_ret3
  exact⟨rfl,rfl⟩
set_option maxRecDepth 100000 in
set_option maxHeartbeats 800000 in
theorem zuI(a:Option Addr)(cap:Nat)(l:List Int)(w:World)(hb:Bs w a cap l)(hl:l.length=32)(h:Qj l 0 4=Qj l 28 4)(h0:¬ Qj l 0 4=0) :
  Calls Tryz.prog 327 #[.slice a l.length cap] w fun e w'=>∃ g,e=.returned (.tuple #[.int .i64 (Qj l 0 4),.slice (some ⟨g,0,none⟩) 24 24,.nilIface])/\w.heap.size<=g/\Blk w' g ((l.drop 4).take 24)/\Below w.heap.size w w':=by
 obtain⟨i0,hi0,hz0,hz1,hz2⟩:=info_parts qG
 have g1:=zaP a cap l 0 4 w hb (by decide) (by decide) (by decide) (by omega)
 have g2:=zaP a cap l 28 4 w hb (by decide) (by decide) (by decide) (by omega)
 rw [show(28:Int).toNat=28 from rfl,show(4:Int).toNat=4 from rfl,<- h] at g2
 rw [show(0:Int).toNat=0 from rfl,show(4:Int).toNat=4 from rfl] at g1
 obtain⟨a4,hcut,hbs⟩:=slice_lohi (P:=Tryz.prog) (t:=29) Tryz.underlying29 zx hb 4 28 (by decide) (by omega)
 rw [hl] at g1 g2 hcut ⊢
 rw [show((4:Nat):Int)=4 from rfl,show((28:Nat):Int)=28 from rfl,show 28-4=24 from rfl] at hcut
 rw [show 28-4=24 from rfl] at hbs
 have hl2:((l.drop 4).take 24).length=24:=by simp;omega
 generalize Qj l 0 4=x at *
 generalize (l.drop 4).take 24=L at *
 have hcopy:∀ w1,Blk w1 w.heap.size (zerosB 24)->Bs w1 a4 (cap-4) L->Sem.run Tryz.prog (Builtin.copy_ #[29,29] 3 #[.slice (some ⟨w.heap.size,0,none⟩) 24 24,.slice a4 24 (cap-4)]) w1=.ok (.int .i64 24) (rowW w1 w.heap.size L):=fun w1 h5 h6=>by
  have:=run_copy_u8 (P:=Tryz.prog) w1 29 29 3 Tryz.underlying29 zx w.heap.size 24 a4 (cap-4) (zerosB 24) L (by rw [length_zerosB,hl2]) h5 h6
  rw [hl2] at this
  exact this
 have G1:=zb g1
 have G2:=zb g2
 have HBS:=zb hbs
 clear g1 g2 hl hb h hbs hl2
 go_enter Tryz.func327,Tryz.ntmps327
 go_wp2_with fail
 refine(za G1).mono ?_
 rintro e w1 ⟨rfl,rfl⟩
 go_wp2_with fail
 refine(za G2).mono ?_
 rintro e w1 ⟨rfl,rfl⟩
 go_wp2_with (at_make;refine wpList_make_u8 rfl _ _ 29 rfl i0 Tryz.underlying29 hi0 hz0 hz1 hz2 _ _ _ _ 24 rfl rfl rfl rfl (by omega) ?_)
 intro w1 hk1 hs1 hb1
 have hc:=hcopy w1 hk1 ((za HBS).below hb1)
 have HK:=zb (rowW_blk hk1 L)
 have HBL:=zb (rowW_below L hb1 (Nat.le_refl _))
 clear hcopy hk1 hb1 hs1 HBS
 go_wp2
 go_ret3
 exact⟨_,rfl,Nat.le_refl _,za HK,za HBL⟩
def zV(l:List Int):Int×List Int×Int :=
 if l.length≠32 then (0,[],3) else if Qj l 0 4≠Qj l 28 4 then (0,[],6) else if Qj l 0 4=0 then (0,[],5) else (Qj l 0 4,(l.drop 4).take 24,0)
def zB2(w:World)(n:Int)(L:List Int)(x:Value)(e:Ending)(w':World):Prop :=
 ∃ a cap,e=.returned (.tuple #[.int .i64 n,.slice a L.length cap,x])/\Bs w' a cap L/\Below w.heap.size w w'
theorem zgb{w:World}{n:Int}{x:Value}{e:Ending}{w':World}(he:e=.returned (.tuple #[.int .i64 n,.slice none 0 0,x]))(hw:w=w'):zB2 w n [] x e w' :=
 ⟨none,0,he,zbe _,by rw [hw];exact Below.refl _ _⟩
theorem zuJ(a:Option Addr)(cap:Nat)(l:List Int)(w:World)(hb:Bs w a cap l) :
  Calls Tryz.prog 327 #[.slice a l.length cap] w (zB2 w (zV l).1 (zV l).2.1 (zK (zV l).2.2)):=by
 unfold zV
 by_cases h:l.length≠32
 ·rw [if_pos h]
  exact(zoL a l.length cap w h).mono fun e w' ⟨he,hw⟩=>zgb he hw
 ·rw [if_neg h]
  have hl:l.length=32:=by omega
  by_cases h2:Qj l 0 4≠Qj l 28 4
  ·rw [if_pos h2]
   exact(zoK a cap l w hb hl h2).mono fun e w' ⟨he,hw⟩=>zgb he hw
  ·rw [if_neg h2]
   have h3:Qj l 0 4=Qj l 28 4:=by omega
   by_cases h4:Qj l 0 4=0
   ·rw [if_pos h4]
    exact(zrl a cap l w hb hl h4 (by omega)).mono fun e w' ⟨he,hw⟩=>zgb he hw
   ·rw [if_neg h4]
    have hl2:((l.drop 4).take 24).length=24:=by simp;omega
    refine(zuI a cap l w hb hl h3 h4).mono fun e w' ⟨g,he,_,hk,hbel⟩=>⟨some ⟨g,0,none⟩,24,?_,?_,hbel⟩
    ·rw [he,hl2];rfl
    ·have:=Blk.bs hk (hb.1.sub 4 24) (by rw [hl2];decide)
     rwa [hl2] at this
def zbP(l m:List Int)(c:Nat):List Int:=l.take c++m.drop c
theorem ze9(n k:Nat):(zerosB n).drop k=zerosB (n-k):=by simp [zerosB]
theorem zkL(n k:Nat)(h:k<=n):(zerosB n).take k=zerosB k:=by simp [zerosB,Nat.min_eq_left h]
theorem zk7(n:Int)(b:List Int)(h:b.length<=24):qQ n b=side n++((b++zerosB (24-b.length))++side n):=by
 have hs:=zT n
 have e1:splice (zerosB 32) 0 (side n)=side n++zerosB 28:=by
  unfold splice;rw [hs,ze9];rfl
 have e2:splice (side n++zerosB 28) 4 b=side n++(b++zerosB (28-b.length)):=by
  unfold splice
  rw [List.take_append_of_le_length (by omega),List.take_of_length_le (by omega),List.drop_append,hs,List.drop_eq_nil_of_le (by omega),List.nil_append,ze9]
  congr 3
  omega
 have l3:(side n++(b++zerosB (28-b.length))).length=32:=by simp [hs,zerosB];omega
 unfold qQ
 rw [e1,e2]
 unfold splice
 rw [List.drop_eq_nil_of_le (by rw [l3,hs];decide),List.append_nil]
 have e3:(side n++(b++zerosB (28-b.length))).take 28=side n++(b++zerosB (24-b.length)):=by
  rw [List.take_append,hs,List.take_of_length_le (by omega),List.take_append,List.take_of_length_le (by omega),zkL _ _ (by omega)]
 rw [e3,List.append_assoc]
theorem Zp(n:Int)(h1:1<=n)(h2:n<=4294967295):numOf (side n)=n:=by
 have h:=zcQ (zerosB 4) 0 n 4 (by decide) (by decide) (by omega) (by show n<=4294967295;exact h2) (by rw [length_zerosB];decide)
 unfold Qj at h
 rw [List.drop_zero,List.take_of_length_le (by rw [qt,length_zerosB];decide)] at h
 exact h
theorem zd9(n:Int)(b:List Int)(h:b.length<=24):(qQ n b).take 4=side n:=by
 rw [zk7 n b h,List.take_append_of_le_length (by rw [zT];decide),List.take_of_length_le (by rw [zT];decide)]
theorem zfv(n:Int)(b:List Int)(h:b.length<=24):(qQ n b).drop 28=side n:=by
 have hs:=zT n
 have l1:(b++zerosB (24-b.length)).length=24:=by simp [zerosB];omega
 rw [zk7 n b h,List.drop_append,hs,List.drop_eq_nil_of_le (by omega),List.nil_append,List.drop_append,l1,List.drop_eq_nil_of_le (by omega),List.nil_append]
 rfl
theorem zqC(n:Int)(b:List Int)(h:b.length<=24):((qQ n b).drop 4).take 24=b++zerosB (24-b.length):=by
 have hs:=zT n
 have l1:(b++zerosB (24-b.length)).length=24:=by simp [zerosB];omega
 rw [zk7 n b h,List.drop_append,hs,List.drop_eq_nil_of_le (by omega),List.nil_append]
 show(List.take 24 ((b++zerosB (24-b.length))++side n))=_
 rw [List.take_append_of_le_length (by omega),List.take_of_length_le (by omega)]
theorem zcE(l:List Int):Qj l 0 4=numOf (l.take 4):=by unfold Qj;rw [List.drop_zero]
theorem zf2(l:List Int)(h:l.length=32):Qj l 28 4=numOf (l.drop 28):=by
 unfold Qj;rw [List.take_of_length_le (by simp;omega)]
theorem zaE(n:Int)(b:List Int)(h1:1<=n)(h2:n<=4294967295)(h:b.length<=24):zV (qQ n b)=(n,b++zerosB (24-b.length),0):=by
 have hl:=qJ n b h
 have e1:Qj (qQ n b) 0 4=n:=by rw [zcE,zd9 n b h,Zp n h1 h2]
 have e2:Qj (qQ n b) 28 4=n:=by rw [zf2 _ hl,zfv n b h,Zp n h1 h2]
 unfold zV
 rw [if_neg (by omega),e1,e2,if_neg (by omega),if_neg (by omega),zqC n b h]
theorem zfJ:∀ {l m:List Int},l.length=m.length->Byt l->Byt m->numOf l=numOf m->l=m
 | [],[],_,_,_,_=>rfl
 | x :: l,y :: m,hlen,hl,hm,h=>by
  have h':x+256 * numOf l=y+256 * numOf m:=h
  have hx:=hl x (List.mem_cons_self ..)
  have hy:=hm y (List.mem_cons_self ..)
  have e1:x=y:=by omega
  have e2:numOf l=numOf m:=by omega
  rw [e1,zfJ (by simpa using hlen) (fun z hz=>hl z (List.mem_cons_of_mem _ hz)) (fun z hz=>hm z (List.mem_cons_of_mem _ hz)) e2]
theorem zjh{n:Int}(h1:1<=n)(h2:n<=4294967295):side n≠(zerosB 32).take 4:=fun e=>by
 have:=Zp n h1 h2
 rw [e] at this
 have h0:numOf ((zerosB 32).take 4)=0:=rfl
 omega
end Go.Proofs.YtchmlnmhbfaclaaGreatDoor
