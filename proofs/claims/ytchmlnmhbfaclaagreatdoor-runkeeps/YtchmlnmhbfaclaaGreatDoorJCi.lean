/-
  Parts of the proofs, joined by program.
-/
import Derived.Shelf.Spec.SlicesGrow
import Derived.Shelf.SlGeneric
import Derived.Ground.Names8Prog
import Derived.Test.YtchmlnmhbfaclaaGreatDoorProg
import Derived.Test.YtchmlnmhbfaclaaGreatDoorJCh
import Derived.Laws.AppendOwnNone
import Derived.Test.YtchmlnmhbfaclaaGreatDoorJAs
import Derived.Test.YtchmlnmhbfaclaaGreatDoorJHp
namespace Go.Proofs.YtchmlnmhbfaclaaGreatDoor
open Go.RowKit Go.Shelf
set_option linter.unusedVariables false
def zhh:Ren:={ f:=fun | 4=>273 | n=>n,t:=fun | 22=>276 | 25=>324 | 3=>3 | 4=>4 | 9=>9 | 20=>20 | 0=>0 | 2=>3 | n=>n,g:=fun n=>n }
theorem zw0:Lays8.n4 Tryz.prog zhh:={ mixed:=by kernel_rfl,f4:=⟨ "slices.Grow[[]vaultkeel/api.Fault,vaultkeel/api.Fault]",by decide,Tryz.func273.trans rfl⟩,t0:=Tryz.underlying0,a0:=Tryz.isAgg0,z0:=Tryz.sizeOf0,v0:=Tryz.zeroValue0,t3:=Tryz.underlying3,a3:=Tryz.isAgg3,z3:=Tryz.sizeOf3,v3:=Tryz.zeroValue3,t4:=Tryz.underlying4,a4:=Tryz.isAgg4,z4:=Tryz.sizeOf4,v4:=Tryz.zeroValue4,t9:=Tryz.underlying9,a9:=Tryz.isAgg9,z9:=Tryz.sizeOf9,v9:=Tryz.zeroValue9,t20:=Tryz.underlying20,a20:=Tryz.isAgg20,z20:=Tryz.sizeOf20,v20:=Tryz.zeroValue20,t22:=Tryz.underlying276,a22:=Tryz.isAgg276,z22:=Tryz.sizeOf276,v22:=Tryz.zeroValue276 }
theorem zvz(n:Nat)(w:World)(hn:n<=1000) :
  Calls Tryz.prog 273 #[.slice none 0 0,.int .i64 n] w fun r w'=>∃ v,r=.returned v/\Lst flC 2 324 w' w.heap.size v []/\Below w.heap.size w w':=by
 obtain⟨i0,hi0,hz0,hz1,hz2⟩:=info_parts ze0
 by_cases h0:n=0
 ·subst h0
  have h:=Any8.slices_Grow_room zw0 none 0 0 0 w (Nat.le_refl _) (by decide) (by decide) (Nat.le_refl _)
  exact h.mono fun r w' ⟨hr,hw⟩=>⟨_,hr,Lst.nil _ _,by rw [hw];exact Below.refl _ _⟩
 ·have h:=Any8.slices_Grow_grow zw0 i0 _ hi0 hz0 (by omega) none 0 0 n [] w (Nat.le_refl _) (by omega) (by rw [hz2];omega) (by omega) (by simp) (fun _=>rfl) (fun a ha=>by cases ha)
  refine h.mono fun r w' ⟨hr,hw⟩=>⟨_,hr,?_,by rw [hw];exact(Below.refl _ w).drew.alloc (Nat.le_refl _) _⟩
  rw [hw]
  have hz:∀ m:Nat,(Builtin.zeroCells (Value.agg #[.int .i64 0,.int .i64 0]).cells m).size=m * 2:=fun m=>by simp [Builtin.zeroCells,Value.cells]
  have hge:=grownCap_ge w (0+n) 0 (zhh.t 25)
  refine⟨by simp,.inr ⟨w.heap.size,_,_,rfl,Nat.le_refl _,heap_alloc_new w.drew _,Nat.zero_le _,grownCap_le_maxLen w _ _ _ (by unfold maxLen;omega),?_,by simp⟩⟩
  rw [Array.size_append,Array.size_append,hz,hz]
  generalize grownCap w (0+n) 0 _=G at *
  simp
  omega
set_option maxRecDepth 100000 in
set_option maxHeartbeats 1000000 in
theorem zpt(g:Nat)(a1 a2:Option Addr)(c1 c2:Nat)(l1 l2:List (Int×Int))(w:World)(hg:w.heap[g]?=some (.cells #[.slice a1 l1.length c1,.slice a2 l2.length c2] 276 (0,0)))(h1:Sls flC 2 w a1 c1 l1)(h2:Sls flC 2 w a2 c2 l2)(hn1:l1.length<=400)(hn2:l2.length<=400) :
  Calls Tryz.prog 219 #[.slice (some ⟨g,0,none⟩) 2 2] w fun r w'=>∃ v,r=.returned v/\Lst flC 2 324 w' w.heap.size v (l1++l2)/\Below w.heap.size w w':=by
 obtain⟨i0,hi0,hz0,hz1,hz2⟩:=info_parts ze0
 have q0:w.cell? ⟨g,0,none⟩=some (.slice a1 l1.length c1):=by rw [cell_of_row _ _ _ _ _ _ hg];rfl
 have q1:w.cell? ⟨g,1,none⟩=some (.slice a2 l2.length c2):=by rw [cell_of_row _ _ _ _ _ _ hg];rfl
 have hglt:=block_lt_of_cell q0
 dsimp only at hglt
 have HG:=zb (zvz (l1.length+l2.length) w (by omega))
 rw [show((l1.length+l2.length:Nat):Int)=(l1.length:Int)+l2.length by omega] at HG
 have H1:=zb h1
 have H2:=zb h2
 clear h1 h2 hg
 go_enter Tryz.func219,Tryz.ntmps219
 go_wp2_with fail
 go_loop [3,11] (fun sz iv=>(iv=.int .i64 0/\sz=.int .i64 0)\/(iv=.int .i64 1/\sz=.int .i64 (l1.length:Int))\/(iv=.int .i64 2/\sz=.int .i64 ((l1.length:Int)+l2.length))) (fun _ iv=>2-(intOf iv).toNat)
 case atStart=>exact .inl ⟨rfl,rfl⟩
 case round =>
  rcases hrel with ⟨rfl,rfl⟩ | ⟨rfl,rfl⟩ | ⟨rfl,rfl⟩
  ·go_wp2
   go_round
   case rel=>exact .inr (.inl ⟨rfl,rfl⟩)
   case measure=>simp [intOf]
  ·go_wp2
   go_round
   case rel=>exact .inr (.inr ⟨rfl,rfl⟩)
   case measure=>simp [intOf]
  ·go_wp2_with fail
   refine(za HG).mono ?_
   rintro e w1 ⟨v1,rfl,hown1,hb1⟩
   obtain⟨va,vm,vc,rfl⟩:=hown1.shape
   have HO1:=zb hown1
   have HB1:=zb hb1
   clear hown1 hb1 HG
   go_wp2_with fail
   go_loopw [6,27] (fun v iv wr=>Below w.heap.size w wr/\((iv=.int .i64 0/\Lst flC 2 324 wr w.heap.size v [])\/(iv=.int .i64 1/\Lst flC 2 324 wr w.heap.size v l1)\/(iv=.int .i64 2/\Lst flC 2 324 wr w.heap.size v (l1++l2)))) (fun _ iv _=>2-(intOf iv).toNat)
   case atStart=>exact⟨za HB1,.inl ⟨rfl,za HO1⟩⟩
   case round =>
    obtain⟨hbel,hrel⟩:=hrel
    have hgl:g<wr.heap.size:=Nat.lt_of_lt_of_le hglt hbel.size
    have hsz:=hbel.size
    have r0:=(hbel.cell (block_lt_of_cell q0)).trans q0
    have r1:=(hbel.cell (block_lt_of_cell q1)).trans q1
    have HS1:=zb ((za H1).below hbel)
    have HS2:=zb ((za H2).below hbel)
    have HBEL:=zb hbel
    clear hbel
    rcases hrel with ⟨rfl,hown⟩ | ⟨rfl,hown⟩ | ⟨rfl,hown⟩
    ·obtain⟨ya,ym,yc,rfl⟩:=hown.shape
     have HO:=zb hown
     clear hown
     go_wp2_with (at_builtin;refine Zm rfl _ _ 276 rfl w.heap.size i0 (.agg #[.int .i64 0,.int .i64 0]) 16 Tryz.underlying276 hi0 hz0 hz1 hz2 rfl (by decide) (by decide) _ _ rfl (za HO) a1 c1 l1 rfl (za HS1) zem zel (by simp;omega) hsz ?_)
     intro v9 w9 hown9 hbel9
     have HO9:=zb hown9
     have HB9:=zb ((za HBEL).trans hbel9)
     obtain⟨a9,m9,c9,rfl⟩:=hown9.shape
     clear hown9 hbel9 HO HBEL
     go_wp2
     go_roundw
     case rel=>exact⟨za HB9,.inr (.inl ⟨rfl,za HO9⟩)⟩
     case measure=>simp [intOf]
    ·obtain⟨ya,ym,yc,rfl⟩:=hown.shape
     have HO:=zb hown
     clear hown
     go_wp2_with (at_builtin;refine Zm rfl _ _ 276 rfl w.heap.size i0 (.agg #[.int .i64 0,.int .i64 0]) 16 Tryz.underlying276 hi0 hz0 hz1 hz2 rfl (by decide) (by decide) _ _ rfl (za HO) a2 c2 l2 rfl (za HS2) zem zel (by omega) hsz ?_)
     intro v9 w9 hown9 hbel9
     have HO9:=zb hown9
     have HB9:=zb ((za HBEL).trans hbel9)
     obtain⟨a9,m9,c9,rfl⟩:=hown9.shape
     clear hown9 hbel9 HO HBEL
     go_wp2
     go_roundw
     case rel=>exact⟨za HB9,.inr (.inr ⟨rfl,za HO9⟩)⟩
     case measure=>simp [intOf]
    ·obtain⟨ya,ym,yc,rfl⟩:=hown.shape
     have HO:=zb hown
     clear hown
     go_wp2
     go_ret
     exact⟨_,rfl,za HO,za HBEL⟩
end Go.Proofs.YtchmlnmhbfaclaaGreatDoor
namespace Go.Proofs.YtchmlnmhbfaclaaGreatDoor
open Go.RowKit
set_option linter.unusedVariables false
set_option maxRecDepth 100000 in
set_option maxHeartbeats 1000000 in
theorem zmk(a:Option Addr)(cap:Nat)(L:List Int)(w:World)(hbs:Bs w a cap L)(hq:Zi L.length=true) :
  Calls Tryz.prog 174 #[.slice a L.length cap] w fun e w'=>∃ v,e=.returned (.tuple #[v,.nilIface])/\Lst flC 2 324 w' w.heap.size v (qd L)/\Below w.heap.size w w':=by
 have HE:=zb (zan a cap L w hbs hq)
 have hbl:=hbs.2.2.1
 have HB:=zb hbs
 have HQ:=zb hq
 have HBY:=zb hbs.1
 clear hq hbs
 go_enter Tryz.func174,Tryz.ntmps174
 go_wp2_with fail
 refine(za HE).mono ?_
 rintro e w1 ⟨v1,rfl,hown1,hb1⟩
 obtain⟨a1,c1,rfl,hsl1⟩:=hown1.sls zda (Nat.le_trans (qj L 40) (by decide))
 have HM:=zb (zlH L a1 c1 w1 (za HBY) (za HQ) hsl1)
 have HB1:=zb hb1
 have hel:(zo L 40).length<=40:=qj L 40
 generalize (zo L 40).length=EN at *
 clear hown1 hsl1 hb1 HE
 go_wp2_with fail
 refine(za HM).mono ?_
 rintro e w2 ⟨rfl,hm2,hb2⟩
 have hB2:=(za HB1).trans (hb2.mono (za HB1).size)
 have HH:=zb (zkq a cap L w1.heap.size w2 ((za HB).below hB2) (za HQ) hm2)
 have HM2:=zb hm2
 have HB2:=zb hB2
 clear hm2 hb2 hB2 HM HB1
 go_wp2_with fail
 refine(za HH).mono ?_
 rintro e w3 ⟨v3,rfl,hown3,hb3⟩
 have hB3:=(za HB2).trans (hb3.mono (za HB2).size)
 have HR:=zb (zpj a cap L w1.heap.size w3 ((za HB).below hB3) (za HQ) ((za HM2).below hb3))
 obtain⟨a3,c3,rfl,hsl3⟩:=hown3.sls zem (Nat.le_trans (zf1 L 40) (by decide))
 have HS3:=zb hsl3
 have HB3:=zb hB3
 clear hown3 hsl3 hb3 hB3 HH HB2 HM2
 go_wp2_with fail
 refine(za HR).mono ?_
 rintro e w4 ⟨v4,rfl,hown4,hb4⟩
 obtain⟨a4,c4,rfl,hsl4⟩:=hown4.sls zem (Nat.le_trans (zfB L 8) (by decide))
 have hB4:=(za HB3).trans (hb4.mono (za HB3).size)
 have hbA:Below w4.heap.size w4 (w4.alloc (.cells #[.slice a3 (hFK L 40).length c3,.slice a4 (rFK L 8).length c4] 276)):=(Below.refl _ _).alloc (Nat.le_refl _) _
 have HC:=zb (zpt w4.heap.size a3 a4 c3 c4 _ _ (w4.alloc (.cells #[.slice a3 (hFK L 40).length c3,.slice a4 (rFK L 8).length c4] 276)) (heap_alloc_new w4 _) (((za HS3).below hb4).below hbA) (hsl4.below hbA) (Nat.le_trans (zf1 L 40) (by decide)) (Nat.le_trans (zfB L 8) (by decide)))
 have HB5:=zb (hB4.trans (hbA.mono hB4.size))
 have hh1:(hFK L 40).length<=40:=zf1 L 40
 have hh2:(rFK L 8).length<=8:=zfB L 8
 have HF:Hid (qd L=hFK L 40++rFK L 8):=zb rfl
 generalize hFK L 40=F1 at *
 generalize rFK L 8=F2 at *
 clear hown4 hsl4 hb4 hB4 hbA HR HB3 HS3
 go_wp2_with fail
 refine(za HC).mono ?_
 rintro e w6 ⟨v6,rfl,hown6,hb6⟩
 have HO6:=zb (hown6.base (za HB5).size)
 have HB6:=zb ((za HB5).trans (hb6.mono (za HB5).size))
 obtain⟨a6,m6,c6,rfl⟩:=hown6.shape
 clear hown6 hb6 HC HB5
 go_wp2
 go_ret2
 exact⟨_,rfl,by rw [za HF];exact za HO6,za HB6⟩
theorem zke(a:Option Addr)(cap:Nat)(L:List Int)(w:World)(hbs:Bs w a cap L)(hf:Fine L) :
  Calls Tryz.prog 122 #[.slice a L.length cap] w fun e w'=>∃ p g c,e=.returned (.tuple #[.pointer (some ⟨p,0,none⟩),.nilIface])/\Hp w' w.heap.size p g c L/\Below w.heap.size w w':=by
 have HC:=zb (zmk a cap L w hbs hf.len0)
 rw [hf.ok] at HC
 have hbl:=hbs.2.2.1
 have hl:=hf.len
 have HBC:=zb (fun(W:World) (hW:Below w.heap.size w W)=>zbf a cap L W (hbs.below hW))
 have HBY:=zb hbs.1
 have HF:=zb hf
 have hne:L≠[]:=by intro e;rw [e] at hl;simp at hl
 clear hbs hf
 go_enter Tryz.func122,Tryz.ntmps122
 go_wp2_with fail
 refine(za HC).mono ?_
 rintro e w1 ⟨v1,rfl,hown1,hb1⟩
 obtain⟨a1,c1,rfl,hsl1⟩:=hown1.sls zem (by simp)
 have HBC1:=zb (za HBC w1 hb1)
 have HB1:=zb hb1
 clear hown1 hsl1 hb1 HC HBC
 go_wp2_with fail
 refine(za HBC1).mono ?_
 rintro e w2 ⟨a2,c2,rfl,ho2,hb2⟩
 obtain⟨g,cur,rfl,hrow⟩:∃ g cur,a2=some ⟨g,0,none⟩/\Row w2 w1.heap.size g c2 cur L:=by
  rcases ho2.2 with ⟨e,h0⟩ | ⟨g,cap',cur,e,hB,hc,h3,h4,h5,h6⟩
  ·exact absurd (List.eq_nil_of_length_eq_zero h0) hne
  ·simp only [Value.slice.injEq,true_and] at e
   obtain⟨rfl,rfl⟩:=e
   exact⟨g,cur,rfl,hB,hc,h3,by omega,by rw [Nat.mul_one] at h6;exact h6⟩
 have HR:=zb (hrow.low (za HB1).size)
 have HB2:=zb ((za HB1).trans (hb2.mono (za HB1).size))
 clear ho2 hrow hb2 HBC1 HB1
 go_wp2
 go_ret2
 exact⟨w2.heap.size,g,c2,rfl,Hp.made (w:=w) (za HR) (za HB2).size (za HBY) (za HF),(za HB2).alloc (za HB2).size _⟩
end Go.Proofs.YtchmlnmhbfaclaaGreatDoor
