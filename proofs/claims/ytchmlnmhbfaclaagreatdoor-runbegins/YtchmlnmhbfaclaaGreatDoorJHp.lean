/-
  Parts of the proofs, joined by program.
-/
import Derived.Test.YtchmlnmhbfaclaaGreatDoorJIm
import Derived.Test.YtchmlnmhbfaclaaGreatDoorJChp
import Derived.Test.YtchmlnmhbfaclaaGreatDoorJTn
import Derived.Test.YtchmlnmhbfaclaaGreatDoorJDfr
namespace Go.Proofs.YtchmlnmhbfaclaaGreatDoor
open Go.RowKit
set_option linter.unusedVariables false
section
variable {w w':World} {B B' g c:Nat} {cur:Array Value} {l:List Int}
theorem Row.lt(h:Row w B g c cur l):g<w.heap.size:=(Array.getElem?_eq_some_iff.1 h.2.1).1
theorem Row.below(h:Row w B g c cur l)(hb:Below w.heap.size w w'):Row w' B g c cur l:=⟨h.1,(hb.block g h.lt).trans h.2.1,h.2.2⟩
theorem Row.low(h:Row w B' g c cur l)(hB:B<=B'):Row w B g c cur l:=⟨Nat.le_trans hB h.1,h.2⟩
end
def ztx(w:World)(L:List Int)(x:Value)(e:Ending)(w':World):Prop :=
 ∃ g c cur,e=.returned (.tuple #[.slice (some ⟨g,0,none⟩) L.length c,x])/\Row w' w.heap.size g c cur L/\Below w.heap.size w w'
theorem zmr(a:Option Addr)(cap:Nat)(l:List Int)(p:Nat)(ra:Option Addr)(rc:Nat)(r:List Int)(w:World)(hb:Bs w a cap l)(hr:Bs w ra rc r)(h0:r≠[])(hfit:p+r.length<=l.length) :
  Calls Tryz.prog 191 #[.slice a l.length cap,.int .i64 p,.slice ra r.length rc] w fun e w'=>∃ g' c' cur',e=.returned (.slice (some ⟨g',0,none⟩) l.length c')/\Row w' w.heap.size g' c' cur' (splice l p r)/\Below w.heap.size w w':=by
 have hrl:0<r.length:=by
  cases r with
  | nil=>exact absurd rfl h0
  | cons _ _=>simp
 have HC:=zb (znM a cap l w hb (by intro e;rw [e] at hfit;simp only [List.length_nil] at hfit;omega))
 have HR:=zb hr
 have hbl:=hb.2.2.1
 clear hb hr
 go_enter Tryz.func191,Tryz.ntmps191
 go_wp2_with fail
 refine(za HC).mono ?_
 rintro e w1 ⟨g,c,rfl,hown,hb1⟩
 obtain⟨cur,hrow⟩:=Row.of_own hown
 have hcut:=zl9 (P:=Tryz.prog) Tryz.underlying29 zx g c l.length p (by omega) hrow.2.2.1 (by have:=hrow.2.2.1;omega)
 have hcopy:Sem.run Tryz.prog (Builtin.copy_ #[29,29] 3 #[.slice (some ⟨g,p,none⟩) (l.length-p) (c-p),.slice ra r.length rc]) w1=.ok (.int .i64 r.length) (za8 w1 g cur p r) :=
  ZS w1 _ _ _ Tryz.underlying29 zx _ g p _ _ c cur ra rc l r (by omega) h0 hfit hrow ((za HR).below hb1)
 have HW:=zb (zcb hrow hfit)
 have HB:=zb (zbA (cur:=cur) (l:=r) (off:=p) hb1 hrow.1)
 clear hown hrow hb1 HC HR
 go_wp2
 go_ret
 exact⟨g,c,_,rfl,za HW,za HB⟩
set_option maxHeartbeats 1000000 in
theorem znt(b:Option Addr)(cap:Nat)(L:List Int)(x a l t:Int)(w:World)(hbs:Bs w b cap L)(h0:Za L (x,a,l,t)=0) :
  Calls Tryz.prog 133 #[.slice b L.length cap,.agg #[.int .i64 x,.int .i64 a,.int .i64 l,.int .i64 t]] w (ztx w (splice L (plc x) (zax (x,a,l,t))) .nilIface):=by
 obtain⟨q1,q2,q3⟩:=qe.1 h0
 dsimp only at q2 q3
 have hlen:=zM.1 q1
 have hx:=zm.1 q2
 have hp:=qx hx.1 hx.2
 have HC:=zb (zdQ L (x,a,l,t) (w.alloc (.cells #[.int .i64 x,.int .i64 a,.int .i64 l,.int .i64 t] 126)) hbs.2.2.1 (by dsimp only;omega))
 rw [h0,zf] at HC
 unfold zgF at HC
 dsimp only at HC
 have HE:=zb (fun W=>zeE x a l t W ⟨q3.1,q3.2.1⟩ (by omega) (by omega))
 have HP:=zb (fun W=>QL x W hx.1 hx.2)
 have hrl:(zax (x,a,l,t)).length=5:=rfl
 have HW:=zb (fun(W:World) (g:Nat) (h5:Bs W b cap L) (h6:Bs W (some ⟨g,0,none⟩) 5 (zax (x,a,l,t)))=>zmr b cap L (plc x) (some ⟨g,0,none⟩) 5 (zax (x,a,l,t)) W h5 h6 (by intro e;cases e) (by omega))
 rw [hrl] at HW
 have HN:=zb (EnB.new w (x,a,l,t))
 have HLEN:=zb (length_splice (z:=L) (l:=zax (x,a,l,t)) (off:=plc x) (by omega))
 have HBS:=zb hbs
 have hb3:=hbs.2.2.1
 clear h0 q1 q2 q3 hbs hrl
 generalize zax (x,a,l,t)=R at *
 go_enter Tryz.func133,Tryz.ntmps133
 go_wp2_with fail
 refine(za HC).mono ?_
 rintro e w1 ⟨rfl,hb1⟩
 have hB1:Below w.heap.size w w1:=((Below.refl _ w).alloc (Nat.le_refl _) _).trans (hb1.mono (by simp))
 have hen1:=(za HN).below hb1 (by simp)
 obtain⟨c0,c1,c2,c3⟩:=hen1.cells
 have HEN1:=zb hen1
 have HB1:=zb hB1
 clear hb1 hB1 hen1 HC HN
 go_wp2_with fail
 refine(za HE _).mono ?_
 rintro e w2 ⟨g,rfl,hbr,hb2⟩
 have hen2:=(za HEN1).below hb2 (za HEN1).lt
 obtain⟨d0,d1,d2,d3⟩:=hen2.cells
 have HB2:=zb ((za HB1).trans (hb2.mono (za HB1).size))
 have HW2:=zb (za HW w2 g ((za HBS).below (za HB2)) hbr)
 clear hb2 hen2 hbr HEN1 HB1 HW HE c0 c1 c2 c3
 go_wp2_with fail
 refine(za HP _).mono ?_
 rintro e w3 ⟨rfl,hw3⟩
 subst hw3
 go_wp2_with fail
 refine(za HW2).mono ?_
 rintro e w4 ⟨a4,c4,cur4,rfl,hbs4,hb4⟩
 have HB4:=zb ((za HB2).trans (hb4.mono (za HB2).size))
 have HBS4:=zb hbs4
 have HSZ4:=zb (za HB2).size
 clear hbs4 hb4 HB2 HW2 d0 d1 d2 d3
 go_wp2
 go_ret2
 exact⟨a4,c4,cur4,by rw [za HLEN];rfl,(za HBS4).low (za HSZ4),za HB4⟩
set_option maxRecDepth 100000 in
set_option maxHeartbeats 1000000 in
theorem zvS(a:Option Addr)(cap:Nat)(l:List Int)(h:Int)(w:World)(hb:Bs w a cap l)(hc:zO l h=0) :
  Calls Tryz.prog 135 #[.slice a l.length cap,.int .i64 h] w (ztx w (qh l h) .nilIface):=by
 have HC:=zb (zdR a cap l h w hb)
 have h3:=hb.2.2.1
 unfold qh
 obtain⟨hl0,hh0,ht⟩:=zq.1 hc
 rw [if_pos hc]
 rw [hc,zf] at HC
 have hl1:=zM.1 hl0
 have hh1:=zm.1 hh0
 have hp:=qx hh1.1 hh1.2
 have hzl:=length_zerosB 5
 have hne:zerosB 5≠[]:=by intro e;rw [e] at hzl;simp at hzl
 have hd:Below w.heap.size w (mkW w.drew 5):=(show Below w.heap.size w w.drew from⟨rfl,rfl,rfl,Nat.le_refl _,fun _ _=>rfl⟩).trans (zdB w.drew 5)
 have HW:Hid (Calls Tryz.prog 191 #[.slice a l.length cap,.int .i64 (plc h),.slice (some ⟨w.heap.size,0,none⟩) 5 5] (mkW w.drew 5) fun e w'=>∃ g' c' cur',e=.returned (.slice (some ⟨g',0,none⟩) l.length c')/\Row w' w.heap.size g' c' cur' (splice l (plc h) (zerosB 5))/\Below w.heap.size w w'):=zb (by
  have:=zmr a cap l (plc h) (some ⟨w.heap.size,0,none⟩) (zerosB 5).length (zerosB 5) (mkW w.drew 5) (hb.below hd) ((zh4 w.drew 5).bs (byt_zerosB 5) (by decide)) hne (by omega)
  rw [hzl] at this
  exact this.mono fun e w' ⟨a',c',cur',he,hbs,hbel⟩=>⟨a',c',cur',he,hbs.low hd.size,hd.trans (hbel.mono hd.size)⟩)
 have HE:=zb (fun w'=>QL h w' hh1.1 hh1.2)
 have HLEN:=zb (length_splice (z:=l) (l:=zerosB 5) (off:=plc h) (by omega))
 have hmk:∀ w',Sem.run Tryz.prog (Instr.makeSlice 29 (.int .i64 5) (.int .i64 5)) w'=.ok (.slice (some ⟨w'.heap.size,0,none⟩) 5 5) (mkW w' 5):=fun w'=>zbp w' 5 (by decide)
 clear hc ht hl0 hh0 hb hd
 go_enter Tryz.func135,Tryz.ntmps135
 go_wp2_with fail
 refine(za HC).mono ?_
 rintro e w1 ⟨rfl,rfl⟩
 go_wp2_with fail
 go_region_with (first | (go_at_call 192;refine(za HE _).mono ?_;rintro e w2 ⟨rfl,rfl⟩) | (go_at_call 191;refine(za HW).mono ?_;rintro e w3 ⟨a3,c3,cur3,rfl,hbs3,hb3⟩))
 all_goals
  go_wp2
  go_ret2
  exact⟨a3,c3,cur3,by rw [za HLEN];rfl,hbs3,hb3⟩
def foot(p g:Nat)(k:Nat):Prop:=k=p\/k=g
structure Hp (w:World) (B p g c:Nat) (L:List Int):Prop where
 bp:B<=p
 ne:g≠p
 blk:w.heap[p]?=some (.cells #[.slice (some ⟨g,0,none⟩) L.length c] 241 (0,0))
 row:∃ cur,Row w B g c cur L
 byt:Byt L
 fine:Fine L
section
variable {w w':World} {B p g c:Nat} {L:List Int}
theorem Hp.plt(h:Hp w B p g c L):p<w.heap.size:=(Array.getElem?_eq_some_iff.1 h.blk).1
theorem Hp.glt(h:Hp w B p g c L):g<w.heap.size:=by obtain⟨cur,hr⟩:=h.row;exact hr.lt
theorem Hp.bg(h:Hp w B p g c L):B<=g:=by obtain⟨cur,hr⟩:=h.row;exact hr.1
theorem Hp.cell(h:Hp w B p g c L):w.cell? ⟨p,0,none⟩=some (.slice (some ⟨g,0,none⟩) L.length c):=by rw [cell_of_row _ _ _ _ _ _ h.blk];rfl
theorem Hp.fr(h:Hp w B p g c L):w.frozen? ⟨p,0,none⟩=false:=frozen_of_row w p 0 _ _ h.blk
theorem Hp.len(h:Hp w B p g c L):288<=L.length/\L.length<=6400/\L.length<=c:=by
 obtain⟨cur,hr⟩:=h.row
 exact⟨h.fine.len.1,h.fine.len.2,hr.2.2.1⟩
theorem Hp.bs(h:Hp w B p g c L):Bs w (some ⟨g,0,none⟩) c L:=by
 obtain⟨cur,hr⟩:=h.row
 exact hr.bs h.byt (by have:=h.fine.len;omega)
theorem Hp.below(h:Hp w B p g c L)(hb:Below w.heap.size w w'):Hp w' B p g c L:=by
 obtain⟨cur,hr⟩:=h.row
 exact⟨h.bp,h.ne,(hb.block p h.plt).trans h.blk,⟨cur,hr.below hb⟩,h.byt,h.fine⟩
theorem Hp.set(h:Hp w B p g c L)(hb:Below w.heap.size w w'){g' c':Nat}{cur':Array Value}{L':List Int}(hr:Row w' w.heap.size g' c' cur' L')(hby:Byt L')(hf:Fine L')(hB:B<=w.heap.size) :
  Hp (w'.setCell ⟨p,0,none⟩ (.slice (some ⟨g',0,none⟩) L'.length c')) B p g' c' L'/\Turn (foot p g) (foot p g') w (w'.setCell ⟨p,0,none⟩ (.slice (some ⟨g',0,none⟩) L'.length c')):=by
 have hp:=h.plt
 have hg:=hr.1
 have hne:g'≠p:=by omega
 refine⟨⟨h.bp,hne,?_,⟨cur',⟨Nat.le_trans hB hg,(heap_setCell_other _ _ _ _ (by show g'≠p;exact hne)).trans hr.2.1,hr.2.2⟩⟩,hby,hf⟩,⟨hb.os,hb.tape,hb.output,by simpa using hb.size,fun k hk hn=>?_,fun k hk hs=>?_⟩⟩
 ·have:=heap_setCell_same w' p 0 _ _ (.slice (some ⟨g',0,none⟩) L'.length c') ((hb.block p hp).trans h.blk)
  rw [this]
  rfl
 ·exact(heap_setCell_other _ _ _ _ (fun e=>hn (.inl e))).trans (hb.block k hk)
 ·rcases hs with rfl | rfl
  ·exact .inl rfl
  ·omega
theorem Hp.lay(h:Hp w B p g c L){cur:Array Value}(hr:Row w B g c cur L){off:Nat}{r:List Int}(hfit:off+r.length<=L.length)(hbr:Byt r)(hf:Fine (splice L off r)) :
  Hp (za8 w g cur off r) B p g c (splice L off r)/\Turn (foot p g) (foot p g) w (za8 w g cur off r):=by
 have hl:=length_splice hfit
 refine⟨⟨h.bp,h.ne,?_,⟨_,zcb hr hfit⟩,qv h.byt hbr,hf⟩,⟨rfl,rfl,rfl,by simp [za8],fun k hk hn=>setRow_other w g k _ (fun e=>hn (.inr e)),fun k _ hs=>hs⟩⟩
 rw [hl]
 exact(setRow_other w g p _ (fun e=>h.ne e.symm)).trans h.blk
end
theorem OwnV.lower{w:World}{B B':Nat}{v:Value}{L:List Int}(h:OwnV w B' v L)(hB:B<=B'):OwnV w B v L:=by
 refine⟨h.1,?_⟩
 rcases h.2 with h0 | ⟨g,cap,cur,hv,hb,h3⟩
 ·exact .inl h0
 ·exact .inr ⟨g,cap,cur,hv,Nat.le_trans hB hb,h3⟩
theorem Blk.row{w:World}{B g:Nat}{l:List Int}(h:Blk w g l)(hB:B<=g):Row w B g l.length (l.map (Value.int .u8)).toArray l:=⟨hB,h,Nat.le_refl _,by simp,by rw [List.take_of_length_le (by simp)]⟩
theorem Hp.made{w w1:World}{B g c:Nat}{cur:Array Value}{L:List Int}(hr:Row w1 B g c cur L)(hb:B<=w1.heap.size)(hby:Byt L)(hf:Fine L) :
  Hp (w1.alloc (.cells #[.slice (some ⟨g,0,none⟩) L.length c] 241)) B w1.heap.size g c L :=
 ⟨hb,Nat.ne_of_lt hr.lt,heap_alloc_new w1 _,⟨cur,hr.below ((Below.refl _ _).alloc (Nat.le_refl _) _)⟩,hby,hf⟩
theorem qu(p g c B:Nat)(L:List Int)(w:World)(h:Hp w B p g c L) :
  Calls Tryz.prog 143 #[.pointer (some ⟨p,0,none⟩)] w fun e w'=>∃ a' c',e=.returned (.slice a' L.length c')/\OwnV w' w.heap.size (.slice a' L.length c') L/\Below w.heap.size w w':=by
 have HC:=zb (zbf (some ⟨g,0,none⟩) c L w h.bs)
 have hc:=h.cell
 have hl:=h.len
 clear h
 generalize L.length=N at *
 go_enter Tryz.func143,Tryz.ntmps143
 go_wp2_with fail
 refine(za HC).mono ?_
 rintro e w1 ⟨a',c',rfl,hown,hb1⟩
 have HO:=zb hown
 have HB:=zb hb1
 clear hown hb1 HC hc
 go_wp2
 go_ret
 exact⟨a',c',rfl,za HO,za HB⟩
theorem zbD(p g c B:Nat)(L:List Int)(h:Int)(w:World)(hh:Hp w B p g c L) :
  Calls Tryz.prog 142 #[.pointer (some ⟨p,0,none⟩),.int .i64 h] w fun e w'=>e=.returned (.tuple #[.int .i64 (zaQ L h).2.2.2,zK (zO L h)])/\Below w.heap.size w w':=by
 have HG:=zb (fun W (hW:Below w.heap.size w W)=>znu (some ⟨g,0,none⟩) c L h W (hh.bs.below hW))
 have hc:=hh.cell
 have hl:=hh.len
 clear hh
 generalize zaQ L h=E at *
 generalize zO L h=X at *
 generalize L.length=N at *
 obtain⟨e1,e2,e3,e4⟩:=E
 unfold zgF at HG
 dsimp only at HG ⊢
 go_enter Tryz.func142,Tryz.ntmps142
 go_wp2_with fail
 refine(za HG w (Below.refl _ _)).mono ?_
 rintro e w1 ⟨rfl,hb1⟩
 have HB:=zb hb1
 clear hb1 HG hc
 go_wp2
 go_ret2
 exact⟨rfl,(za HB).alloc (za HB).size _⟩
end Go.Proofs.YtchmlnmhbfaclaaGreatDoor
