/-
  Parts of the proofs, joined by program.
-/
import Derived.Test.YtchmlnmhbfaclaaGreatDoorJIm
import Derived.Test.YtchmlnmhbfaclaaGreatDoorJRef
namespace Go.Proofs.YtchmlnmhbfaclaaGreatDoor
open Go.RowKit
set_option linter.unusedVariables false
theorem zxy{l:List Int}{h:Int}(hq:Zi l.length=true)(h1:1<=h)(h2:h<=40)(ht:zg l h≠0):zO l h=0:=zq.2 ⟨hq,zm.2 ⟨h1,h2⟩,ht⟩
theorem zsP{l:List Int}{k:Nat}(ht:zg l ((k:Int)+1)≠0):zo l (k+1)=zo l k++[ze l ((k:Int)+1)]:=by
 show zo l k++_=_
 rw [if_neg ht]
theorem zvQ{l:List Int}{k:Nat}(ht:zg l ((k:Int)+1)=0):zo l (k+1)=zo l k:=by
 show zo l k++_=_
 rw [if_pos ht,List.append_nil]
set_option maxRecDepth 100000 in
set_option maxHeartbeats 2000000 in
theorem zan(a:Option Addr)(cap:Nat)(l:List Int)(w:World)(hb:Bs w a cap l)(hq:Zi l.length=true) :
  Calls Tryz.prog 130 #[.slice a l.length cap] w fun e w'=>∃ v,e=.returned (.tuple #[v,.nilIface])/\Lst enC 4 126 w' w.heap.size v (zo l 40)/\Below w.heap.size w w':=by
 have HL:=zb (fun W=>qn l.length W)
 have hl:=zM.1 hq
 have HQ:=zb hq
 rw [hq] at HL
 clear hq
 obtain⟨i0,hi0,hz0,hz1,hz2⟩:=info_parts zvm
 have HB:=zb hb
 have hbl:=hb.2.2.1
 clear hb
 go_enter Tryz.func130,Tryz.ntmps130
 go_wp2_with (go_at_call 185;refine(za HL _).mono ?_;rintro e w1 ⟨rfl,rfl⟩)
 go_loopw [4,5] (fun v hv wr=>∃ k:Nat,k<=40/\hv=.int .i64 ((k:Int)+1)/\Lst enC 4 126 wr w.heap.size v (zo l k)/\Below w.heap.size w wr) (fun _ hv _=>41-(intOf hv).toNat)
 case atStart=>exact⟨0,by omega,rfl,Lst.nil _ _,Below.refl _ _⟩
 case round =>
  obtain⟨k,hk,rfl,hown,hbel⟩:=hrel
  obtain⟨va,vm,vc,rfl⟩:=hown.shape
  by_cases hlt:k<40
  ·have hbs:=(za HB).below hbel
   have HH:=zb (zsm a cap l ((k:Int)+1) wr hbs (by omega) (by omega) (by omega))
   by_cases ht:zg l ((k:Int)+1)=0
   ·rw [ht] at HH
    have HE:=zb (zvQ ht)
    have HO:=zb hown
    have HBEL:=zb hbel
    clear ht hown hbel hbs
    go_wp2_with (go_at_call 186;refine(za HH).mono ?_;rintro e w1 ⟨rfl,hw1⟩;subst hw1)
    go_roundw
    case rel=>exact⟨k+1,by omega,by go_num,by rw [za HE];exact za HO,za HBEL⟩
    case measure=>simp [intOf];omega
   ·rw [bne_iff_ne.2 ht] at HH
    have HG:=zb (ze1 a cap l ((k:Int)+1) wr hbs (zxy (za HQ) (by omega) (by omega) ht))
    have HE:=zb (zsP ht)
    have HLN:=zb (qj l k)
    have HO:=zb hown
    have HBEL:=zb hbel
    clear ht hown hbel hbs
    generalize hent:ze l ((k:Int)+1)=ent at *
    clear hent
    obtain⟨x,y,z,t⟩:=ent
    unfold zgF at HG
    dsimp only at HG
    go_wp2_with (first | (go_at_call 186;refine(za HH).mono ?_;rintro e w1 ⟨rfl,hw1⟩;subst hw1))
    refine(za HG).mono ?_
    rintro e w1 ⟨rfl,hb1⟩
    have hB1:=(za HBEL).trans (hb1.mono (za HBEL).size)
    have hB2:=hB1.alloc hB1.size (.cells #[.int .i64 x,.int .i64 y,.int .i64 z,.int .i64 t] 126)
    have HB3:=zb (hB2.alloc hB2.size (.cells #[.int .i64 x,.int .i64 y,.int .i64 z,.int .i64 t] 126))
    have HO3:=zb ((((za HO).below hb1).below ((Below.refl _ _).alloc (Nat.le_refl _) (.cells #[.int .i64 x,.int .i64 y,.int .i64 z,.int .i64 t] 126))).below ((Below.refl _ _).alloc (Nat.le_refl _) (.cells #[.int .i64 x,.int .i64 y,.int .i64 z,.int .i64 t] 126)))
    have hsz:=(za HBEL).size
    have hsz1:=hb1.size
    have HGN:Hid (((w1.alloc (.cells #[.int .i64 x,.int .i64 y,.int .i64 z,.int .i64 t] 126)).alloc (.cells #[.int .i64 x,.int .i64 y,.int .i64 z,.int .i64 t] 126)).heap[w1.heap.size+1]?=some (.cells (enC (x,y,z,t)).toArray 126 (0,0))):=zb (by
     have:=heap_alloc_new (w1.alloc (.cells #[.int .i64 x,.int .i64 y,.int .i64 z,.int .i64 t] 126)) (.cells #[.int .i64 x,.int .i64 y,.int .i64 z,.int .i64 t] 126)
     rw [qF] at this
     exact this)
    clear hb1 hB1 hB2 HO HBEL HG HH
    go_wp2_with (at_builtin;refine zr rfl _ _ 143 rfl w.heap.size i0 (.agg #[.int .i64 0,.int .i64 0,.int .i64 0,.int .i64 0]) 32 Tryz.underlying143 hi0 hz0 hz1 hz2 rfl (by decide) (by decide) _ _ rfl (za HO3) (w1.heap.size+1) (x,y,z,t) rfl (za HGN) rfl (zy7 _) (Nat.le_trans (za HLN) (by omega)) (by simp;omega) ?_)
    intro v9 w9 hown9 hbel9
    have HO9:=zb hown9
    have HB9:=zb ((za HB3).trans hbel9)
    obtain⟨a9,m9,c9,rfl⟩:=hown9.shape
    clear hown9 hbel9 HO3 HB3 HGN
    go_wp2
    go_roundw
    case rel=>exact⟨k+1,by omega,by go_num,by rw [za HE];exact za HO9,za HB9⟩
    case measure=>simp [intOf];omega
  ·obtain rfl:k=40:=by omega
   have HO:=zb hown
   have HBEL:=zb hbel
   clear hown hbel
   go_wp2
   go_ret2
   exact⟨_,rfl,za HO,za HBEL⟩
def zon(r:(ByteArray×Int)):Value:=.agg #[.string r.1,.int .i64 r.2]
def RoB(w:World)(g:Nat)(r:(ByteArray×Int)):Prop:=w.heap[g]?=some (.cells #[.string r.1,.int .i64 r.2] 136 (0,0))
section
variable {w:World} {g:Nat} {r:(ByteArray×Int)}
theorem RoB.lt(h:RoB w g r):g<w.heap.size:=(Array.getElem?_eq_some_iff.1 h).1
theorem RoB.cells(h:RoB w g r):w.cell? ⟨g,0,none⟩=some (.string r.1)/\w.cell? ⟨g,1,none⟩=some (.int .i64 r.2):=by
 simp only [cell_of_row _ _ _ _ _ _ h]
 exact⟨rfl,rfl⟩
theorem RoB.below{w':World}{B:Nat}(h:RoB w g r)(hb:Below B w w')(hg:g<B):RoB w' g r:=(hb.block g hg).trans h
end
theorem RoB.new(w:World)(r:(ByteArray×Int)):RoB (w.alloc (.cells #[.string r.1,.int .i64 r.2] 136)) w.heap.size r:=heap_alloc_new w _
theorem zuj(s:ByteArray)(h:Int)(hn:ZO s)(h1:1<=h)(h2:h<=40):(splice (zerosB 11) 0 (zI s)).set 10 h=zbR (s,h):=by
 have hl:=zH s hn.2.1
 have hne:¬ zaF (s,h)=true:=by
  rw [zac]
  rintro ⟨_,h0⟩
  dsimp only at h0
  omega
 unfold zbR
 rw [if_neg hne]
 have hm:h % 256=h:=by omega
 have e:splice (zerosB 11) 0 (zI s)=zI s++[0,0,0]:=by
  unfold splice
  rw [List.take_zero,List.nil_append,Nat.zero_add,hl]
  rfl
 rw [e,List.set_append_right _ _ (by omega),hl]
 dsimp only
 rw [hm]
 rfl
set_option maxRecDepth 100000 in
set_option maxHeartbeats 1000000 in
theorem zju(s:ByteArray)(h:Int)(w:World)(h0:s.size=0)(hh:h=0) :
  Calls Tryz.prog 240 #[.agg #[.string s,.int .i64 h]] w (Ends w (zerosB 11) .nilIface):=by
 subst hh
 obtain⟨i0,hi,hz0,hz1,hz2⟩:=info_parts qG
 have he:s.toList.isEmpty=true:=zgc s h0
 have HEN:=zb (RoB.new w (s,0))
 go_enter Tryz.func240,Tryz.ntmps240
 go_wp2_with (at_make;refine wpList_make_u8 rfl _ _ 29 rfl i0 Tryz.underlying29 hi hz0 hz1 hz2 _ _ _ _ 11 rfl rfl rfl rfl (by omega) ?_;intro w2 hk2 hs2 hb2;rw [qF] at hk2 hs2;have hen:=(za HEN).below hb2 (by simp);obtain⟨c0,c1⟩:=hen.cells;have HB2:=zb (((Below.refl _ w).alloc (Nat.le_refl _) _).trans (hb2.mono (by simp)));have HK2:=zb hk2;clear hk2 hb2 hen)
 go_ret2
 have hlen:=length_zerosB 11
 exact⟨_,11,by rw [hlen];rfl,(za HK2).bs (byt_zerosB 11) (by decide),za HB2⟩
set_option maxRecDepth 100000 in
set_option maxHeartbeats 1000000 in
theorem zhK(s:ByteArray)(h:Int)(w:World)(h0:¬ (s.size=0/\h=0))(hh:zaT h=false) :
  Calls Tryz.prog 240 #[.agg #[.string s,.int .i64 h]] w (Ends w [] (zK 1)):=by
 rw [zh 1 (by decide)]
 obtain⟨i0,hi,hz0,hz1,hz2⟩:=info_parts qG
 have HEN:=zb (RoB.new w (s,h))
 have HH:=zb (fun W=>qS h W)
 rw [hh] at HH
 clear hh
 by_cases hs:s.size=0
 ·have he:s.toList.isEmpty=true:=zgc s hs
  have h1:¬ h=0:=fun e=>h0 ⟨hs,e⟩
  clear h0
  go_enter Tryz.func240,Tryz.ntmps240
  go_wp2_with (first | (at_make;refine wpList_make_u8 rfl _ _ 29 rfl i0 Tryz.underlying29 hi hz0 hz1 hz2 _ _ _ _ 11 rfl rfl rfl rfl (by omega) ?_;intro w2 hk2 hs2 hb2;rw [qF] at hk2 hs2;have hen:=(za HEN).below hb2 (by simp);obtain⟨c0,c1⟩:=hen.cells;have HB2:=zb (((Below.refl _ w).alloc (Nat.le_refl _) _).trans (hb2.mono (by simp)));clear hk2 hb2 hen) | (go_at_call 231;refine(za HH _).mono ?_;rintro e w3 ⟨rfl,hw3⟩;subst hw3))
  go_ret2
  exact⟨none,0,rfl,zbe _,za HB2⟩
 ·have he:s.toList.isEmpty=false:=zdO s (by omega)
  clear h0
  go_enter Tryz.func240,Tryz.ntmps240
  go_wp2_with (first | (at_make;refine wpList_make_u8 rfl _ _ 29 rfl i0 Tryz.underlying29 hi hz0 hz1 hz2 _ _ _ _ 11 rfl rfl rfl rfl (by omega) ?_;intro w2 hk2 hs2 hb2;rw [qF] at hk2 hs2;have hen:=(za HEN).below hb2 (by simp);obtain⟨c0,c1⟩:=hen.cells;have HB2:=zb (((Below.refl _ w).alloc (Nat.le_refl _) _).trans (hb2.mono (by simp)));clear hk2 hb2 hen) | (go_at_call 231;refine(za HH _).mono ?_;rintro e w3 ⟨rfl,hw3⟩;subst hw3))
  go_ret2
  exact⟨none,0,rfl,zbe _,za HB2⟩
set_option maxRecDepth 100000 in
set_option maxHeartbeats 1000000 in
theorem zld(s:ByteArray)(h:Int)(w:World)(hs:s.size<=140737488351232)(hh:zaT h=true)(hn:¬ ZO s) :
  Calls Tryz.prog 240 #[.agg #[.string s,.int .i64 h]] w (Ends w [] (zK 2)):=by
 rw [zh 2 (by decide)]
 obtain⟨i0,hi,hz0,hz1,hz2⟩:=info_parts qG
 have HEN:=zb (RoB.new w (s,h))
 have HH:=zb (fun W=>qS h W)
 have hh1:=zm.1 hh
 have h1:¬ h=0:=by omega
 have HP:=zb (fun W=>ZG s W hs hn)
 rw [hh] at HH
 clear hh hn
 have hcase:s.toList.isEmpty=true\/s.toList.isEmpty=false:=by cases s.toList.isEmpty <;> simp
 rcases hcase with he | he
 all_goals
  go_enter Tryz.func240,Tryz.ntmps240
  go_wp2_with (first | (at_make;refine wpList_make_u8 rfl _ _ 29 rfl i0 Tryz.underlying29 hi hz0 hz1 hz2 _ _ _ _ 11 rfl rfl rfl rfl (by omega) ?_;intro w2 hk2 hs2 hb2;rw [qF] at hk2 hs2;have hen:=(za HEN).below hb2 (by simp);obtain⟨c0,c1⟩:=hen.cells;have HB2:=zb (((Below.refl _ w).alloc (Nat.le_refl _) _).trans (hb2.mono (by simp)));clear hk2 hb2 hen) | (go_at_call 231;refine(za HH _).mono ?_;rintro e w3 ⟨rfl,hw3⟩;subst hw3) | (go_at_call 141;refine(za HP _).mono ?_;rintro e w4 ⟨rfl,hb4⟩;have HB4:=zb ((za HB2).trans (hb4.mono (za HB2).size));clear hb4))
  go_ret2
  exact⟨none,0,rfl,zbe _,za HB4⟩
set_option maxRecDepth 100000 in
set_option maxHeartbeats 1000000 in
theorem zlc(s:ByteArray)(h:Int)(w:World)(hh:zaT h=true)(hn:ZO s) :
  Calls Tryz.prog 240 #[.agg #[.string s,.int .i64 h]] w (Ends w (zbR (s,h)) .nilIface):=by
 obtain⟨i0,hi,hz0,hz1,hz2⟩:=info_parts qG
 have HEN:=zb (RoB.new w (s,h))
 have HH:=zb (fun W=>qS h W)
 have hh1:=zm.1 hh
 have h1:¬ h=0:=by omega
 have he:s.toList.isEmpty=false:=zdO s hn.1
 have HP:=zb (fun W=>zfC s W hn.1 hn.2.1 hn.2.2)
 have hnl:=zH s hn.2.1
 have hnb:=zdU s
 have HR:=zb (zuj s h hn hh1.1 hh1.2)
 rw [hh] at HH
 clear hh hn
 generalize zI s=N at *
 go_enter Tryz.func240,Tryz.ntmps240
 go_wp2_with (first | (at_make;refine wpList_make_u8 rfl _ _ 29 rfl i0 Tryz.underlying29 hi hz0 hz1 hz2 _ _ _ _ 11 rfl rfl rfl rfl (by omega) ?_;intro w2 hk2 hs2 hb2;rw [qF] at hk2 hs2;have hen:=(za HEN).below hb2 (by simp);obtain⟨c0,c1⟩:=hen.cells;have HB2:=zb (((Below.refl _ w).alloc (Nat.le_refl _) _).trans (hb2.mono (by simp)));have HK2:=zb hk2;have HEN2:=zb hen;clear hk2 hb2 hen) | (go_at_call 231;refine(za HH _).mono ?_;rintro e w3 ⟨rfl,hw3⟩;subst hw3))
 refine(za HP _).mono ?_
 rintro e w4 ⟨g,rfl,hg,hk4,hb4⟩
 have hk4':=(za HK2).below hb4
 have hen4:=(za HEN2).below hb4 (za HEN2).lt
 have HB4:=zb ((za HB2).trans (hb4.mono (za HB2).size))
 have hbs4:=hk4.bs hnb (by omega)
 have hzl:=length_zerosB 11
 have hcopy:Sem.run Tryz.prog (Builtin.copy_ #[29,29] 3 #[.slice (some ⟨w.heap.size+1,0,none⟩) 11 11,.slice (some ⟨g,0,none⟩) 8 8]) w4=.ok (.int .i64 8) (rowW w4 (w.heap.size+1) (splice (zerosB 11) 0 N)):=by
  have:=zbq (P:=Tryz.prog) w4 29 29 3 Tryz.underlying29 zx (w.heap.size+1) 0 11 11 (some ⟨w.heap.size+1,0,none⟩) (some ⟨g,0,none⟩) N.length (zerosB 11) N (by omega) (fun _=>rfl) (by omega) hk4' hbs4
  rw [hnl] at this
  exact this
 have hk5:Blk (rowW w4 (w.heap.size+1) (splice (zerosB 11) 0 N)) (w.heap.size+1) (splice (zerosB 11) 0 N):=rowW_blk hk4' _
 have hb5:Below w.heap.size w (rowW w4 (w.heap.size+1) (splice (zerosB 11) 0 N)):=rowW_below _ (za HB4) (Nat.le_succ _)
 have hen5:RoB (rowW w4 (w.heap.size+1) (splice (zerosB 11) 0 N)) w.heap.size (s,h):=(setRow_other w4 _ _ _ (by omega)).trans hen4
 have hsl:(splice (zerosB 11) 0 N).length=11:=by rw [length_splice (by omega)];exact hzl
 obtain⟨d0,d1⟩:=hen5.cells
 have hcl:=hk5.cell 10 (by omega)
 have hfz:=hk5.frozen 10
 have HBY:Hid (Byt (zbR (s,h))):=zb (znN _)
 have HK5:=zb hk5
 have HB5:=zb hb5
 clear hk4 hk4' hen4 hen5 hk5 hb5 hb4 hbs4 HB4 HB2 HK2 HEN2 HP c0 c1 hnb
 generalize splice (zerosB 11) 0 N=X at *
 generalize rowW w4 (w.heap.size+1) X=w5 at *
 generalize X.getD 10 0=x0 at *
 go_wp2
 go_ret2
 have hk6:=(za HK5).set 10 h
 rw [za HR] at hk6
 have hrl:(zbR (s,h)).length=11:=by rw [<- za HR,List.length_set];exact hsl
 exact⟨some ⟨w.heap.size+1,0,none⟩,(zbR (s,h)).length,by rw [hrl];rfl,hk6.bs (za HBY) (by omega),(za HB5).setCell (by exact Nat.le_succ _) _⟩
theorem zle(r:(ByteArray×Int))(w:World)(hs:r.1.size<=140737488351232) :
  Calls Tryz.prog 240 #[zon r] w (Ends w (if ZL r=0 then zbR r else []) (zK (ZL r))):=by
 obtain⟨s,h⟩:=r
 dsimp only at hs
 unfold zon
 dsimp only
 by_cases h0:zaF (s,h)=true
 ·have e:ZL (s,h)=0:=by unfold ZL;rw [if_pos h0]
  have e2:zbR (s,h)=zerosB 11:=by unfold zbR;rw [if_pos h0]
  rw [e,if_pos rfl,e2,zf]
  have:=zac.1 h0
  exact zju s h w this.1 this.2
 ·have h0':¬ (s.size=0/\h=0):=fun h=>h0 (zac.2 h)
  cases hh:zaT h with
  | false =>
   have e:ZL (s,h)=1:=by unfold ZL;rw [if_neg h0,if_pos hh]
   rw [e,if_neg (by decide)]
   exact zhK s h w h0' hh
  | true =>
   by_cases hn:Qb s=true
   ·have e:ZL (s,h)=0:=by unfold ZL;rw [if_neg h0,if_neg (by dsimp only;rw [hh];simp),if_pos hn]
    rw [e,if_pos rfl,zf]
    exact zlc s h w hh (zS.1 hn)
   ·have e:ZL (s,h)=2:=by unfold ZL;rw [if_neg h0,if_neg (by dsimp only;rw [hh];simp),if_neg hn]
    rw [e,if_neg (by decide)]
    exact zld s h w hs hh (fun h=>hn (zS.2 h))
theorem zAI(b:Option Addr)(len cap:Nat)(i:Int)(s:ByteArray)(h:Int)(w:World)(hb:len<=140737488351232)(hq:Zi len=false) :
  Calls Tryz.prog 203 #[.slice b len cap,.int .i64 i,.agg #[.string s,.int .i64 h]] w (Ends w [] (zK 3)):=by
 rw [zh 3 (by decide)]
 have HL:=zb (fun W=>qn len W)
 rw [hq] at HL
 clear hq
 go_enter Tryz.func203,Tryz.ntmps203
 go_wp2_with (go_at_call 185;refine(za HL _).mono ?_;rintro e w1 ⟨rfl,rfl⟩)
 go_ret2
 exact⟨none,0,rfl,zbe _,(Below.refl _ _).alloc (Nat.le_refl _) _⟩
theorem zuD(b:Option Addr)(len cap:Nat)(i:Int)(s:ByteArray)(h:Int)(w:World)(hb:len<=140737488351232)(hq:Zi len=true)(hi:i<0\/7<i) :
  Calls Tryz.prog 203 #[.slice b len cap,.int .i64 i,.agg #[.string s,.int .i64 h]] w (Ends w [] (zK 1)):=by
 rw [zh 1 (by decide)]
 have HL:=zb (fun W=>qn len W)
 have HI:=zb (fun W=>zc3 i W)
 rw [hq] at HL
 have hp:zwH i=false:=by unfold zwH;rw [Bool.and_eq_false_iff,decide_eq_false_iff_not,decide_eq_false_iff_not];omega
 rw [hp] at HI
 clear hq hi hp
 go_enter Tryz.func203,Tryz.ntmps203
 go_wp2_with (first | (go_at_call 185;refine(za HL _).mono ?_;rintro e w1 ⟨rfl,rfl⟩) | (go_at_call 239;refine(za HI _).mono ?_;rintro e w1 ⟨rfl,rfl⟩))
 go_ret2
 exact⟨none,0,rfl,zbe _,(Below.refl _ _).alloc (Nat.le_refl _) _⟩
set_option maxHeartbeats 1000000 in
theorem zAH(b:Option Addr)(cap:Nat)(L:List Int)(i:Nat)(r:(ByteArray×Int))(w:World)(hbs:Bs w b cap L)(hq:Zi L.length=true)(hi:i<=7)(hs:r.1.size<=140737488351232) :
  Calls Tryz.prog 203 #[.slice b L.length cap,.int .i64 i,.agg #[.string r.1,.int .i64 r.2]] w (Ends w (if ZL r=0 then splice L (200+11 * i) (zbR r) else []) (zK (ZL r))):=by
 have HL:=zb (fun W=>qn L.length W)
 have hlen:=zM.1 hq
 have HRO:=zb (zle r (w.alloc (.cells #[.string r.1,.int .i64 r.2] 136)) hs)
 have HRL:=zb (fun h=>zdu (r:=r) h)
 have HP:=zb (fun W=>zct i W (by omega))
 have hb3:=hbs.2.2.1
 have HBS:=zb hbs
 have HB0:Hid (Below w.heap.size w (w.alloc (.cells #[.string r.1,.int .i64 r.2] 136))):=zb ((Below.refl _ _).alloc (Nat.le_refl _) _)
 have HI:=zb (fun W=>zc3 i W)
 have hp:zwH i=true:=by unfold zwH;rw [Bool.and_eq_true,decide_eq_true_iff,decide_eq_true_iff];omega
 rw [hp] at HI
 rw [hq] at HL
 clear hp
 unfold zon at HRO
 clear hq hbs
 generalize zbR r=R at *
 generalize ZL r=c at *
 by_cases hc:c=0
 ·subst hc
  rw [if_pos rfl] at HRO ⊢
  rw [zf] at HRO ⊢
  have hrl:=za HRL rfl
  have HW:=zb (fun(W:World) (ra:Option Addr) (rc:Nat) (h5:Bs W b cap L) (h6:Bs W ra rc R)=>zhv b cap L (200+11 * i) ra rc R W h5 h6 (by intro e;rw [e] at hrl;simp at hrl) (by omega))
  have HLEN:=zb (length_splice (z:=L) (l:=R) (off:=200+11 * i) (by omega))
  rw [hrl] at HW
  generalize 200+11 * i=p at *
  clear HRL
  go_enter Tryz.func203,Tryz.ntmps203
  go_wp2_with (first | (go_at_call 185;refine(za HL _).mono ?_;rintro e w1 ⟨rfl,rfl⟩) | (go_at_call 239;refine(za HI _).mono ?_;rintro e w1 ⟨rfl,rfl⟩))
  refine(za HRO).mono ?_
  rintro e w2 ⟨a2,c2,rfl,hbs2,hb2⟩
  have hB2:=(za HB0).trans (hb2.mono (za HB0).size)
  have HW2:=zb (za HW w2 a2 c2 ((za HBS).below hB2) hbs2)
  have HB2:=zb hB2
  rw [hrl]
  clear hbs2 hb2 hB2 HW HB0 HRO
  go_wp2_with (go_at_call 194;refine(za HP _).mono ?_;rintro e w3 ⟨rfl,hw3⟩;subst hw3)
  refine(za HW2).mono ?_
  rintro e w4 ⟨a4,c4,rfl,hbs4,hb4⟩
  have HB4:=zb ((za HB2).trans (hb4.mono (za HB2).size))
  have HBS4:=zb hbs4
  clear hbs4 hb4 HB2 HW2
  go_wp2
  go_ret2
  exact⟨a4,c4,by rw [za HLEN];rfl,za HBS4,za HB4⟩
 ·rw [if_neg hc] at HRO ⊢
  rw [zh _ hc] at HRO ⊢
  clear HRL HP HBS hc
  go_enter Tryz.func203,Tryz.ntmps203
  go_wp2_with (first | (go_at_call 185;refine(za HL _).mono ?_;rintro e w1 ⟨rfl,rfl⟩) | (go_at_call 239;refine(za HI _).mono ?_;rintro e w1 ⟨rfl,rfl⟩))
  refine(za HRO).mono ?_
  rintro e w2 ⟨a2,c2,rfl,hbs2,hb2⟩
  have HB2:=zb ((za HB0).trans (hb2.mono (za HB0).size))
  clear hbs2 hb2
  go_wp2
  go_ret2
  exact⟨none,0,rfl,zbe _,za HB2⟩
theorem zj6(b:Option Addr)(cap:Nat)(L:List Int)(i:Int)(r:(ByteArray×Int))(w:World)(hbs:Bs w b cap L)(hs:r.1.size<=140737488351232) :
  Calls Tryz.prog 203 #[.slice b L.length cap,.int .i64 i,zon r] w (Ends w (prL L i r) (zK (prE L i r))):=by
 have hl:=hbs.2.2.1
 unfold zon
 cases hq:Zi L.length with
 | false =>
  have e:prE L i r=3:=by unfold prE;rw [if_pos hq]
  have e2:prL L i r=[]:=by unfold prL;rw [e,if_neg (by decide)]
  rw [e,e2]
  exact zAI b L.length cap i r.1 r.2 w hl hq
 | true =>
  by_cases hi:i<0\/7<i
  ·have e:prE L i r=1:=by unfold prE;rw [if_neg (by rw [hq];simp),if_pos hi]
   have e2:prL L i r=[]:=by unfold prL;rw [e,if_neg (by decide)]
   rw [e,e2]
   exact zuD b L.length cap i r.1 r.2 w hl hq hi
  ·have e:prE L i r=ZL r:=by unfold prE;rw [if_neg (by rw [hq];simp),if_neg hi]
   obtain⟨I,rfl⟩:=Int.eq_ofNat_of_zero_le (show 0<=i by omega)
   unfold prL
   rw [e,Int.toNat_natCast]
   exact zAH b cap L I r w hbs hq (by omega) hs
theorem zol(c:Int)(w:World):Calls Tryz.prog 196 #[.int .u8 c] w fun e w'=>e=.returned (.bool (c != 0))/\w=w':=by
 go_enter Tryz.func196,Tryz.ntmps196
 go_wp2
 go_ret
 exact⟨rfl,rfl⟩
set_option maxHeartbeats 400000 in
theorem zii(a:Option Addr)(cap:Nat)(l:List Int)(w:World)(hbs:Bs w a cap l) :
  Calls Tryz.prog 236 #[.slice a l.length cap,.func (.func 196) #[] #[]] w fun e w'=>e=.returned (.int .i64 (QA l))/\w=w':=by
 have hl:l.length<=140737488351232:=hbs.2.2.1
 have HN:=zb (fun k=>zf8 (l:=l) (k:=k))
 have HM:=zb (zf7 (l:=l))
 generalize QA l=F at *
 go_enter Tryz.func236,Tryz.ntmps236
 go_wp2
 go_loop [5,8] (fun _ i=>∃ k:Nat,k<=l.length/\i=.int .i64 k/\∀ j,j<k->(l.getD j 0 != 0)=false) (fun _ i=>l.length-(intOf i).toNat)
 case atStart=>exact⟨0,by omega,rfl,fun j hj=>absurd hj (Nat.not_lt_zero j)⟩
 case round =>
  obtain⟨k,hk,rfl,hall⟩:=hrel
  have HA:Hid (∀ j,j<k->(l.getD j 0 != 0)=false):=hall
  clear hall
  by_cases hlt:k<l.length
  ·obtain⟨b,off,rfl,hcell⟩:=hbs.at k hlt
   have HC:=zb (zol (l.getD k 0) w)
   have HK:=zb (za HN k hlt)
   clear hbs
   have HF:=zb (fun h=>First.step (f:=fun j=>(l.getD j 0 != 0)) (za HA) h)
   generalize l.getD k 0=c at *
   cases hb:(c != 0)
   ·rw [hb] at HC
    have HS:=zb (za HF hb)
    clear hb
    go_wp2_with (go_at_call 196;refine(za HC).mono ?_;rintro e w' ⟨rfl,rfl⟩)
    go_round
    case rel=>exact⟨k+1,by omega,by go_num,za HS⟩
    case measure=>simp [intOf];omega
   ·rw [hb] at HC
    have HS:=zb (za HK hb (za HA))
    clear hb
    go_wp2_with (go_at_call 196;refine(za HC).mono ?_;rintro e w' ⟨rfl,rfl⟩)
    go_ret
    exact⟨by rw [za HS];rfl,rfl⟩
  ·obtain rfl:k=l.length:=by omega
   go_wp2
   go_ret
   exact⟨by rw [za HM (za HA)];rfl,rfl⟩
theorem zkz(a:Option Addr)(cap:Nat)(l:List Int)(w:World)(hbs:Bs w a cap l) :
  Calls Tryz.prog 195 #[.slice a l.length cap,.func (.func 196) #[] #[]] w fun e w'=>e=.returned (.bool (zj l))/\w=w':=by
 have HI:=zb (zii a cap l w hbs)
 have hv:QA l=-1/\zj l=false\/0<=QA l/\zj l=true:=by
  unfold QA
  cases zj l with
  | true=>rw [if_pos rfl];exact .inr ⟨by omega,rfl⟩
  | false=>rw [if_neg (by simp)];exact .inl ⟨rfl,rfl⟩
 generalize QA l=F at *
 generalize zj l=R at *
 generalize l.length=N at *
 rcases hv with ⟨rfl,rfl⟩ | ⟨h,rfl⟩
 all_goals
  go_enter Tryz.func195,Tryz.ntmps195
  go_wp2_with (go_at_call 236;refine(za HI).mono ?_;rintro e w1 ⟨rfl,rfl⟩)
  go_ret
  exact⟨rfl,rfl⟩
theorem zqy:(Tryz.prog.info? 136).map (·.size)=some 2:=by kernel_rfl
theorem RoB.set{w:World}{g:Nat}{r:(ByteArray×Int)}(h:RoB w g r)(s:ByteArray)(x:Int):RoB ((w.setCell ⟨g,0,none⟩ (.string s)).setCell ⟨g,1,none⟩ (.int .i64 x)) g (s,x):=by
 have h1:=heap_setCell_same w g 0 _ _ (.string s) h
 exact heap_setCell_same _ g 1 _ _ (.int .i64 x) h1
set_option maxHeartbeats 1000000 in
theorem zoo(a:Option Addr)(cap:Nat)(r:List Int)(w:World)(hb:Bs w a cap r)(h11:r.length=11) :
  Calls Tryz.prog 197 #[.slice a 11 cap] w fun e w'=>e=.returned (.agg #[.string (rootOf r).1,.int .i64 (rootOf r).2])/\Below w.heap.size w w':=by
 have hb0:Below w.heap.size w (w.alloc (.cells #[.string { data:=#[]},.int .i64 0] 136)):=(Below.refl _ _).alloc (Nat.le_refl _) _
 have hb1:=hb.below hb0
 obtain⟨a',hhi,hb2⟩:=slice_hi (P:=Tryz.prog) (t:=29) Tryz.underlying29 zx hb1 8 (by omega)
 rw [h11,show((8:Nat):Int)=8 from rfl] at hhi
 have h8:(r.take 8).length=8:=by rw [List.length_take];omega
 have HG:=zb (zf4 a' cap (r.take 8) _ hb2)
 rw [h8] at HG
 have HN:=zb (RoB.new w (({ data:=#[]}:ByteArray),0))
 have HBS:=zb hb
 have HB0:=zb hb0
 unfold rootOf
 dsimp only
 generalize (zG (r.take 8)).1=s at *
 generalize (zG (r.take 8)).2=c at *
 generalize hx:r.getD 10 0=x
 have HX:=zb hx
 clear hb hb1 hb2 hb0 hx
 go_enter Tryz.func197,Tryz.ntmps197
 go_wp2_with fail
 refine(za HG).mono ?_
 rintro e w1 ⟨rfl,hb1⟩
 have hro:=(za HN).below hb1 (by simp)
 obtain⟨c0,c1⟩:=hro.cells
 have f0:=frozen_of_row _ _ 0 _ _ hro
 have f1:=frozen_of_row _ _ 1 _ _ hro
 have hB1:=(za HB0).trans (hb1.mono (za HB0).size)
 have hbs1:=(za HBS).below hB1
 obtain⟨b,off,rfl,hcell⟩:=hbs1.at 10 (by omega)
 have hbd:=hbs1.1.getD 10
 have HRO:=zb hro
 have HB1:=zb hB1
 dsimp only at c0 c1
 clear hro hB1 hbs1 hb1 HB0 HN HG HBS
 rw [za HX] at hcell hbd
 go_wp2
 refine bodyPost_ret (results_cell_row rfl _ _ w.heap.size 136 _ (0,0) _ rfl ((za HRO).set s x) Tryz.underlying136 rfl (by rw [zqy];rfl)) rfl ?_
 exact⟨rfl,((za HB1).setCell (Nat.le_refl _) _).setCell (Nat.le_refl _) _⟩
theorem zok{l:List Int}{k:Nat}(ht:zj (rowAt l k)=true):zk l (k+1)=zk l k++[rootOf (rowAt l k)]:=by
 show zk l k++_=_
 rw [if_pos ht]
theorem zqR{l:List Int}{k:Nat}(ht:zj (rowAt l k)=false):zk l (k+1)=zk l k:=by
 show zk l k++_=_
 rw [if_neg (by rw [ht];simp),List.append_nil]
set_option maxRecDepth 100000 in
set_option maxHeartbeats 2000000 in
theorem zei(a:Option Addr)(cap:Nat)(l:List Int)(w:World)(hb:Bs w a cap l)(hq:Zi l.length=true) :
  Calls Tryz.prog 136 #[.slice a l.length cap] w fun e w'=>∃ v,e=.returned (.tuple #[v,.nilIface])/\Lst roC 2 136 w' w.heap.size v (zk l 8)/\Below w.heap.size w w':=by
 have HL:=zb (fun W=>qn l.length W)
 have hl:=zM.1 hq
 rw [hq] at HL
 clear hq
 obtain⟨i0,hi0,hz0,hz1,hz2⟩:=info_parts zr9
 have HB:=zb hb
 have hbl:=hb.2.2.1
 clear hb
 go_enter Tryz.func136,Tryz.ntmps136
 go_wp2_with (go_at_call 185;refine(za HL _).mono ?_;rintro e w1 ⟨rfl,rfl⟩)
 go_loopw [4,12] (fun v hv wr=>∃ k:Nat,k<=8/\hv=.int .i64 k/\Lst roC 2 136 wr w.heap.size v (zk l k)/\Below w.heap.size w wr) (fun _ hv _=>8-(intOf hv).toNat)
 case atStart=>exact⟨0,by omega,rfl,Lst.nil _ _,Below.refl _ _⟩
 case round =>
  obtain⟨k,hk,rfl,hown,hbel⟩:=hrel
  obtain⟨va,vm,vc,rfl⟩:=hown.shape
  by_cases hlt:k<8
  ·have hbs:=(za HB).below hbel
   have HP1:=zb (zct k wr (by omega))
   have HP2:=zb (zct (k+1) wr (by omega))
   have ek:((k+1:Nat):Int)=(k:Int)+1:=by omega
   rw [ek] at HP2
   obtain⟨a',hlh,hb2⟩:=slice_lohi (P:=Tryz.prog) (t:=29) Tryz.underlying29 zx hbs (200+11 * k) (200+11 * (k+1)) (by omega) (by omega)
   have e11:200+11 * (k+1)-(200+11 * k)=11:=by omega
   rw [e11] at hlh hb2
   have hr11:(rowAt l k).length=11:=zu (by omega)
   have HC:=zb (zkz a' (cap-(200+11 * k)) (rowAt l k) wr hb2)
   have HR:=zb (zoo a' (cap-(200+11 * k)) (rowAt l k) wr hb2 hr11)
   rw [hr11] at HC
   have HO:=zb hown
   have HBEL:=zb hbel
   have hp1:(200+11 * k:Nat)<=l.length:=by omega
   clear hown hbel hbs hb2 hr11 e11 ek
   generalize 200+11 * (k+1)=p2 at *
   generalize 200+11 * k=p1 at *
   by_cases ht:zj (rowAt l k)=true
   ·rw [ht] at HC
    have HE:=zb (zok ht)
    have HLN:=zb (za3 l k)
    clear ht
    generalize hent:rootOf (rowAt l k)=ent at *
    clear hent
    obtain⟨s,x⟩:=ent
    dsimp only at HR
    go_wp2_with (first | (go_at_call 194;refine(za HP1).mono ?_;rintro e w1 ⟨rfl,hw1⟩;subst hw1) | (go_at_call 194;refine(za HP2).mono ?_;rintro e w1 ⟨rfl,hw1⟩;subst hw1) | (go_at_call 195;refine(za HC).mono ?_;rintro e w1 ⟨rfl,hw1⟩;subst hw1))
    refine(za HR).mono ?_
    rintro e w1 ⟨rfl,hb1⟩
    have hB1:=(za HBEL).trans (hb1.mono (za HBEL).size)
    have HB3:=zb (hB1.alloc hB1.size (.cells #[.string s,.int .i64 x] 136))
    have HO3:=zb (((za HO).below hb1).below ((Below.refl _ _).alloc (Nat.le_refl _) (.cells #[.string s,.int .i64 x] 136)))
    have hsz:=(za HBEL).size
    have hsz1:=hb1.size
    have HGN:Hid ((w1.alloc (.cells #[.string s,.int .i64 x] 136)).heap[w1.heap.size]?=some (.cells (roC (s,x)).toArray 136 (0,0))):=zb (heap_alloc_new w1 _)
    clear hb1 hB1 HO HBEL HR HC
    go_wp2_with (at_builtin;refine zr rfl _ _ 133 rfl w.heap.size i0 (.agg #[.string ByteArray.empty,.int .i64 0]) 24 Tryz.underlying133 hi0 hz0 hz1 hz2 rfl (by decide) (by decide) _ _ rfl (za HO3) w1.heap.size (s,x) rfl (za HGN) rfl (zxV _) (Nat.le_trans (za HLN) (by omega)) (by simp;omega) ?_)
    intro v9 w9 hown9 hbel9
    have HO9:=zb hown9
    have HB9:=zb ((za HB3).trans hbel9)
    obtain⟨a9,m9,c9,rfl⟩:=hown9.shape
    clear hown9 hbel9 HO3 HB3 HGN
    go_wp2
    go_roundw
    case rel=>exact⟨k+1,by omega,by go_num,by rw [za HE];exact za HO9,za HB9⟩
    case measure=>simp [intOf];omega
   ·have ht':zj (rowAt l k)=false:=by simpa using ht
    rw [ht'] at HC
    have HE:=zb (zqR ht')
    clear ht ht' HR
    go_wp2_with (first | (go_at_call 194;refine(za HP1).mono ?_;rintro e w1 ⟨rfl,hw1⟩;subst hw1) | (go_at_call 194;refine(za HP2).mono ?_;rintro e w1 ⟨rfl,hw1⟩;subst hw1) | (go_at_call 195;refine(za HC).mono ?_;rintro e w1 ⟨rfl,hw1⟩;subst hw1))
    go_roundw
    case rel=>exact⟨k+1,by omega,by go_num,by rw [za HE];exact za HO,za HBEL⟩
    case measure=>simp [intOf];omega
  ·obtain rfl:k=8:=by omega
   have HO:=zb hown
   have HBEL:=zb hbel
   clear hown hbel
   go_wp2
   go_ret2
   exact⟨_,rfl,za HO,za HBEL⟩
end Go.Proofs.YtchmlnmhbfaclaaGreatDoor
