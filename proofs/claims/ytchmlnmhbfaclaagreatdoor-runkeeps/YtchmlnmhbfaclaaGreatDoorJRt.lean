/-
  Parts of the proofs, joined by program.
-/
import Derived.Test.YtchmlnmhbfaclaaGreatDoorJDfr
import Derived.Test.YtchmlnmhbfaclaaGreatDoorJNum
import Derived.Test.YtchmlnmhbfaclaaGreatDoorJRtp
import Derived.Test.YtchmlnmhbfaclaaGreatDoorJCh
import Derived.Test.YtchmlnmhbfaclaaGreatDoorJIn
import Derived.Test.YtchmlnmhbfaclaaGreatDoorJHq
import Derived.Test.YtchmlnmhbfaclaaGreatDoorJHp
import Derived.Deep.RegionHeld3
namespace Go.Proofs.YtchmlnmhbfaclaaGreatDoor
open Go.RowKit
set_option linter.unusedVariables false
theorem zik(a la:Option Addr)(cap lc:Nat)(L l:List Int)(w:World)(hb:Bs w a cap L)(hl:Bs w la lc l)(hle:l.length<=L.length) :
  Calls Tryz.prog 201 #[.slice a L.length cap,.slice la l.length lc] w fun e w'=>e=.returned (.bool (decide (L.take l.length=l)))/\w=w':=by
 obtain⟨a2,hhi,hb2⟩:=slice_hi (P:=Tryz.prog) (t:=29) Tryz.underlying29 zx hb l.length hle
 have h8:(L.take l.length).length=l.length:=by rw [List.length_take];omega
 have HE:=zb (zgn a2 la cap lc (L.take l.length) l w hb2 hl)
 rw [h8] at HE
 have hbl:=hb.2.2.1
 clear hb hl hb2 h8
 generalize decide (L.take l.length=l)=r at *
 generalize L.length=N at *
 generalize l.length=n at *
 go_enter Tryz.func201,Tryz.ntmps201
 go_wp2_with fail
 refine(za HE).mono ?_
 rintro e w1 ⟨rfl,hw⟩
 subst hw
 go_wp2
 go_ret
 exact⟨rfl,rfl⟩
theorem zvM(x y:Int)(w:World):(Instr.field 124 (.agg #[.int .i64 x,.int .i64 y]) 0).run Tryz.prog w=.ok (.int .i64 x) w:=by
 simp [Instr.field,run_underlying Tryz.underlying124,run_underlying Tryz.underlying3,part,isAgg,asAgg,go_sem]
def pgI(k:Nat):Int:=if k=8 then 0 else (k:Int)
set_option maxRecDepth 100000 in
set_option maxHeartbeats 1000000 in
theorem Zo(a la:Option Addr)(cap lc:Nat)(L l:List Int)(w:World)(hb:Bs w a cap L)(hl:Bs w la lc l)(h8:l.length=8)(h1:288<=L.length)(h2:L.length<=6400) :
  Calls Tryz.prog 144 #[.slice a L.length cap,.slice la 8 lc] w fun e w'=>e=.returned (.tuple #[.int .i64 (pgI (plL L l)),.bool (decide (plL L l<8))])/\Below w.heap.size w w':=by
 have HB:=zb hb
 have HL:=zb hl
 have HF:=zb (zfE L l)
 have HH:=zb (fun(W:World) (ax:Option Addr) (cx:Nat) (X:List Int) (hX:Bs W ax cx X) (hlW:Bs W la lc l) (hle:8<=X.length)=>zik ax la cx lc X l W hX hlW (by omega))
 rw [h8] at HH
 have HI:=zb (fun k=>show isL L l k=decide ((rowAt L k).take 8=l) from rfl)
 have HT:=zb (fun k=>show(rowAt L k).take 8=(L.drop (200+11 * k)).take 8 by unfold rowAt;rw [List.take_take];rfl)
 generalize plL L l=P at *
 clear hb hl h8
 go_enter Tryz.func144,Tryz.ntmps144
 go_wp2_with fail
 go_loopw [6,7] (fun _ iv wr=>∃ k:Nat,k<=8/\iv=.int .i64 k/\(∀ j,j<k->isL L l j=false)/\Below w.heap.size w wr) (fun _ iv _=>8-(intOf iv).toNat)
 case atStart=>exact⟨0,Nat.zero_le _,rfl,fun j hj=>absurd hj (Nat.not_lt_zero j),Below.refl _ _⟩
 case round =>
  obtain⟨k,hk,rfl,hall,hbel⟩:=hrel
  by_cases hlt:k<8
  ·have HO:=zb (zg1 k wr hlt)
   have hb:=(za HB).below hbel
   have hPk:isL L l k=true->P=k:=fun h=>First.unique (za HF) ⟨hk,hall,fun _=>h⟩
   have hS:isL L l k=false->∀ j,j<k+1->isL L l j=false:=fun h=>First.step hall h
   have HPk:Hid (isL L l k=true->pgI P=k/\decide (P<8)=true):=zb (fun h=>by
    rw [hPk h]
    exact⟨if_neg (by omega),decide_eq_true hlt⟩)
   have HS:=zb hS
   have HBEL:=zb hbel
   have HC:Hid (∀ W,Below wr.heap.size wr W->∃ a',Sem.run Tryz.prog (Instr.slice 29 (.slice a L.length cap) (some (.int .i64 (200+11 * k:Nat))) none none) W=.ok (.slice a' (L.length-(200+11 * k)) (cap-(200+11 * k))) W/\Calls Tryz.prog 201 #[.slice a' (L.length-(200+11 * k)) (cap-(200+11 * k)),.slice la 8 lc] W fun e w'=>e=.returned (.bool (isL L l k))/\W=w'):=zb (fun W hW=>by
    obtain⟨a',hlo,hb2⟩:=slice_lo (P:=Tryz.prog) (t:=29) Tryz.underlying29 zx (hb.below hW) (200+11 * k) (by omega)
    have hh:=za HH W a' (cap-(200+11 * k)) (L.drop (200+11 * k)) hb2 (((za HL).below hbel).below hW) (by rw [List.length_drop];omega)
    rw [List.length_drop,<- za HT k,<- za HI k] at hh
    exact⟨a',hlo _,hh⟩)
   have hpl:(200+11 * k:Nat)<=L.length:=by omega
   clear hall hPk hS hbel hb HF HH HB HL
   generalize isL L l k=b at *
   generalize 200+11 * k=q at *
   generalize L.length=N at *
   go_wp2_with fail
   refine(za HO).mono ?_
   rintro e w1 ⟨rfl,hb1⟩
   obtain⟨a',hrun,hcall⟩:=za HC w1 hb1
   have HC1:=zb hcall
   have HB1:=zb ((za HBEL).trans (hb1.mono (za HBEL).size))
   have hfd:=zvM q 11 w1
   clear hb1 hcall HC HO HBEL
   cases b with
   | false =>
    have HN:=zb (za HS rfl)
    clear HS HPk
    go_wp2_with fail
    refine(za HC1).mono ?_
    rintro e w2 ⟨rfl,hw2⟩
    subst hw2
    go_wp2
    go_roundw
    case rel=>exact⟨k+1,by omega,by go_num,za HN,za HB1⟩
    case measure=>simp [intOf];omega
   | true =>
    have HX:=zb (za HPk rfl)
    clear HS HPk
    go_wp2_with fail
    refine(za HC1).mono ?_
    rintro e w2 ⟨rfl,hw2⟩
    subst hw2
    go_wp2
    go_ret2
    exact⟨by rw [(za HX).1,(za HX).2];rfl,za HB1⟩
  ·obtain rfl:k=8:=by omega
   have hp8:P=8:=First.unique (za HF) ⟨hk,hall,fun h=>absurd h (Nat.lt_irrefl _)⟩
   subst hp8
   have HBEL:=zb hbel
   clear hall HF hbel
   go_wp2
   go_ret2
   exact⟨rfl,za HBEL⟩
theorem zdN(a:Option Addr)(cap:Nat)(L:List Int)(w:World)(hb:Bs w a cap L)(hf:Fine L) :
  Calls Tryz.prog 145 #[.slice a L.length cap] w fun e w'=>e=.returned (.tuple #[.int .i64 (pgI (frR L)),zK (if frR L=8 then 4 else 0)])/\Below w.heap.size w w':=by
 have hl:=hf.len
 have hz8:(zerosB 8).length=8:=length_zerosB 8
 have hmk:Sem.run Tryz.prog (Instr.makeSlice 29 (.int .i64 8) (.int .i64 8)) w=.ok (.slice (some ⟨w.heap.size,0,none⟩) 8 8) (mkW w 8):=zbp w 8 (by decide)
 have hbz:=(zh4 w 8).bs (byt_zerosB 8) (by rw [hz8];decide)
 have hbw:=zdB w 8
 have hp:=Zo a (some ⟨w.heap.size,0,none⟩) cap (zerosB 8).length L (zerosB 8) (mkW w 8) (hb.below hbw) hbz hz8 hl.1 hl.2
 rw [zuE hf,hz8] at hp
 have HP:=zb hp
 have HBW:=zb hbw
 have hfr:=zsx L
 clear hb hf hz8 hbz hbw hp
 generalize mkW w 8=W0 at *
 generalize frR L=P at *
 generalize L.length=N at *
 by_cases h8:P=8
 ·have hd:decide (P<8)=false:=decide_eq_false (by omega)
  have hpg:pgI P=0:=if_pos h8
  rw [if_pos h8,zh 4 (by decide),hpg]
  rw [hd,hpg] at HP
  clear h8 hd hpg hfr
  go_enter Tryz.func145,Tryz.ntmps145
  go_wp2_with fail
  refine(za HP).mono ?_
  rintro e w1 ⟨rfl,hb1⟩
  have HB1:=zb ((za HBW).trans (hb1.mono (za HBW).size))
  clear hb1 HP HBW
  go_wp2
  go_ret2
  exact⟨rfl,za HB1⟩
 ·have hd:decide (P<8)=true:=decide_eq_true (by omega)
  rw [if_neg h8,zf]
  rw [hd] at HP
  clear h8 hd hfr
  generalize pgI P=x at *
  go_enter Tryz.func145,Tryz.ntmps145
  go_wp2_with fail
  refine(za HP).mono ?_
  rintro e w1 ⟨rfl,hb1⟩
  have HB1:=zb ((za HBW).trans (hb1.mono (za HBW).size))
  clear hb1 HP HBW
  go_wp2
  go_ret2
  exact⟨rfl,za HB1⟩
theorem Lst.lowA{α:Type}{enc:α->List Value}{k T:Nat}{w:World}{B B':Nat}{v:Value}{l:List α}(h:Lst enc k T w B' v l)(hB:B<=B'):Lst enc k T w B v l:=by
 refine⟨h.1,?_⟩
 rcases h.2 with h0 | ⟨g,cap,cur,e,h1,h2⟩
 ·exact .inl h0
 ·exact .inr ⟨g,cap,cur,e,Nat.le_trans hB h1,h2⟩
theorem zjv(p g c B:Nat)(L:List Int)(w:World)(h:Hp w B p g c L) :
  Calls Tryz.prog 147 #[.pointer (some ⟨p,0,none⟩)] w fun e w'=>∃ v,e=.returned v/\Lst roC 2 136 w' w.heap.size v (zk L 8)/\Below w.heap.size w w':=by
 have HB:=zb (qu p g c B L w h)
 have hbyt:=h.byt
 have hlen:=h.len
 have hq:=h.fine.len0
 have HR:Hid (∀ W a' c',Below w.heap.size w W->OwnV W w.heap.size (.slice a' L.length c') L->Calls Tryz.prog 136 #[.slice a' L.length c'] W fun e w'=>∃ v,e=.returned (.tuple #[v,.nilIface])/\Lst roC 2 136 w' w.heap.size v (zk L 8)/\Below w.heap.size w w'):=zb (fun W a' c' hW hO=>by
  obtain⟨a2,c2,e2,hb2⟩:=hO.bs hbyt (by omega)
  simp only [Value.slice.injEq,true_and] at e2
  obtain⟨rfl,rfl⟩:=e2
  refine(zei a' c' L W hb2 hq).mono ?_
  rintro e w' ⟨v,rfl,hl,hb⟩
  exact⟨v,rfl,hl.lowA hW.size,hW.trans (hb.mono hW.size)⟩)
 clear h hbyt hq
 generalize zk L 8=RS at *
 generalize hN:L.length=N at *
 clear hN
 go_enter Tryz.func147,Tryz.ntmps147
 go_wp2_with fail
 refine(za HB).mono ?_
 rintro e w1 ⟨a1,c1,rfl,ho1,hb1⟩
 have HR1:=zb (za HR w1 a1 c1 hb1 ho1)
 clear ho1 hb1 HB HR
 go_wp2_with fail
 refine(za HR1).mono ?_
 rintro e w2 ⟨v2,rfl,hl2,hb2⟩
 obtain⟨va,vm,vc,rfl⟩:=hl2.shape
 have HL:=zb hl2
 have HB2:=zb hb2
 clear hl2 hb2 HR1
 go_wp2
 go_ret
 exact⟨_,rfl,za HL,za HB2⟩
theorem zvD(q:Nat)(t s:ByteArray)(x:Int)(w:World)(hq:w.cell? ⟨q,0,none⟩=some (.string s)) :
  Calls Tryz.prog 149 #[.agg #[.string t,.int .i64 x],.pointer (some ⟨q,0,none⟩)] w fun e w'=>e=.returned (.bool (decide (t=s)))/\Below w.heap.size w w':=by
 have hq2:(w.alloc (.cells #[.string t,.int .i64 x] 136)).cell? ⟨q,0,none⟩=some (.string s):=(((Below.refl w.heap.size w).alloc (Nat.le_refl _) _).cell (block_lt_of_cell hq)).trans hq
 have heq:(t.toList == s.toList)=decide (t=s):=by
  by_cases e:t=s
  ·rw [decide_eq_true e];exact zfk.2 e
  ·rw [decide_eq_false e];exact QW e
 clear hq
 generalize decide (t=s)=D at *
 go_enter Tryz.func149,Tryz.ntmps149
 go_wp2
 go_ret
 exact⟨rfl,(Below.refl _ _).alloc (Nat.le_refl _) _⟩
set_option maxHeartbeats 1000000 in
theorem zlW(q:Nat)(s:ByteArray)(a:Option Addr)(cap:Nat)(l:List (ByteArray×Int))(w:World)(hs:Sls roC 2 w a cap l)(hq:w.cell? ⟨q,0,none⟩=some (.string s)) :
  Calls Tryz.prog 148 #[.slice a l.length cap,.func (.func 149) #[] #[.pointer (some ⟨q,0,none⟩)]] w fun e w'=>∃ i:Int,e=.returned (.int .i64 i)/\((i=-1/\zL l s=0)\/∃ k:Nat,i=k/\l[k]?=some (s,zL l s))/\Below w.heap.size w w':=by
 have hl:=hs.2.2.1
 have HS:=zb hs
 have HQ:=zb hq
 generalize hLD:zL l s=V at *
 have HV:Hid (zL (l.drop 0) s=V):=zb (by rw [List.drop_zero];exact hLD)
 clear hs hq hLD
 go_enter Tryz.func148,Tryz.ntmps148
 go_wp2
 go_loopw [5,8] (fun _ iv wr=>∃ k:Nat,k<=l.length/\iv=.int .i64 k/\zL (l.drop k) s=V/\Below w.heap.size w wr) (fun _ iv _=>l.length-(intOf iv).toNat)
 case atStart=>exact⟨0,Nat.zero_le _,rfl,za HV,Below.refl _ _⟩
 case round =>
  obtain⟨k,hk,rfl,hV,hbel⟩:=hrel
  by_cases hlt:k<l.length
  ·have hne:l≠[]:=by intro e;rw [e] at hlt;simp at hlt
   obtain⟨b1,o1,rfl,hc1⟩:=((za HS).below hbel).2.2.2 hne
   obtain⟨f,hf⟩:∃ f,l[k]?=some f:=⟨l[k],List.getElem?_eq_getElem hlt⟩
   obtain⟨q0,q1⟩:=Sls.root (cap:=0) hc1 hf
   have hq:=(hbel.cell (block_lt_of_cell (za HQ))).trans (za HQ)
   rw [zr0 hf] at hV
   obtain⟨t,x⟩:=f
   have HC:=zb (zvD q t s x wr hq)
   have HFK:=zb hf
   have HBEL:=zb hbel
   dsimp only at *
   clear hc1 hf hne hq hbel
   by_cases e:t=s
   ·subst e
    rw [if_pos rfl] at hV
    rw [decide_eq_true rfl] at HC
    have HVV:=zb hV
    clear hV
    go_wp2_with (go_at_call 149;refine(za HC).mono ?_;rintro e w1 ⟨rfl,hb1⟩;have HB1:=zb ((za HBEL).trans (hb1.mono (za HBEL).size));clear hb1)
    go_ret
    exact⟨k,rfl,.inr ⟨k,rfl,by rw [<- za HVV];exact za HFK⟩,za HB1⟩
   ·rw [if_neg e] at hV
    rw [decide_eq_false e] at HC
    have HVV:=zb hV
    clear hV e
    go_wp2_with (go_at_call 149;refine(za HC).mono ?_;rintro e w1 ⟨rfl,hb1⟩;have HB1:=zb ((za HBEL).trans (hb1.mono (za HBEL).size));clear hb1)
    go_roundw
    case rel=>exact⟨k+1,by omega,by go_num,za HVV,za HB1⟩
    case measure=>simp [intOf];omega
  ·have hkq:k=l.length:=by omega
   have h0:V=0:=by rw [hkq,List.drop_length] at hV;exact hV.symm
   have hge:¬ ((k:Int)<(l.length:Int)):=by omega
   have HV0:=zb h0
   have HBEL:=zb hbel
   clear hV hkq hlt hk h0 hbel
   go_wp2
   go_ret
   exact⟨-1,rfl,.inl ⟨rfl,za HV0⟩,za HBEL⟩
theorem zum{L:List Int}(hf:Fine L){s:ByteArray}{x:Int}(hm:(s,x)∈zk L 8):1<=x:=by
 obtain⟨i,hi,hr,e⟩:=Qc.1 hm
 have h2:(rowAt L i).getD 10 0=x:=congrArg Prod.snd e
 rw [<- h2]
 exact(zeZ hf hi hr).1
section
variable {w:World} {B p g c:Nat} {L:List Int}
theorem zvB(p:Nat)(s:ByteArray)(t:Int)(w:World)(hn:Qb s=false)(hs:s.size<=140737488351232) :
  Calls Tryz.prog 99 #[.pointer (some ⟨p,0,none⟩),.string s,.int .i64 t] w fun e w'=>e=.returned (.tuple #[.int .i64 0,zK 2])/\Below w.heap.size w w':=by
 have hB0:Below w.heap.size w (w.alloc (.cells #[.string s] 9)):=(Below.refl _ _).alloc (Nat.le_refl _) _
 have HP:=zb (ZG s (w.alloc (.cells #[.string s] 9)) hs (fun h=>by rw [zS.2 h] at hn;cases hn))
 have HB0:=zb hB0
 rw [zh 2 (by decide)]
 clear hn hB0
 go_enter Tryz.func99,Tryz.ntmps99
 go_wp2_with fail
 refine(za HP).mono ?_
 rintro e w1 ⟨rfl,hb1⟩
 have HB1:=zb ((za HB0).trans (hb1.mono (za HB0).size))
 clear hb1 HP HB0
 go_wp2
 go_ret2
 exact⟨rfl,za HB1⟩
theorem zyW(p:Nat)(s:ByteArray)(t:Int)(w:World)(hn:Qb s=true)(hs:s.size<=140737488351232)(ht:t < -1\/15<t) :
  Calls Tryz.prog 99 #[.pointer (some ⟨p,0,none⟩),.string s,.int .i64 t] w fun e w'=>e=.returned (.tuple #[.int .i64 0,zK 1])/\Below w.heap.size w w':=by
 have hB0:Below w.heap.size w (w.alloc (.cells #[.string s] 9)):=(Below.refl _ _).alloc (Nat.le_refl _) _
 have HP:=zb (Qm s (w.alloc (.cells #[.string s] 9)) hs (zI s) 0 (.inl ⟨zS.1 hn,rfl,rfl⟩))
 rw [zf] at HP
 have HB0:=zb hB0
 rw [zh 1 (by decide)]
 clear hn hB0
 by_cases h1:t < -1
 ·clear ht
  go_enter Tryz.func99,Tryz.ntmps99
  go_wp2_with fail
  refine(za HP).mono ?_
  rintro e w1 ⟨a1,c1,rfl,_,hb1⟩
  have HB1:=zb ((za HB0).trans (hb1.mono (za HB0).size))
  clear hb1 HP HB0
  go_wp2
  go_ret2
  exact⟨rfl,za HB1⟩
 ·have h2:15<t:=by omega
  clear ht
  go_enter Tryz.func99,Tryz.ntmps99
  go_wp2_with fail
  refine(za HP).mono ?_
  rintro e w1 ⟨a1,c1,rfl,_,hb1⟩
  have HB1:=zb ((za HB0).trans (hb1.mono (za HB0).size))
  clear hb1 HP HB0
  go_wp2
  go_ret2
  exact⟨rfl,za HB1⟩
set_option maxHeartbeats 2000000 in
theorem zBp(h:Hp w B p g c L)(s:ByteArray)(t:Int)(hn:Qb s=true)(hs:s.size<=140737488351232)(h1:¬ t < -1)(h2:¬ 15<t) :
  Calls Tryz.prog 99 #[.pointer (some ⟨p,0,none⟩),.string s,.int .i64 t] w fun e w'=>e=.returned (.tuple #[.int .i64 (gtH L s t),zK (gtE L s t)])/\Below w.heap.size w w':=by
 have hB0:Below w.heap.size w (w.alloc (.cells #[.string s] 9)):=(Below.refl _ _).alloc (Nat.le_refl _) _
 have HP:=zb (Qm s (w.alloc (.cells #[.string s] 9)) hs (zI s) 0 (.inl ⟨zS.1 hn,rfl,rfl⟩))
 rw [zf] at HP
 have hq0:(w.alloc (.cells #[.string s] 9)).cell? ⟨w.heap.size,0,none⟩=some (.string s):=by rw [cell_of_row _ _ _ _ _ _ (heap_alloc_new w _)];rfl
 have HA:=zb (fun(W:World) (hW:Below w.heap.size w W)=>zjv p g c B L W (h.below hW))
 have HI:=zb (fun(a:Option Addr) (cap:Nat) (W:World) (hsl:Sls roC 2 W a cap (zk L 8)) (hq:W.cell? ⟨w.heap.size,0,none⟩=some (.string s))=>zlW w.heap.size s a cap (zk L 8) W hsl hq)
 have HPOS:=zb (fun(x:Int) (hm:(s,x)∈zk L 8)=>zum h.fine hm)
 have hcz:zL (zk L 8) s≠0->zO L (zL (zk L 8) s)=0:=fun h0=>by
  rcases zha h.fine s with e | ⟨_,_,e⟩
  ·exact absurd e h0
  ·exact e
 have HT:Hid (∀ W,Below w.heap.size w W->zL (zk L 8) s≠0->Calls Tryz.prog 142 #[.pointer (some ⟨p,0,none⟩),.int .i64 (zL (zk L 8) s)] W fun e w'=>e=.returned (.tuple #[.int .i64 (zaQ L (zL (zk L 8) s)).2.2.2,.nilIface])/\Below W.heap.size W w'):=zb (fun W hW h0=>by
  have:=zbD p g c B L (zL (zk L 8) s) W (h.below hW)
  rw [hcz h0,zf] at this
  exact this)
 have hg:gtE L s t=if zL (zk L 8) s=0 then 5 else if t≠-1/\t≠(zaQ L (zL (zk L 8) s)).2.2.2 then 8 else 0:=by
  unfold gtE
  rw [if_neg (by rw [hn];simp),if_neg (by omega)]
 have hgh:gtH L s t=if gtE L s t=0 then zL (zk L 8) s else 0:=rfl
 have hrl:=za3 L 8
 have HE5:Hid (zL (zk L 8) s=0->gtE L s t=5/\gtH L s t=0):=zb (fun h0=>by
  have e1:gtE L s t=5:=by rw [hg,if_pos h0]
  exact⟨e1,by rw [hgh,e1];rfl⟩)
 have HE8:Hid (zL (zk L 8) s≠0->t≠-1->t≠(zaQ L (zL (zk L 8) s)).2.2.2->gtE L s t=8/\gtH L s t=0):=zb (fun h0 h1 h2=>by
  have e1:gtE L s t=8:=by rw [hg,if_neg h0,if_pos ⟨h1,h2⟩]
  exact⟨e1,by rw [hgh,e1];rfl⟩)
 have HE0:Hid (zL (zk L 8) s≠0->¬ (t≠-1/\t≠(zaQ L (zL (zk L 8) s)).2.2.2)->gtE L s t=0/\gtH L s t=zL (zk L 8) s):=zb (fun h0 h1=>by
  have e1:gtE L s t=0:=by rw [hg,if_neg h0,if_neg h1]
  exact⟨e1,by rw [hgh,e1];rfl⟩)
 have HB0:=zb hB0
 have HQ0:=zb hq0
 clear h hn hB0 hq0 hcz hg hgh
 generalize gtE L s t=GE at *
 generalize gtH L s t=GH at *
 generalize (zaQ L (zL (zk L 8) s)).2.2.2=T at *
 generalize zL (zk L 8) s=V at *
 generalize zk L 8=RS at *
 go_enter Tryz.func99,Tryz.ntmps99
 go_wp2_with fail
 refine(za HP).mono ?_
 rintro e w1 ⟨a1,c1,rfl,_,hb1⟩
 have HQ1:=zb ((hb1.cell (p:=⟨w.heap.size,0,none⟩) (block_lt_of_cell (za HQ0))).trans (za HQ0))
 have HB1:=zb ((za HB0).trans (hb1.mono (za HB0).size))
 have HA1:=zb (za HA w1 (za HB1))
 clear hb1 HP HB0 HQ0 HA
 generalize (zI s).length=nl at *
 go_wp2_with fail
 refine(za HA1).mono ?_
 rintro e w2 ⟨v2,rfl,hl2,hb2⟩
 obtain⟨a2,c2,rfl,hsl2⟩:=hl2.sls zhL (by omega)
 have hq2:=(hb2.cell (p:=⟨w.heap.size,0,none⟩) (block_lt_of_cell (za HQ1))).trans (za HQ1)
 have HI2:=zb (za HI a2 c2 w2 hsl2 hq2)
 have HS2:=zb hsl2
 have HB2:=zb ((za HB1).trans (hb2.mono (za HB1).size))
 clear hl2 hsl2 hb2 hq2 HA1 HQ1 HB1 HI
 go_wp2_with fail
 refine(za HI2).mono ?_
 rintro e w3 ⟨i,rfl,hi,hb3⟩
 have HB3:=zb ((za HB2).trans (hb3.mono (za HB2).size))
 rcases hi with ⟨rfl,rfl⟩ | ⟨k,rfl,hk⟩
 ·have HX:=zb (za HE5 rfl)
  clear hb3 HI2 HS2 HB2 HE5 HE8 HE0
  go_wp2
  go_ret2
  exact⟨by rw [(za HX).1,(za HX).2];rfl,za HB3⟩
 ·have hv:V≠0:=by have:=za HPOS V (List.mem_of_getElem? hk);omega
  have hkl:=(List.getElem?_eq_some_iff.1 hk).1
  obtain⟨b1,o1,rfl,hc1⟩:=((za HS2).below hb3).2.2.2 (by intro e;rw [e] at hkl;simp at hkl)
  obtain⟨q0,q1⟩:=Sls.root (cap:=0) hc1 hk
  dsimp only at q0 q1
  have HT3:=zb (za HT w3 (za HB3) hv)
  have HVN:=zb hv
  clear hb3 HI2 HS2 HB2 hc1 hk HT HPOS hv
  generalize RS.length=m at *
  have hki:(k:Int)<(m:Int):=by omega
  go_wp2_with fail
  refine(za HT3).mono ?_
  rintro e w4 ⟨rfl,hb4⟩
  have HB4:=zb ((za HB3).trans (hb4.mono (za HB3).size))
  clear hb4 HT3 HB3 q0 q1
  by_cases ht:t=-1
  ·have HX:=zb (za HE0 (za HVN) (fun h=>h.1 ht))
   subst ht
   go_wp2
   go_ret2
   exact⟨by rw [(za HX).1,(za HX).2];rfl,za HB4⟩
  ·have htb:(t != -1)=true:=bne_iff_ne.2 ht
   by_cases hT:t=T
   ·have HX:=zb (za HE0 (za HVN) (fun h=>h.2 hT))
    subst hT
    have hTb:(t != t)=false:=by simp
    clear ht
    go_wp2
    go_ret2
    exact⟨by rw [(za HX).1,(za HX).2];rfl,za HB4⟩
   ·have HX:=zb (za HE8 (za HVN) ht hT)
    have hTb:(t != T)=true:=bne_iff_ne.2 hT
    clear ht hT
    go_wp2
    go_ret2
    exact⟨by rw [(za HX).1,(za HX).2];rfl,za HB4⟩
theorem zqT(h:Hp w B p g c L)(s:ByteArray)(t:Int)(hs:s.size<=140737488351232) :
  Calls Tryz.prog 99 #[.pointer (some ⟨p,0,none⟩),.string s,.int .i64 t] w fun e w'=>e=.returned (.tuple #[.int .i64 (gtH L s t),zK (gtE L s t)])/\Below w.heap.size w w':=by
 cases hn:Qb s with
 | false =>
  have e1:gtE L s t=2:=by unfold gtE;rw [hn];rfl
  have e2:gtH L s t=0:=by unfold gtH;rw [e1];rfl
  rw [e1,e2]
  exact zvB p s t w hn hs
 | true =>
  by_cases ht:t < -1\/15<t
  ·have e1:gtE L s t=1:=by unfold gtE;rw [hn,if_neg (by simp),if_pos ht]
   have e2:gtH L s t=0:=by unfold gtH;rw [e1];rfl
   rw [e1,e2]
   exact zyW p s t w hn hs ht
  ·exact zBp h s t hn hs (by omega) (by omega)
end
section
variable {w:World} {B p g c:Nat} {L:List Int}
set_option maxHeartbeats 1000000 in
theorem zfy(h:Hp w B p g c L)(hB:B<=w.heap.size)(i:Nat)(r:(ByteArray×Int))(hs:r.1.size<=140737488351232)(h0:prE L i r=0)(hf:Fine (prL L i r)) :
  Calls Tryz.prog 146 #[.pointer (some ⟨p,0,none⟩),.int .i64 i,.agg #[.string r.1,.int .i64 r.2]] w fun e w'=>e=.returned .nilIface/\∃ g' c',Hp w' B p g' c' (prL L i r)/\Turn (foot p g) (foot p g') w w':=by
 have hB0:Below w.heap.size w (w.alloc (.cells #[.string r.1,.int .i64 r.2] 136)):=(Below.refl _ _).alloc (Nat.le_refl _) _
 have hbyt:=h.byt
 have hlen:=h.len
 have hpl:=zls h0
 have hc0:(w.alloc (.cells #[.string r.1,.int .i64 r.2] 136)).cell? ⟨w.heap.size,0,none⟩=some (.string r.1):=by rw [cell_of_row _ _ _ _ _ _ (heap_alloc_new w _)];rfl
 have hc1:(w.alloc (.cells #[.string r.1,.int .i64 r.2] 136)).cell? ⟨w.heap.size,1,none⟩=some (.int .i64 r.2):=by rw [cell_of_row _ _ _ _ _ _ (heap_alloc_new w _)];rfl
 have HBY:=zb (fun(W:World) (hW:Below w.heap.size w W)=>qu p g c B L W (h.below hW))
 have HPR:Hid (∀ (W W':World) a' c',Below w.heap.size w W->OwnV W W'.heap.size (.slice a' L.length c') L->Calls Tryz.prog 203 #[.slice a' L.length c',.int .i64 i,.agg #[.string r.1,.int .i64 r.2]] W fun e w'=>∃ a2 c2,e=.returned (.tuple #[.slice a2 L.length c2,.nilIface])/\Bs w' a2 c2 (prL L i r)/\Below w.heap.size w w'/\Below W.heap.size W w'):=zb (fun W W' a' c' hW hO=>by
  obtain⟨a2,c2,e2,hb2⟩:=hO.bs hbyt (by omega)
  simp only [Value.slice.injEq,true_and] at e2
  obtain⟨rfl,rfl⟩:=e2
  have:=zj6 a' c' L i r W hb2 hs
  rw [h0,zf] at this
  refine this.mono ?_
  rintro e w' ⟨a3,c3,rfl,hb3,hb⟩
  exact⟨a3,c3,by rw [hpl],hb3,hW.trans (hb.mono hW.size),hb⟩)
 have HRP:Hid (∀ W a2 c2,Below w.heap.size w W->Bs W a2 c2 (prL L i r)->Calls Tryz.prog 154 #[.pointer (some ⟨p,0,none⟩),.slice a2 L.length c2] W fun e w'=>e=.returned .nilIface/\∃ g' c',Hp w' B p g' c' (prL L i r)/\Turn (foot p g) (foot p g') w w'):=zb (fun W a2 c2 hW hb=>by
  have:=zcd (h.below hW) (Nat.le_trans hB hW.size) hb hf hpl
  rw [hpl] at this
  refine this.mono ?_
  rintro e w' ⟨rfl,g',c',hh,ht⟩
  exact⟨rfl,g',c',hh,(Turn.of_below hW).trans ht⟩)
 have HB0:=zb hB0
 obtain⟨rs,rh⟩:=r
 dsimp only at *
 clear h hf h0 hbyt hpl hB
 generalize prL L i (rs,rh)=PL at *
 generalize L.length=N at *
 go_enter Tryz.func146,Tryz.ntmps146
 go_wp2_with fail
 generalize hwx:w.alloc (.cells #[.string rs,.int .i64 rh] 136)=wx at *
 have HBY1:Hid (Calls Tryz.prog 143 #[.pointer (some ⟨p,0,none⟩)] wx.drew fun e w'=>∃ a' c',e=.returned (.slice a' N c')/\w'.cell? ⟨w.heap.size,0,none⟩=some (.string rs)/\w'.cell? ⟨w.heap.size,1,none⟩=some (.int .i64 rh)/\Hid (Calls Tryz.prog 203 #[.slice a' N c',.int .i64 i,.agg #[.string rs,.int .i64 rh]] w' fun e w'=>∃ a2 c2,e=.returned (.tuple #[.slice a2 N c2,.nilIface])/\w'.cell? ⟨w.heap.size,0,none⟩=some (.string rs)/\w'.cell? ⟨w.heap.size,1,none⟩=some (.int .i64 rh)/\Hid (Bs w' a2 c2 PL/\Below w.heap.size w w'))):=zb (by
  have hd:=qk (za HB0)
  refine(za HBY wx.drew hd).mono ?_
  rintro e w1 ⟨a',c',rfl,ho,hb1⟩
  have hB1:=hd.trans (hb1.mono hd.size)
  have hq0:=(hb1.cell (p:=⟨w.heap.size,0,none⟩) (block_lt_of_cell hc0)).trans hc0
  have hq1:=(hb1.cell (p:=⟨w.heap.size,1,none⟩) (block_lt_of_cell hc1)).trans hc1
  refine⟨a',c',rfl,hq0,hq1,zb ((za HPR w1 wx.drew a' c' hB1 ho).mono ?_)⟩
  rintro e w2 ⟨a2,c2,rfl,hbs2,hb2,hbw⟩
  exact⟨a2,c2,rfl,(hbw.cell (p:=⟨w.heap.size,0,none⟩) (block_lt_of_cell hq0)).trans hq0,(hbw.cell (p:=⟨w.heap.size,1,none⟩) (block_lt_of_cell hq1)).trans hq1,zb ⟨hbs2,hb2⟩⟩)
 clear HBY HPR hB0 HB0
 go_region_held3 (fun w'=>w'.cell? ⟨w.heap.size,0,none⟩=some (.string rs)/\w'.cell? ⟨w.heap.size,1,none⟩=some (.int .i64 rh)) (first | go_keep | (go_split_ands;refine⟨?_,?_⟩ <;> go_keep))
  (first | (go_at_call 143;refine(za HBY1).mono ?_;rintro e w1 ⟨a',c',rfl,r0,r1,HP1⟩) | (go_at_call 203;refine(za HP1).mono ?_;rintro e w2 ⟨a2,c2,rfl,s0,s1,HX2⟩))
 have HRP2:=zb (za HRP w2 a2 c2 (za HX2).2 (za HX2).1)
 clear HX2 HRP s0 s1 r0 r1 HBY1 HP1
 go_wp2_with fail
 refine(za HRP2).mono ?_
 rintro e w3 ⟨rfl,g',c',hh,ht⟩
 have HH:=zb hh
 have HT:=zb ht
 clear hh ht HRP2
 go_wp2
 go_ret
 exact⟨rfl,g',c',za HH,za HT⟩
theorem zub(p:Nat)(s:ByteArray)(x:Int)(w:World)(hn:Qb s=false)(hs:s.size<=140737488351232) :
  Calls Tryz.prog 97 #[.pointer (some ⟨p,0,none⟩),.string s,.int .i64 x] w fun e w'=>e=.returned (.tuple #[.bool false,zK 2])/\Below w.heap.size w w':=by
 have HP:=zb (ZG s w hs (fun h=>by rw [zS.2 h] at hn;cases hn))
 rw [zh 2 (by decide)]
 clear hn
 go_enter Tryz.func97,Tryz.ntmps97
 go_wp2_with fail
 refine(za HP).mono ?_
 rintro e w1 ⟨rfl,hb1⟩
 have HB1:=zb hb1
 clear hb1 HP
 go_wp2
 go_ret2
 exact⟨rfl,za HB1⟩
theorem zxL(h:Hp w B p g c L)(s:ByteArray)(x:Int)(hn:Qb s=true)(hs:s.size<=140737488351232)(hc:zO L x≠0) :
  Calls Tryz.prog 97 #[.pointer (some ⟨p,0,none⟩),.string s,.int .i64 x] w fun e w'=>e=.returned (.tuple #[.bool false,zK (zO L x)])/\Below w.heap.size w w':=by
 have HP:=zb (Qm s w hs (zI s) 0 (.inl ⟨zS.1 hn,rfl,rfl⟩))
 rw [zf] at HP
 have HT:=zb (fun(W:World) (hW:Below w.heap.size w W)=>zbD p g c B L x W (h.below hW))
 rw [zh _ hc] at HT ⊢
 clear hn h hc
 generalize (zaQ L x).2.2.2=T at *
 generalize zO L x=X at *
 generalize zI s=NL at *
 go_enter Tryz.func97,Tryz.ntmps97
 go_wp2_with fail
 refine(za HP).mono ?_
 rintro e w1 ⟨a1,c1,rfl,_,hb1⟩
 have HT1:=zb (za HT w1 hb1)
 have HB1:=zb hb1
 clear hb1 HP HT
 go_wp2_with fail
 refine(za HT1).mono ?_
 rintro e w2 ⟨rfl,hb2⟩
 have HB2:=zb ((za HB1).trans (hb2.mono (za HB1).size))
 clear hb2 HT1 HB1
 go_wp2
 go_ret2
 exact⟨rfl,za HB2⟩
set_option maxHeartbeats 2000000 in
theorem zqB(h:Hp w B p g c L)(hB:B<=w.heap.size)(s:ByteArray)(x:Int)(hn:Qb s=true)(hs:s.size<=140737488351232)(hc:zO L x=0)(hp:plR L s<8) :
  Calls Tryz.prog 97 #[.pointer (some ⟨p,0,none⟩),.string s,.int .i64 x] w fun e w'=>e=.returned (.tuple #[.bool false,.nilIface])/\∃ g' c',Hp w' B p g' c' (seB L s x)/\Turn (foot p g) (foot p g') w w':=by
 have hn8:(zI s).length=8:=zH s (zS.1 hn).2.1
 have HP:Hid (Calls Tryz.prog 141 #[.string s] w fun e w'=>∃ a c,e=.returned (.tuple #[.slice a 8 c,.nilIface])/\Bs w' a c (zI s)/\Below w.heap.size w w'):=zb (by
  have:=Qm s w hs (zI s) 0 (.inl ⟨zS.1 hn,rfl,rfl⟩)
  rw [zf] at this
  exact this.mono fun e w' ⟨a,c,he,hb,hw⟩=>⟨a,c,by rw [he,hn8],hb,hw⟩)
 have HT:=zb (fun(W:World) (hW:Below w.heap.size w W)=>zbD p g c B L x W (h.below hW))
 rw [hc,zf] at HT
 have HBY:=zb (fun(W:World) (hW:Below w.heap.size w W)=>qu p g c B L W (h.below hW))
 have hlen:=h.len
 have hbyt:=h.byt
 have HPL:Hid (∀ (W:World) (la a':Option Addr) (lc c':Nat),Bs W la lc (zI s)->Bs W a' c' L->Calls Tryz.prog 144 #[.slice a' L.length c',.slice la 8 lc] W fun e w'=>e=.returned (.tuple #[.int .i64 (plR L s),.bool true])/\Below W.heap.size W w'):=zb (fun W la a' lc c' h1 h2=>by
  have:=Zo a' la c' lc L (zI s) W h2 h1 hn8 hlen.1 hlen.2.1
  rw [zdw hbyt hn,show pgI (plR L s)=(plR L s:Int) from if_neg (by omega),decide_eq_true hp] at this
  exact this)
 have hI:seI L s=plR L s:=by unfold seI;rw [if_pos hp]
 have h0:seE L s x=0:=by unfold seE;rw [if_neg (by rw [hn];simp),if_neg (fun h=>h hc),hI,if_neg (by omega)]
 obtain⟨g1,g2,_,_⟩:=zes h.fine h0
 obtain⟨k1,k2⟩:=zwv h.fine h0
 have HPUT:Hid (∀ W,Below w.heap.size w W->Calls Tryz.prog 146 #[.pointer (some ⟨p,0,none⟩),.int .i64 (plR L s),.agg #[.string s,.int .i64 x]] W fun e w'=>e=.returned .nilIface/\∃ g' c',Hp w' B p g' c' (seB L s x)/\Turn (foot p g) (foot p g') w w'):=zb (fun W hW=>by
  rw [hI] at g1 k1 k2
  have:=zfy (h.below hW) (Nat.le_trans hB hW.size) (plR L s) (s,x) hs g1 k2
  rw [k1] at this
  refine this.mono ?_
  rintro e w' ⟨rfl,g',c',hh,ht⟩
  exact⟨rfl,g',c',hh,(Turn.of_below hW).trans ht⟩)
 clear g1 g2 k1 k2 h0 hI
 have HOB:Hid (∀ (W:World) (D:Nat) (a':Option Addr) (c':Nat),OwnV W D (.slice a' L.length c') L->Bs W a' c' L):=zb (fun W D a' c' ho=>by
  obtain⟨a2,c2,e2,hb2⟩:=ho.bs hbyt (by omega)
  simp only [Value.slice.injEq,true_and] at e2
  obtain⟨rfl,rfl⟩:=e2
  exact hb2)
 clear h hn hc hB hbyt hn8 hp
 generalize (zaQ L x).2.2.2=T at *
 generalize zI s=NL at *
 generalize seB L s x=SB at *
 generalize plR L s=P at *
 generalize L.length=N at *
 go_enter Tryz.func97,Tryz.ntmps97
 go_wp2_with fail
 refine(za HP).mono ?_
 rintro e w1 ⟨a1,c1,rfl,hbs1,hb1⟩
 have HT1:=zb (za HT w1 hb1)
 have HL1:=zb hbs1
 have HB1:=zb hb1
 clear hb1 hbs1 HP HT
 go_wp2_with fail
 refine(za HT1).mono ?_
 rintro e w2 ⟨rfl,hb2⟩
 have hB2:=(za HB1).trans (hb2.mono (za HB1).size)
 have HL2:=zb ((za HL1).below hb2)
 have HBY2:=zb (za HBY w2 hB2)
 have HB2:=zb hB2
 clear hb2 hB2 HT1 HB1 HL1 HBY
 go_wp2_with fail
 refine(za HBY2).mono ?_
 rintro e w3 ⟨a3,c3,rfl,ho3,hb3⟩
 have hbs3:=za HOB w3 _ a3 c3 ho3
 have HPL3:=zb (za HPL w3 a1 a3 c1 c3 ((za HL2).below hb3) hbs3)
 have HS3:=zb hbs3
 have HB3:=zb ((za HB2).trans (hb3.mono (za HB2).size))
 clear ho3 hbs3 hb3 HBY2 HB2 HL2 HPL HOB
 go_wp2_with fail
 refine(za HPL3).mono ?_
 rintro e w4 ⟨rfl,hb4⟩
 have hB4:=(za HB3).trans (hb4.mono (za HB3).size)
 have HPUT5:=zb (za HPUT w4 hB4)
 clear hb4 hB4 HPL3 HB3 HS3 HPUT
 go_wp2_with fail
 refine(za HPUT5).mono ?_
 rintro e w5 ⟨rfl,g',c',hh,ht⟩
 have HH:=zb hh
 have HTN:=zb ht
 clear hh ht HPUT5
 go_wp2
 go_ret2
 exact⟨rfl,g',c',za HH,za HTN⟩
set_option maxHeartbeats 2000000 in
theorem zxM(h:Hp w B p g c L)(hB:B<=w.heap.size)(s:ByteArray)(x:Int)(hn:Qb s=true)(hs:s.size<=140737488351232)(hc:zO L x=0)(hp:plR L s=8)(hf:frR L<8) :
  Calls Tryz.prog 97 #[.pointer (some ⟨p,0,none⟩),.string s,.int .i64 x] w fun e w'=>e=.returned (.tuple #[.bool true,.nilIface])/\∃ g' c',Hp w' B p g' c' (seB L s x)/\Turn (foot p g) (foot p g') w w':=by
 have hn8:(zI s).length=8:=zH s (zS.1 hn).2.1
 have HP:Hid (Calls Tryz.prog 141 #[.string s] w fun e w'=>∃ a c,e=.returned (.tuple #[.slice a 8 c,.nilIface])/\Bs w' a c (zI s)/\Below w.heap.size w w'):=zb (by
  have:=Qm s w hs (zI s) 0 (.inl ⟨zS.1 hn,rfl,rfl⟩)
  rw [zf] at this
  exact this.mono fun e w' ⟨a,c,he,hb,hw⟩=>⟨a,c,by rw [he,hn8],hb,hw⟩)
 have HT:=zb (fun(W:World) (hW:Below w.heap.size w W)=>zbD p g c B L x W (h.below hW))
 rw [hc,zf] at HT
 have HBY:=zb (fun(W:World) (hW:Below w.heap.size w W)=>qu p g c B L W (h.below hW))
 have hlen:=h.len
 have hbyt:=h.byt
 have HPL:Hid (∀ (W:World) (la a':Option Addr) (lc c':Nat),Bs W la lc (zI s)->Bs W a' c' L->Calls Tryz.prog 144 #[.slice a' L.length c',.slice la 8 lc] W fun e w'=>e=.returned (.tuple #[.int .i64 0,.bool false])/\Below W.heap.size W w'):=zb (fun W la a' lc c' h1 h2=>by
  have:=Zo a' la c' lc L (zI s) W h2 h1 hn8 hlen.1 hlen.2.1
  rw [zdw hbyt hn,show pgI (plR L s)=0 from if_pos hp,decide_eq_false (show ¬ plR L s<8 by omega)] at this
  exact this)
 have HFN:Hid (∀ (W:World) (a':Option Addr) (c':Nat),Bs W a' c' L->Calls Tryz.prog 145 #[.slice a' L.length c'] W fun e w'=>e=.returned (.tuple #[.int .i64 (frR L),.nilIface])/\Below W.heap.size W w'):=zb (fun W a' c' hb=>by
  have:=zdN a' c' L W hb h.fine
  rw [show pgI (frR L)=(frR L:Int) from if_neg (by omega),if_neg (by omega),zf] at this
  exact this)
 have hI:seI L s=frR L:=by unfold seI;rw [if_neg (by omega)]
 have h0:seE L s x=0:=by unfold seE;rw [if_neg (by rw [hn];simp),if_neg (fun h=>h hc),hI,if_neg (by omega)]
 obtain⟨g1,g2,_,_⟩:=zes h.fine h0
 obtain⟨k1,k2⟩:=zwv h.fine h0
 have HPUT:Hid (∀ W,Below w.heap.size w W->Calls Tryz.prog 146 #[.pointer (some ⟨p,0,none⟩),.int .i64 (frR L),.agg #[.string s,.int .i64 x]] W fun e w'=>e=.returned .nilIface/\∃ g' c',Hp w' B p g' c' (seB L s x)/\Turn (foot p g) (foot p g') w w'):=zb (fun W hW=>by
  rw [hI] at g1 k1 k2
  have:=zfy (h.below hW) (Nat.le_trans hB hW.size) (frR L) (s,x) hs g1 k2
  rw [k1] at this
  refine this.mono ?_
  rintro e w' ⟨rfl,g',c',hh,ht⟩
  exact⟨rfl,g',c',hh,(Turn.of_below hW).trans ht⟩)
 clear g1 g2 k1 k2 h0 hI
 have HOB:Hid (∀ (W:World) (D:Nat) (a':Option Addr) (c':Nat),OwnV W D (.slice a' L.length c') L->Bs W a' c' L):=zb (fun W D a' c' ho=>by
  obtain⟨a2,c2,e2,hb2⟩:=ho.bs hbyt (by omega)
  simp only [Value.slice.injEq,true_and] at e2
  obtain⟨rfl,rfl⟩:=e2
  exact hb2)
 clear h hn hc hB hbyt hn8 hp hf
 generalize (zaQ L x).2.2.2=T at *
 generalize zI s=NL at *
 generalize seB L s x=SB at *
 generalize frR L=P at *
 generalize L.length=N at *
 go_enter Tryz.func97,Tryz.ntmps97
 go_wp2_with fail
 refine(za HP).mono ?_
 rintro e w1 ⟨a1,c1,rfl,hbs1,hb1⟩
 have HT1:=zb (za HT w1 hb1)
 have HL1:=zb hbs1
 have HB1:=zb hb1
 clear hb1 hbs1 HP HT
 go_wp2_with fail
 refine(za HT1).mono ?_
 rintro e w2 ⟨rfl,hb2⟩
 have hB2:=(za HB1).trans (hb2.mono (za HB1).size)
 have HL2:=zb ((za HL1).below hb2)
 have HBY2:=zb (za HBY w2 hB2)
 have HB2:=zb hB2
 clear hb2 hB2 HT1 HB1 HL1 HBY
 go_wp2_with fail
 refine(za HBY2).mono ?_
 rintro e w3 ⟨a3,c3,rfl,ho3,hb3⟩
 have hbs3:=za HOB w3 _ a3 c3 ho3
 have HPL3:=zb (za HPL w3 a1 a3 c1 c3 ((za HL2).below hb3) hbs3)
 have HS3:=zb hbs3
 have HB3:=zb ((za HB2).trans (hb3.mono (za HB2).size))
 clear ho3 hbs3 hb3 HBY2 HB2 HL2 HPL HOB
 go_wp2_with fail
 refine(za HPL3).mono ?_
 rintro e w4 ⟨rfl,hb4⟩
 have hB4:=(za HB3).trans (hb4.mono (za HB3).size)
 have HFN4:=zb (za HFN w4 a3 c3 ((za HS3).below hb4))
 have HB4:=zb hB4
 clear hb4 hB4 HPL3 HB3 HS3 HFN
 go_wp2_with fail
 refine(za HFN4).mono ?_
 rintro e w5 ⟨rfl,hb5⟩
 have HPUT6:=zb (za HPUT w5 ((za HB4).trans (hb5.mono (za HB4).size)))
 clear hb5 HFN4 HB4 HPUT
 go_wp2_with fail
 refine(za HPUT6).mono ?_
 rintro e w6 ⟨rfl,g',c',hh,ht⟩
 have HH:=zb hh
 have HTN:=zb ht
 clear hh ht HPUT6
 go_wp2
 go_ret2
 exact⟨rfl,g',c',za HH,za HTN⟩
set_option maxHeartbeats 2000000 in
theorem zuc(h:Hp w B p g c L)(hB:B<=w.heap.size)(s:ByteArray)(x:Int)(hn:Qb s=true)(hs:s.size<=140737488351232)(hc:zO L x=0)(hp:plR L s=8)(hf:frR L=8) :
  Calls Tryz.prog 97 #[.pointer (some ⟨p,0,none⟩),.string s,.int .i64 x] w fun e w'=>e=.returned (.tuple #[.bool false,zK 4])/\Below w.heap.size w w':=by
 have hn8:(zI s).length=8:=zH s (zS.1 hn).2.1
 have HP:Hid (Calls Tryz.prog 141 #[.string s] w fun e w'=>∃ a c,e=.returned (.tuple #[.slice a 8 c,.nilIface])/\Bs w' a c (zI s)/\Below w.heap.size w w'):=zb (by
  have:=Qm s w hs (zI s) 0 (.inl ⟨zS.1 hn,rfl,rfl⟩)
  rw [zf] at this
  exact this.mono fun e w' ⟨a,c,he,hb,hw⟩=>⟨a,c,by rw [he,hn8],hb,hw⟩)
 have HT:=zb (fun(W:World) (hW:Below w.heap.size w W)=>zbD p g c B L x W (h.below hW))
 rw [hc,zf] at HT
 have HBY:=zb (fun(W:World) (hW:Below w.heap.size w W)=>qu p g c B L W (h.below hW))
 have hlen:=h.len
 have hbyt:=h.byt
 have HPL:Hid (∀ (W:World) (la a':Option Addr) (lc c':Nat),Bs W la lc (zI s)->Bs W a' c' L->Calls Tryz.prog 144 #[.slice a' L.length c',.slice la 8 lc] W fun e w'=>e=.returned (.tuple #[.int .i64 0,.bool false])/\Below W.heap.size W w'):=zb (fun W la a' lc c' h1 h2=>by
  have:=Zo a' la c' lc L (zI s) W h2 h1 hn8 hlen.1 hlen.2.1
  rw [zdw hbyt hn,show pgI (plR L s)=0 from if_pos hp,decide_eq_false (show ¬ plR L s<8 by omega)] at this
  exact this)
 have HFN:Hid (∀ (W:World) (a':Option Addr) (c':Nat),Bs W a' c' L->Calls Tryz.prog 145 #[.slice a' L.length c'] W fun e w'=>e=.returned (.tuple #[.int .i64 0,.iface 107 (.int .i64 4)])/\Below W.heap.size W w'):=zb (fun W a' c' hb=>by
  have:=zdN a' c' L W hb h.fine
  rw [show pgI (frR L)=0 from if_pos hf,if_pos hf,zh 4 (by decide)] at this
  exact this)
 rw [zh 4 (by decide)]
 have HOB:Hid (∀ (W:World) (D:Nat) (a':Option Addr) (c':Nat),OwnV W D (.slice a' L.length c') L->Bs W a' c' L):=zb (fun W D a' c' ho=>by
  obtain⟨a2,c2,e2,hb2⟩:=ho.bs hbyt (by omega)
  simp only [Value.slice.injEq,true_and] at e2
  obtain⟨rfl,rfl⟩:=e2
  exact hb2)
 clear h hn hc hB hbyt hn8 hp hf
 generalize (zaQ L x).2.2.2=T at *
 generalize zI s=NL at *
 generalize L.length=N at *
 go_enter Tryz.func97,Tryz.ntmps97
 go_wp2_with fail
 refine(za HP).mono ?_
 rintro e w1 ⟨a1,c1,rfl,hbs1,hb1⟩
 have HT1:=zb (za HT w1 hb1)
 have HL1:=zb hbs1
 have HB1:=zb hb1
 clear hb1 hbs1 HP HT
 go_wp2_with fail
 refine(za HT1).mono ?_
 rintro e w2 ⟨rfl,hb2⟩
 have hB2:=(za HB1).trans (hb2.mono (za HB1).size)
 have HL2:=zb ((za HL1).below hb2)
 have HBY2:=zb (za HBY w2 hB2)
 have HB2:=zb hB2
 clear hb2 hB2 HT1 HB1 HL1 HBY
 go_wp2_with fail
 refine(za HBY2).mono ?_
 rintro e w3 ⟨a3,c3,rfl,ho3,hb3⟩
 have hbs3:=za HOB w3 _ a3 c3 ho3
 have HPL3:=zb (za HPL w3 a1 a3 c1 c3 ((za HL2).below hb3) hbs3)
 have HS3:=zb hbs3
 have HB3:=zb ((za HB2).trans (hb3.mono (za HB2).size))
 clear ho3 hbs3 hb3 HBY2 HB2 HL2 HPL HOB
 go_wp2_with fail
 refine(za HPL3).mono ?_
 rintro e w4 ⟨rfl,hb4⟩
 have hB4:=(za HB3).trans (hb4.mono (za HB3).size)
 have HFN4:=zb (za HFN w4 a3 c3 ((za HS3).below hb4))
 have HB4:=zb hB4
 clear hb4 hB4 HPL3 HB3 HS3 HFN
 go_wp2_with fail
 refine(za HFN4).mono ?_
 rintro e w5 ⟨rfl,hb5⟩
 have HB5:=zb ((za HB4).trans (hb5.mono (za HB4).size))
 clear hb5 HFN4 HB4
 go_wp2
 go_ret2
 exact⟨rfl,za HB5⟩
theorem zqS(h:Hp w B p g c L)(hB:B<=w.heap.size)(s:ByteArray)(x:Int)(hs:s.size<=140737488351232) :
  Calls Tryz.prog 97 #[.pointer (some ⟨p,0,none⟩),.string s,.int .i64 x] w fun e w'=>e=.returned (.tuple #[.bool (seO L s x),zK (seE L s x)])/\∃ g' c',Hp w' B p g' c' (seF L s x)/\Turn (foot p g) (foot p g') w w':=by
 have key:∀ E:Int,E≠0->seE L s x=E->Calls Tryz.prog 97 #[.pointer (some ⟨p,0,none⟩),.string s,.int .i64 x] w (fun e w'=>e=.returned (.tuple #[.bool false,zK E])/\Below w.heap.size w w')->Calls Tryz.prog 97 #[.pointer (some ⟨p,0,none⟩),.string s,.int .i64 x] w fun e w'=>e=.returned (.tuple #[.bool (seO L s x),zK (seE L s x)])/\∃ g' c',Hp w' B p g' c' (seF L s x)/\Turn (foot p g) (foot p g') w w':=fun E hE he hcall=>by
  have e1:seO L s x=false:=by unfold seO;rw [he,decide_eq_false hE];rfl
  have e2:seF L s x=L:=by unfold seF;rw [he,if_neg hE]
  rw [e1,e2,he]
  refine hcall.mono ?_
  rintro e w' ⟨rfl,hb⟩
  exact⟨rfl,g,c,h.below hb,Turn.of_below hb⟩
 cases hn:Qb s with
 | false=>exact key 2 (by decide) (by unfold seE;rw [hn];rfl) (zub p s x w hn hs)
 | true =>
  by_cases hc:zO L x=0
  ·have hle:=zfD L s
   have hlf:=zsx L
   by_cases hp:plR L s<8
   ·have hI:seI L s=plR L s:=by unfold seI;rw [if_pos hp]
    have h0:seE L s x=0:=by unfold seE;rw [if_neg (by rw [hn];simp),if_neg (fun h=>h hc),hI,if_neg (by omega)]
    have e1:seO L s x=false:=by unfold seO seN;rw [decide_eq_false (show ¬ plR L s=8 by omega),Bool.and_false]
    have e2:seF L s x=seB L s x:=by unfold seF;rw [if_pos h0]
    rw [e1,e2,h0,zf]
    exact zqB h hB s x hn hs hc hp
   ·have hp8:plR L s=8:=by omega
    have hI:seI L s=frR L:=by unfold seI;rw [if_neg hp]
    by_cases hf:frR L<8
    ·have h0:seE L s x=0:=by unfold seE;rw [if_neg (by rw [hn];simp),if_neg (fun h=>h hc),hI,if_neg (by omega)]
     have e1:seO L s x=true:=by unfold seO seN;rw [decide_eq_true hp8,decide_eq_true h0];rfl
     have e2:seF L s x=seB L s x:=by unfold seF;rw [if_pos h0]
     rw [e1,e2,h0,zf]
     exact zxM h hB s x hn hs hc hp8 hf
    ·have hf8:frR L=8:=by omega
     exact key 4 (by decide) (by unfold seE;rw [if_neg (by rw [hn];simp),if_neg (fun h=>h hc),hI,if_pos hf8]) (zuc h hB s x hn hs hc hp8 hf8)
  ·exact key _ hc (by unfold seE;rw [if_neg (by rw [hn];simp),if_pos hc]) (zxL h s x hn hs hc)
end
section
variable {w:World} {B p g c:Nat} {L:List Int}
theorem zn3(p:Nat)(s:ByteArray)(w:World)(hn:Qb s=false)(hs:s.size<=140737488351232) :
  Calls Tryz.prog 98 #[.pointer (some ⟨p,0,none⟩),.string s] w fun e w'=>e=.returned (zK 2)/\Below w.heap.size w w':=by
 have HP:=zb (ZG s w hs (fun h=>by rw [zS.2 h] at hn;cases hn))
 rw [zh 2 (by decide)]
 clear hn
 go_enter Tryz.func98,Tryz.ntmps98
 go_wp2_with fail
 refine(za HP).mono ?_
 rintro e w1 ⟨rfl,hb1⟩
 have HB1:=zb hb1
 clear hb1 HP
 go_wp2
 go_ret
 exact⟨rfl,za HB1⟩
set_option maxHeartbeats 2000000 in
theorem ztO(h:Hp w B p g c L)(hB:B<=w.heap.size)(s:ByteArray)(hn:Qb s=true)(hs:s.size<=140737488351232)(hp:plR L s=8) :
  Calls Tryz.prog 98 #[.pointer (some ⟨p,0,none⟩),.string s] w fun e w'=>e=.returned (zK 5)/\Below w.heap.size w w':=by
 have hn8:(zI s).length=8:=zH s (zS.1 hn).2.1
 have HP:Hid (Calls Tryz.prog 141 #[.string s] w fun e w'=>∃ a c,e=.returned (.tuple #[.slice a 8 c,.nilIface])/\Bs w' a c (zI s)/\Below w.heap.size w w'):=zb (by
  have:=Qm s w hs (zI s) 0 (.inl ⟨zS.1 hn,rfl,rfl⟩)
  rw [zf] at this
  exact this.mono fun e w' ⟨a,c,he,hb,hw⟩=>⟨a,c,by rw [he,hn8],hb,hw⟩)
 have HBY:=zb (fun(W:World) (hW:Below w.heap.size w W)=>qu p g c B L W (h.below hW))
 have hlen:=h.len
 have hbyt:=h.byt
 have HPL:Hid (∀ (W:World) (la a':Option Addr) (lc c':Nat),Bs W la lc (zI s)->Bs W a' c' L->Calls Tryz.prog 144 #[.slice a' L.length c',.slice la 8 lc] W fun e w'=>e=.returned (.tuple #[.int .i64 0,.bool false])/\Below W.heap.size W w'):=zb (fun W la a' lc c' h1 h2=>by
  have:=Zo a' la c' lc L (zI s) W h2 h1 hn8 hlen.1 hlen.2.1
  rw [zdw hbyt hn,show pgI (plR L s)=0 from if_pos hp,decide_eq_false (show ¬ plR L s<8 by omega)] at this
  exact this)
 rw [zh 5 (by decide)]
 have HOB:Hid (∀ (W:World) (D:Nat) (a':Option Addr) (c':Nat),OwnV W D (.slice a' L.length c') L->Bs W a' c' L):=zb (fun W D a' c' ho=>by
  obtain⟨a2,c2,e2,hb2⟩:=ho.bs hbyt (by omega)
  simp only [Value.slice.injEq,true_and] at e2
  obtain⟨rfl,rfl⟩:=e2
  exact hb2)
 clear h hn hB hbyt hn8 hp
 generalize zI s=NL at *
 generalize L.length=N at *
 go_enter Tryz.func98,Tryz.ntmps98
 go_wp2_with fail
 refine(za HP).mono ?_
 rintro e w1 ⟨a1,c1,rfl,hbs1,hb1⟩
 have HBY2:=zb (za HBY w1 hb1)
 have HL2:=zb hbs1
 have HB2:=zb hb1
 clear hb1 hbs1 HP HBY
 go_wp2_with fail
 refine(za HBY2).mono ?_
 rintro e w3 ⟨a3,c3,rfl,ho3,hb3⟩
 have hbs3:=za HOB w3 _ a3 c3 ho3
 have HPL3:=zb (za HPL w3 a1 a3 c1 c3 ((za HL2).below hb3) hbs3)
 have HB3:=zb ((za HB2).trans (hb3.mono (za HB2).size))
 clear ho3 hbs3 hb3 HBY2 HB2 HL2 HPL HOB
 go_wp2_with fail
 refine(za HPL3).mono ?_
 rintro e w4 ⟨rfl,hb4⟩
 have hB4:=(za HB3).trans (hb4.mono (za HB3).size)
 have HB4:=zb hB4
 clear hb4 hB4 HPL3 HB3
 go_wp2
 go_ret
 exact⟨rfl,za HB4⟩
set_option maxHeartbeats 2000000 in
theorem zpY(h:Hp w B p g c L)(hB:B<=w.heap.size)(s:ByteArray)(hn:Qb s=true)(hs:s.size<=140737488351232)(hp:plR L s<8) :
  Calls Tryz.prog 98 #[.pointer (some ⟨p,0,none⟩),.string s] w fun e w'=>e=.returned .nilIface/\∃ g' c',Hp w' B p g' c' (unB L s)/\Turn (foot p g) (foot p g') w w':=by
 have hn8:(zI s).length=8:=zH s (zS.1 hn).2.1
 have HP:Hid (Calls Tryz.prog 141 #[.string s] w fun e w'=>∃ a c,e=.returned (.tuple #[.slice a 8 c,.nilIface])/\Bs w' a c (zI s)/\Below w.heap.size w w'):=zb (by
  have:=Qm s w hs (zI s) 0 (.inl ⟨zS.1 hn,rfl,rfl⟩)
  rw [zf] at this
  exact this.mono fun e w' ⟨a,c,he,hb,hw⟩=>⟨a,c,by rw [he,hn8],hb,hw⟩)
 have HBY:=zb (fun(W:World) (hW:Below w.heap.size w W)=>qu p g c B L W (h.below hW))
 have hlen:=h.len
 have hbyt:=h.byt
 have HPL:Hid (∀ (W:World) (la a':Option Addr) (lc c':Nat),Bs W la lc (zI s)->Bs W a' c' L->Calls Tryz.prog 144 #[.slice a' L.length c',.slice la 8 lc] W fun e w'=>e=.returned (.tuple #[.int .i64 (plR L s),.bool true])/\Below W.heap.size W w'):=zb (fun W la a' lc c' h1 h2=>by
  have:=Zo a' la c' lc L (zI s) W h2 h1 hn8 hlen.1 hlen.2.1
  rw [zdw hbyt hn,show pgI (plR L s)=(plR L s:Int) from if_neg (by omega),decide_eq_true hp] at this
  exact this)
 have h0:unE L s=0:=by unfold unE;rw [if_neg (by rw [hn];simp),if_neg (by omega)]
 have hfu:=zhz h.fine h0
 obtain⟨g1,g2⟩:=zz2 h.fine hp
 have HPUT:Hid (∀ W,Below w.heap.size w W->Calls Tryz.prog 146 #[.pointer (some ⟨p,0,none⟩),.int .i64 (plR L s),.agg #[.string { data:=#[]},.int .i64 0]] W fun e w'=>e=.returned .nilIface/\∃ g' c',Hp w' B p g' c' (unB L s)/\Turn (foot p g) (foot p g') w w'):=zb (fun W hW=>by
  have:=zfy (h.below hW) (Nat.le_trans hB hW.size) (plR L s) (({ data:=#[]}:ByteArray),0) (by decide) g1 (by rw [g2];exact hfu)
  rw [g2] at this
  refine this.mono ?_
  rintro e w' ⟨rfl,g',c',hh,ht⟩
  exact⟨rfl,g',c',hh,(Turn.of_below hW).trans ht⟩)
 clear g1 g2 h0 hfu
 have HOB:Hid (∀ (W:World) (D:Nat) (a':Option Addr) (c':Nat),OwnV W D (.slice a' L.length c') L->Bs W a' c' L):=zb (fun W D a' c' ho=>by
  obtain⟨a2,c2,e2,hb2⟩:=ho.bs hbyt (by omega)
  simp only [Value.slice.injEq,true_and] at e2
  obtain⟨rfl,rfl⟩:=e2
  exact hb2)
 clear h hn hB hbyt hn8 hp
 generalize zI s=NL at *
 generalize unB L s=SB at *
 generalize plR L s=P at *
 generalize L.length=N at *
 go_enter Tryz.func98,Tryz.ntmps98
 go_wp2_with fail
 refine(za HP).mono ?_
 rintro e w1 ⟨a1,c1,rfl,hbs1,hb1⟩
 have HBY2:=zb (za HBY w1 hb1)
 have HL2:=zb hbs1
 have HB2:=zb hb1
 clear hb1 hbs1 HP HBY
 go_wp2_with fail
 refine(za HBY2).mono ?_
 rintro e w3 ⟨a3,c3,rfl,ho3,hb3⟩
 have hbs3:=za HOB w3 _ a3 c3 ho3
 have HPL3:=zb (za HPL w3 a1 a3 c1 c3 ((za HL2).below hb3) hbs3)
 have HB3:=zb ((za HB2).trans (hb3.mono (za HB2).size))
 clear ho3 hbs3 hb3 HBY2 HB2 HL2 HPL HOB
 go_wp2_with fail
 refine(za HPL3).mono ?_
 rintro e w4 ⟨rfl,hb4⟩
 have hB4:=(za HB3).trans (hb4.mono (za HB3).size)
 have HPUT5:=zb (za HPUT w4 hB4)
 clear hb4 hB4 HPL3 HB3 HPUT
 go_wp2_with fail
 refine(za HPUT5).mono ?_
 rintro e w5 ⟨rfl,g',c',hh,ht⟩
 have HH:=zb hh
 have HTN:=zb ht
 clear hh ht HPUT5
 go_wp2
 go_ret
 exact⟨rfl,g',c',za HH,za HTN⟩
theorem zlf(h:Hp w B p g c L)(hB:B<=w.heap.size)(s:ByteArray)(hs:s.size<=140737488351232) :
  Calls Tryz.prog 98 #[.pointer (some ⟨p,0,none⟩),.string s] w fun e w'=>e=.returned (zK (unE L s))/\∃ g' c',Hp w' B p g' c' (unF L s)/\Turn (foot p g) (foot p g') w w':=by
 have key:∀ E:Int,E≠0->unE L s=E->Calls Tryz.prog 98 #[.pointer (some ⟨p,0,none⟩),.string s] w (fun e w'=>e=.returned (zK E)/\Below w.heap.size w w')->Calls Tryz.prog 98 #[.pointer (some ⟨p,0,none⟩),.string s] w fun e w'=>e=.returned (zK (unE L s))/\∃ g' c',Hp w' B p g' c' (unF L s)/\Turn (foot p g) (foot p g') w w':=fun E hE he hcall=>by
  have e2:unF L s=L:=by unfold unF;rw [he,if_neg hE]
  rw [e2,he]
  refine hcall.mono ?_
  rintro e w' ⟨rfl,hb⟩
  exact⟨rfl,g,c,h.below hb,Turn.of_below hb⟩
 cases hn:Qb s with
 | false=>exact key 2 (by decide) (by unfold unE;rw [hn];rfl) (zn3 p s w hn hs)
 | true =>
  have hle:=zfD L s
  by_cases hp:plR L s<8
  ·have h0:unE L s=0:=by unfold unE;rw [if_neg (by rw [hn];simp),if_neg (by omega)]
   have e2:unF L s=unB L s:=by unfold unF;rw [if_pos h0]
   rw [e2,h0,zf]
   exact zpY h hB s hn hs hp
  ·have hp8:plR L s=8:=by omega
   exact key 5 (by decide) (by unfold unE;rw [if_neg (by rw [hn];simp),if_pos hp8]) (ztO h hB s hn hs hp8)
end
end Go.Proofs.YtchmlnmhbfaclaaGreatDoor
