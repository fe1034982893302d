/-
  Parts of the proofs, joined by program.
-/
import Derived.Test.YtchmlnmhbfaclaaGreatDoorJHq
import Derived.Test.YtchmlnmhbfaclaaGreatDoorJWy
import Derived.Test.YtchmlnmhbfaclaaGreatDoorJRt
import Derived.Deep.QuietTactic
import Derived.RangeFuncNested
import Derived.RangeFuncBound
import Derived.RangeFuncCalls
import Derived.RangeFuncLeaves
import Derived.RangeFuncBox
import Derived.Shelf.Abstract
import Derived.Shelf.RegionOpen
import Derived.WalkKit
import Derived.OwnWalkIn
import Derived.TacticsInMore
import Derived.LoopNIn
import Derived.LoopIn
import Derived.Maps.AppendAt
import Derived.Test.YtchmlnmhbfaclaaGreatDoorJVws
import Derived.Test.YtchmlnmhbfaclaaGreatDoorJTn
import Derived.Maps.OwnSet
import Derived.Test.YtchmlnmhbfaclaaGreatDoorJAs
import Derived.Shelf.SlicesG.Reverse
import Derived.Shelf.SlGeneric
import Derived.Ground.SlgnProg
namespace Go.Proofs.YtchmlnmhbfaclaaGreatDoor
open Go.RowKit
set_option linter.unusedVariables false
set_option maxRecDepth 100000 in
theorem zso(p g c B:Nat)(L:List Int)(h:Int)(w:World)(hh:Hp w B p g c L) :
  Calls Tryz.prog 331 #[.pointer (some ⟨p,0,none⟩),.int .i64 h] w fun e w'=>e=.returned (.tuple #[.int .i64 (zaQ L h).2.2.1,zK (zO L h)])/\Below w.heap.size w w':=by
 have HG:=zb (fun W (hW:Below w.heap.size w W)=>znu (some ⟨g,0,none⟩) c L h W (hh.bs.below hW))
 have hc:=hh.cell
 have hl:=hh.len
 clear hh
 generalize zaQ L h=E at *
 generalize zO L h=X at *
 generalize L.length=N at *
 obtain⟨e1,e2,e3,e4⟩:=E
 unfold zgF at HG
 dsimp only at HG ⊢
 go_enter Tryz.func331,Tryz.ntmps331
 go_wp2_with fail
 refine(za HG w (Below.refl _ _)).mono ?_
 rintro e w1 ⟨rfl,hb1⟩
 have HB:=zb hb1
 clear hb1 HG hc
 go_wp2
 go_ret2
 exact⟨rfl,(za HB).alloc (za HB).size _⟩
set_option maxRecDepth 100000 in
theorem zex(p g c B:Nat)(L:List Int)(h:Int)(w:World)(hh:Hp w B p g c L) :
  Calls Tryz.prog 210 #[.pointer (some ⟨p,0,none⟩),.int .i64 h] w fun e w'=>e=.returned (.bool (decide (zO L h=0)))/\Below w.heap.size w w':=by
 have HT:=zb (zbD p g c B L h w hh)
 clear hh
 generalize (zaQ L h).2.2.2=t at *
 by_cases hc:zO L h=0
 ·rw [decide_eq_true hc]
  rw [hc,zf] at HT
  clear hc
  go_enter Tryz.func210,Tryz.ntmps210
  go_wp2_with fail
  refine(za HT).mono ?_
  rintro e w1 ⟨rfl,hb1⟩
  have HB:=zb hb1
  clear hb1 HT
  go_wp2
  go_ret
  exact⟨rfl,za HB⟩
 ·rw [decide_eq_false hc]
  rw [zh _ hc] at HT
  clear hc
  generalize zO L h=X at *
  go_enter Tryz.func210,Tryz.ntmps210
  go_wp2_with fail
  refine(za HT).mono ?_
  rintro e w1 ⟨rfl,hb1⟩
  have HB:=zb hb1
  clear hb1 HT
  go_wp2
  go_ret
  exact⟨rfl,za HB⟩
theorem OwnV.bsAt{w:World}{B:Nat}{a:Option Addr}{c:Nat}{l:List Int}(h:OwnV w B (.slice a l.length c) l)(hb:Byt l)(hl:l.length<=140737488351232):Bs w a c l:=by
 obtain⟨a2,c2,e2,hb2⟩:=h.bs hb hl
 simp only [Value.slice.injEq,true_and] at e2
 obtain⟨rfl,rfl⟩:=e2
 exact hb2
def nmL(L:List Int)(h:Int):List Int:=if zO L h=0 then (zP L h).2.take (zP L h).1.toNat else []
theorem zlz(L:List Int)(h:Int)(hf:Fine L):(nmL L h).length<=15:=by
 unfold nmL
 by_cases hc:zO L h=0
 ·rw [if_pos hc,List.length_take]
  obtain⟨q1,q2,q3⟩:=zq.1 hc
  have q4:=zm.1 q2
  have:=hf.ent q4.1 q4.2 q3
  unfold zP zhY
  rw [if_neg q3]
  dsimp only
  omega
 ·rw [if_neg hc];simp
set_option maxRecDepth 100000 in
set_option maxHeartbeats 1000000 in
set_option maxRecDepth 100000 in
theorem zlC(p g c B:Nat)(L:List Int)(h:Int)(w:World)(hh:Hp w B p g c L) :
  Calls Tryz.prog 302 #[.pointer (some ⟨p,0,none⟩),.int .i64 h] w fun e w'=>∃ a' c',e=.returned (.tuple #[.slice a' (nmL L h).length c',zK (zO L h)])/\Bs w' a' c' (nmL L h)/\Below w.heap.size w w':=by
 have HT:=zb (zbD p g c B L h w hh)
 by_cases hc:zO L h=0
 ·obtain⟨q1,q2,q3⟩:=zq.1 hc
  have q4:=zm.1 q2
  have hen:=hh.fine.ent q4.1 q4.2 q3
  have hge:zaQ L h=ze L h:=by unfold zaQ;rw [if_pos hc]
  have HS:=zb (fun(W:World) (hW:Below w.heap.size w W)=>zso p g c B L h W (hh.below hW))
  rw [hge,hc,zf] at HT HS
  have ho:zP L h=((ze L h).2.2.2,(L.drop (ze L h).2.1.toNat).take (ze L h).2.2.1.toNat):=by
   unfold zP zhY zbx
   rw [if_neg q3]
  have hn:nmL L h=(L.drop ((ze L h).2.1.toNat+0)).take (min (ze L h).2.2.2 (ze L h).2.2.1).toNat:=by
   unfold nmL
   rw [if_pos hc,ho]
   dsimp only
   rw [List.take_take,Nat.add_zero]
   congr 1
   omega
  have hmin:((min (ze L h).2.2.2 (ze L h).2.2.1).toNat:Int)=min (ze L h).2.2.2 (ze L h).2.2.1:=by omega
  have HR:=zb (fun(W:World) (hW:Below w.heap.size w W)=>zkb p g c B L h 0 (min (ze L h).2.2.2 (ze L h).2.2.1).toNat W (hh.below hW) hc (by omega))
  rw [<- hn,hmin] at HR
  have hnl:(nmL L h).length=(min (ze L h).2.2.2 (ze L h).2.2.1).toNat:=by
   rw [hn,List.length_take,List.length_drop]
   omega
  rw [<- hnl] at HR
  have HBY:Hid (Byt (nmL L h)):=zb (by rw [hn];exact hh.byt.sub _ _)
  have hl15:=zlz L h hh.fine
  rw [hc,zf]
  clear hh hc q1 q2 q3 q4 hge ho hn hmin hnl
  generalize nmL L h=NM at *
  generalize ze L h=E at *
  obtain⟨e1,e2,e3,e4⟩:=E
  dsimp only at HT HS HR hen ⊢
  obtain⟨n1,n2,n3,n4,n5,n6⟩:=hen
  by_cases hm:e4<=e3
  ·rw [show min e4 e3=e4 by omega] at HR
   go_enter Tryz.func302,Tryz.ntmps302
   go_wp2_with fail
   refine(za HT).mono ?_
   rintro e w1 ⟨rfl,hb1⟩
   have HS1:=zb (za HS w1 hb1)
   have HB1:=zb hb1
   clear hb1 HT HS
   go_wp2_with fail
   refine(za HS1).mono ?_
   rintro e w2 ⟨rfl,hb2⟩
   have hB2:=(za HB1).trans (hb2.mono (za HB1).size)
   have HR2:=zb (za HR w2 hB2)
   have HB2:=zb hB2
   clear hb2 hB2 HS1 HB1 HR
   go_wp2_with fail
   try rw [show min e4 e3=e4 by omega]
   refine(za HR2).mono ?_
   rintro e w3 ⟨a',c',rfl,ho,hb3⟩
   have HB3:=zb ((za HB2).trans (hb3.mono (za HB2).size))
   have HO:=zb (ho.bsAt (za HBY) (by omega))
   clear ho hb3 HR2 HB2
   go_wp2
   go_ret2
   exact⟨a',c',rfl,za HO,za HB3⟩
  ·rw [show min e4 e3=e3 by omega] at HR
   go_enter Tryz.func302,Tryz.ntmps302
   go_wp2_with fail
   refine(za HT).mono ?_
   rintro e w1 ⟨rfl,hb1⟩
   have HS1:=zb (za HS w1 hb1)
   have HB1:=zb hb1
   clear hb1 HT HS
   go_wp2_with fail
   refine(za HS1).mono ?_
   rintro e w2 ⟨rfl,hb2⟩
   have hB2:=(za HB1).trans (hb2.mono (za HB1).size)
   have HR2:=zb (za HR w2 hB2)
   have HB2:=zb hB2
   clear hb2 hB2 HS1 HB1 HR
   go_wp2_with fail
   try rw [show min e4 e3=e3 by omega]
   refine(za HR2).mono ?_
   rintro e w3 ⟨a',c',rfl,ho,hb3⟩
   have HB3:=zb ((za HB2).trans (hb3.mono (za HB2).size))
   have HO:=zb (ho.bsAt (za HBY) (by omega))
   clear ho hb3 HR2 HB2
   go_wp2
   go_ret2
   exact⟨a',c',rfl,za HO,za HB3⟩
 ·have hn:nmL L h=[]:=by unfold nmL;rw [if_neg hc]
  rw [hn]
  rw [zh _ hc] at HT ⊢
  clear hh hc hn
  generalize (zaQ L h).2.2.2=t at *
  generalize zO L h=X at *
  go_enter Tryz.func302,Tryz.ntmps302
  go_wp2_with fail
  refine(za HT).mono ?_
  rintro e w1 ⟨rfl,hb1⟩
  have HB:=zb hb1
  clear hb1 HT
  go_wp2
  go_ret2
  exact⟨none,0,rfl,zbe _,za HB⟩
set_option maxRecDepth 100000 in
theorem zlS(a:Option Addr)(cap:Nat)(l:List Int)(x:Int)(w:World)(hs:Sls inC 1 w a cap l) :
  Calls Tryz.prog 332 #[.slice a l.length cap,.int .i64 x] w fun e w'=>∃ i:Int,e=.returned (.int .i64 i)/\(decide (0<=i)=l.any (fun y=>y == x))/\w=w':=by
 have hl:=hs.2.2.1
 have HS:=zb hs
 clear hs
 go_enter Tryz.func332,Tryz.ntmps332
 go_wp2_with fail
 go_loop [8] (fun iv=>∃ k:Nat,k<=l.length/\iv=.int .i64 k/\(l.take k).any (fun y=>y == x)=false) (fun iv=>l.length-(intOf iv).toNat)
 case atStart=>exact⟨0,Nat.zero_le _,rfl,rfl⟩
 case round =>
  obtain⟨k,hk,rfl,hall⟩:=hrel
  by_cases hlt:k<l.length
  ·have hne:l≠[]:=by intro e;rw [e] at hlt;simp at hlt
   obtain⟨b1,o1,rfl,hc1⟩:=(za HS).2.2.2 hne
   obtain⟨y,hy⟩:∃ y,l[k]?=some y:=⟨l[k],List.getElem?_eq_getElem hlt⟩
   have q0:=Sls.num (cap:=0) hc1 hy
   have htk:l.take (k+1)=l.take k++[y]:=by rw [List.take_add_one,hy];rfl
   have hmem:=List.mem_of_getElem? hy
   clear hc1 hy hne
   by_cases e:x=y
   ·subst e
    have hnew:l.any (fun y=>y == x)=true:=List.any_eq_true.2 ⟨_,hmem,by simp⟩
    have HN:=zb hnew
    clear hnew htk hall hmem
    go_wp2
    go_ret
    exact⟨k,rfl,by rw [za HN];exact decide_eq_true (by omega),rfl⟩
   ·have hnew:(l.take (k+1)).any (fun y=>y == x)=false:=by
     rw [htk,List.any_append,hall]
     simp
     exact fun h=>e h.symm
    have HN:=zb hnew
    have eb:(x == y)=false:=beq_eq_false_iff_ne.2 e
    clear hnew htk hall hmem e
    go_wp2
    go_round
    case rel=>exact⟨k+1,by omega,by go_num,za HN⟩
    case measure=>simp [intOf];omega
  ·obtain rfl:k=l.length:=by omega
   rw [List.take_length] at hall
   have HN:=zb hall
   clear hall HS
   go_wp2
   go_ret
   exact⟨-1,rfl,by rw [za HN];rfl,rfl⟩
set_option maxRecDepth 100000 in
theorem zsd(a:Option Addr)(cap:Nat)(l:List Int)(x:Int)(w:World)(hs:Sls inC 1 w a cap l) :
  Calls Tryz.prog 303 #[.slice a l.length cap,.int .i64 x] w fun e w'=>e=.returned (.bool (l.any (fun y=>y == x)))/\w=w':=by
 have HI:=zb (zlS a cap l x w hs)
 have hl:=hs.2.2.1
 clear hs
 generalize l.any (fun y=>y == x)=r at *
 generalize l.length=N at *
 go_enter Tryz.func303,Tryz.ntmps303
 go_wp2_with fail
 refine(za HI).mono ?_
 rintro e w1 ⟨i,rfl,hi,hw⟩
 subst hw
 have HH:=zb hi
 clear hi HI
 go_wp2
 go_ret
 exact⟨by rw [<- za HH];rfl,rfl⟩
def rfL(L:List Int)(h:Int):List Int:=if zO L h=0 then QY L h else []
theorem zmT(L l:List Int):zgx L l l.length=l.foldl (qB L) []:=by unfold zgx;rw [List.take_length]
theorem zmR(L:List Int)(h:Int):rfL L h=(nmL L h).foldl (qB L) []:=by
 unfold rfL nmL
 by_cases hc:zO L h=0
 ·rw [if_pos hc,if_pos hc];rfl
 ·rw [if_neg hc,if_neg hc];rfl
set_option maxRecDepth 100000 in
set_option maxHeartbeats 4000000 in
set_option maxRecDepth 100000 in
theorem zow(p g c B:Nat)(L:List Int)(h:Int)(w:World)(hh:Hp w B p g c L) :
  Calls Tryz.prog 262 #[.pointer (some ⟨p,0,none⟩),.int .i64 h] w fun e w'=>∃ v,e=.returned (.tuple #[v,zK (zO L h)])/\Lst inC 1 3 w' w.heap.size v (rfL L h)/\Below w.heap.size w w':=by
 obtain⟨i0,hi0,hz0,hz1,hz2⟩:=info_parts zaG
 have HN:=zb (zlC p g c B L h w hh)
 by_cases hc:zO L h=0
 ·have HIS:=zb (fun(x:Int) (W:World) (hW:Below w.heap.size w W)=>zex p g c B L x W (hh.below hW))
  have HCO:=zb (fun(a:Option Addr) (cap:Nat) (l:List Int) (x:Int) (W:World) (hs:Sls inC 1 W a cap l)=>zsd a cap l x W hs)
  have hnl:=zlz L h hh.fine
  have HRF:=zb (zmR L h)
  rw [hc,zf] at HN ⊢
  clear hh hc
  generalize rfL L h=RF at *
  generalize nmL L h=l at *
  have HRK:=zb (zmT L l)
  have HRL:=zb (fun k=>zmU L l k)
  have HRS:=zb (fun(k:Nat) (hk:k<l.length)=>zjA (L:=L) hk)
  go_enter Tryz.func262,Tryz.ntmps262
  go_wp2_with fail
  refine(za HN).mono ?_
  rintro e w1 ⟨a1,c1,rfl,hbs1,hb1⟩
  have hbl:=hbs1.2.2.1
  have HBS:=zb hbs1
  have HB1:=zb hb1
  clear hbs1 hb1 HN
  go_wp2_with fail
  go_loopw [8,10,11,23] (fun v _ _ iv wr=>∃ k:Nat,k<=l.length/\iv=.int .i64 k/\Lst inC 1 3 wr w1.heap.size v (zgx L l k)/\Below w1.heap.size w1 wr) (fun _ _ _ iv _=>l.length-(intOf iv).toNat)
  case atStart=>exact⟨0,Nat.zero_le _,rfl,Lst.nil _ _,Below.refl _ _⟩
  case round =>
   obtain⟨k,hk,rfl,hown,hbel⟩:=hrel
   obtain⟨va,vm,vc,rfl⟩:=hown.shape
   by_cases hlt:k<l.length
   ·have hne:l≠[]:=by intro e;rw [e] at hlt;simp at hlt
    obtain⟨b3,o3,rfl,hc3⟩:=((za HBS).below hbel).2.2.2.2 hne
    have q0:=hc3 k hlt
    have hXb:=(za HBS).1.getD k
    have HT:=zb (za HRS k hlt)
    generalize l.getD k 0=X at *
    have HIX:=zb (za HIS X wr ((za HB1).trans (hbel.mono (za HB1).size)))
    have hrl:=za HRL k
    have HOWN:=zb hown
    have HBEL:=zb hbel
    clear hown hbel hc3 hne
    by_cases hc:zO L X=0
    ·rw [decide_eq_true hc] at HIX
     have HT2:Hid (zgx L l (k+1)=if (zgx L l k).any (fun y=>y == X)=true then zgx L l k else zgx L l k++[X]):=zb (by rw [za HT];unfold qB;rw [if_neg (fun h=>h hc)])
     clear hc HT
     generalize hacc:zgx L l k=acc at *
     have HACC:=zb hacc
     clear hacc
     go_wp2_with fail
     refine(za HIX).mono ?_
     rintro e w2 ⟨rfl,hb2⟩
     have hown2:=(za HOWN).below hb2
     obtain⟨va2,vc2,ev,hsl2⟩:=hown2.sls zaN (by omega)
     simp only [Value.slice.injEq] at ev
     obtain⟨rfl,rfl,rfl⟩:=ev
     have HC2:=zb (za HCO va vc acc X w2 hsl2)
     have HO2:=zb hown2
     have HB2:=zb ((za HBEL).trans (hb2.mono (za HBEL).size))
     have hcap2:=hsl2.2.2.1
     clear hown2 hsl2 hb2 HIX HOWN HBEL
     cases hd:acc.any (fun y=>y == X) with
     | true =>
      rw [hd] at HT2 HC2
      rw [if_pos rfl] at HT2
      clear hd
      go_wp2_with fail
      refine(za HC2).mono ?_
      rintro e w3 ⟨rfl,hw3⟩
      subst hw3
      go_wp2
      go_roundw
      case rel=>exact⟨k+1,by omega,by go_num,by rw [za HT2];exact za HO2,za HB2⟩
      case measure=>simp [intOf];omega
     | false =>
      rw [hd] at HT2 HC2
      rw [if_neg (by simp)] at HT2
      clear hd
      have HO3:=zb ((za HO2).below ((Below.refl _ w2).alloc (Nat.le_refl _) (.cells #[.int .i64 X] 3)))
      have HB3:=zb ((za HB2).alloc (za HB2).size (.cells #[.int .i64 X] 3))
      have HGN:Hid ((w2.alloc (.cells #[.int .i64 X] 3)).heap[w2.heap.size]?=some (.cells (inC X).toArray 3 (0,0))):=zb (heap_alloc_new w2 _)
      have hsz2:=(za HB2).size
      clear HO2 HB2
      go_wp2_with fail
      refine(za HC2).mono ?_
      rintro e w3 ⟨rfl,hw3⟩
      subst hw3
      clear HC2
      go_wp2_with (at_builtin;refine zr rfl _ _ 90 rfl w1.heap.size i0 (.int .i64 0) 8 Tryz.underlying90 hi0 hz0 hz1 hz2 rfl (by decide) (by decide) _ _ rfl (za HO3) w2.heap.size X rfl (za HGN) rfl (zeg _) (by omega) (by simp;omega) ?_)
      intro v9 w9 hown9 hb9
      rw [<- za HT2] at hown9
      have HO9:=zb hown9
      have HB9:=zb ((za HB3).trans hb9)
      obtain⟨a9,m9,c9,rfl⟩:=hown9.shape
      clear hown9 hb9 HO3 HB3 HGN
      go_wp2
      go_roundw
      case rel=>exact⟨k+1,by omega,by go_num,za HO9,za HB9⟩
      case measure=>simp [intOf];omega
    ·rw [decide_eq_false hc] at HIX
     have HT2:Hid (zgx L l (k+1)=zgx L l k):=zb (by rw [za HT];unfold qB;rw [if_pos hc])
     clear hc HT
     go_wp2_with fail
     refine(za HIX).mono ?_
     rintro e w2 ⟨rfl,hb2⟩
     have HO2:=zb ((za HOWN).below hb2)
     have HB2:=zb ((za HBEL).trans (hb2.mono (za HBEL).size))
     clear hb2 HIX HOWN HBEL
     go_wp2
     go_roundw
     case rel=>exact⟨k+1,by omega,by go_num,by rw [za HT2];exact za HO2,za HB2⟩
     case measure=>simp [intOf];omega
   ·obtain rfl:k=l.length:=by omega
    have HOWN:=zb hown
    have HBEL:=zb ((za HB1).trans (hbel.mono (za HB1).size))
    have HSZ:=zb (za HB1).size
    clear hown hbel
    go_wp2
    go_ret2
    exact⟨_,rfl,by rw [za HRF,<- za HRK];exact(za HOWN).lowA (za HSZ),za HBEL⟩
 ·have hr:rfL L h=[]:=by unfold rfL;rw [if_neg hc]
  have hn:nmL L h=[]:=by unfold nmL;rw [if_neg hc]
  rw [hr]
  rw [hn] at HN
  rw [zh _ hc] at HN ⊢
  clear hh hc hr hn
  generalize zO L h=X at *
  go_enter Tryz.func262,Tryz.ntmps262
  go_wp2_with fail
  refine(za HN).mono ?_
  rintro e w1 ⟨a1,c1,rfl,hbs1,hb1⟩
  have HB:=zb hb1
  clear hbs1 hb1 HN
  go_wp2
  go_ret2
  exact⟨_,rfl,Lst.nil _ _,za HB⟩
end Go.Proofs.YtchmlnmhbfaclaaGreatDoor
namespace Go.Proofs.YtchmlnmhbfaclaaGreatDoor
open Go.RowKit Go.Sort Go.Shelf
set_option linter.unusedVariables false
theorem ze3(l:List Int):l.flatMap inC=l.map (Value.int .i64):=by
 induction l with
 | nil=>rfl
 | cons x l ih=>rw [List.flatMap_cons,ih];rfl
theorem zgL{l:List Int}{k:Nat}{x:Int}(h:l[k]?=some x):l.take (k+1)=l.take k++[x]:=by
 rw [List.take_add_one,h]
 rfl
set_option maxRecDepth 100000 in
set_option maxHeartbeats 1000000 in
theorem znZ(n:Nat)(hn:1<=n)(l g n0 b off cap:Nat)(zs:List Int)(hm:zs.length<=100000)(hb:b<n0)(J Jx:List Int->World->Prop)
  (hY:∀ pre x W,J pre W->pre.length<zs.length->YieldAt Fence.wide (n-1) Tryz.prog l #[.int .i64 x] W fun e W' =>
   (e=.returned (.bool true)/\J (pre++[x]) W'/\Below n0 W W')\/(e=.returned (.bool false)/\Jx (pre++[x]) W'))
  (W:World) (hg:W.cell? ⟨g,0,none⟩=some (.slice (some ⟨b,off,none⟩) zs.length cap)) (hc:∀ j x,zs[j]?=some x->W.cell? ⟨b,off+j,none⟩=some (.int .i64 x)) (h0:J [] W) :
  CallsIn Fence.wide n Tryz.prog 330 #[.func (.yield l) #[] #[],.pointer (some ⟨g,0,none⟩)] W fun e W'=>(∃ v,e=.returned v) /\
   ((∃ ys,ys=zs/\J ys W')\/(∃ pre,True/\Jx pre W')):=by
 have HY:=zb hY
 have HC:=zb hc
 clear hY hc
 refine callsIn_of_wp Tryz.func330 rfl trivial ?_ rfl
 simp only [Tryz.ntmps330,List.size_toArray,List.length_cons,List.length_nil,Nat.reduceAdd,Nat.reduceSub,Array.replicate_succ,Array.replicate_zero,List.push_toArray,List.append_toArray,List.nil_append,List.cons_append]
 gi_wp2
 gi_loopw [7] (fun iv wr=>∃ k:Nat,k<=zs.length/\iv=.int .i64 k/\J (zs.take k) wr/\Below n0 W wr) (fun iv _=>zs.length-(intOf iv).toNat)
 case atStart=>exact⟨0,Nat.zero_le _,rfl,h0,Below.refl _ _⟩
 case round =>
  obtain⟨k,hk,rfl,hJ,hkp⟩:=hrel
  by_cases hlt:k<zs.length
  ·obtain⟨x,hx⟩:∃ x,zs[k]?=some x:=⟨zs[k],List.getElem?_eq_getElem hlt⟩
   obtain⟨fn,tmps,assign,body,hy,hR⟩:=za HY (zs.take k) x wr hJ (by rw [List.length_take];omega)
   have hcx:wr.cell? ⟨b,off+k,none⟩=some (.int .i64 x):=(hkp.cell (p:=⟨b,off+k,none⟩) hb).trans (za HC k x hx)
   have HSN:=zb (zgL hx)
   clear hx
   have HR:=zb hR
   have HKP:=zb hkp
   clear hR hkp hJ
   gi_wp2
   refine(za HR).mono ?_
   rintro e W3 (⟨rfl,hJ3,hk3⟩ | ⟨rfl,hJx3⟩)
   ·have HJ3:=zb hJ3
    have HK3:=zb ((za HKP).trans hk3)
    clear hJ3 hk3
    gi_wp2
    go_roundw
    case rel=>exact⟨k+1,by omega,by simp,by rw [za HSN];exact za HJ3,za HK3⟩
    case measure=>simp [intOf];omega
   ·have HJ3:=zb hJx3
    clear hJx3
    gi_wp2
    refine bodyPost_ret (results_none rfl _ _ _) rfl ?_
    exact⟨⟨_,rfl⟩,.inr ⟨_,trivial,za HJ3⟩⟩
  ·obtain rfl:k=zs.length:=by omega
   rw [List.take_length] at hJ
   gi_wp2
   go_end0
   exact⟨⟨_,rfl⟩,.inl ⟨_,rfl,hJ⟩⟩
set_option maxRecDepth 100000 in
set_option maxHeartbeats 1000000 in
theorem zi3(n:Nat)(l g cap:Nat)(al:Option Addr)(Jy:World->Prop)(W:World)(hg:W.cell? ⟨g,0,none⟩=some (.slice al 0 cap))(h0:Jy W) :
  CallsIn Fence.wide n Tryz.prog 330 #[.func (.yield l) #[] #[],.pointer (some ⟨g,0,none⟩)] W fun e W'=>(∃ v,e=.returned v)/\Jy W':=by
 refine callsIn_of_wp Tryz.func330 rfl trivial ?_ rfl
 simp only [Tryz.ntmps330,List.size_toArray,List.length_cons,List.length_nil,Nat.reduceAdd,Nat.reduceSub,Array.replicate_succ,Array.replicate_zero,List.push_toArray,List.append_toArray,List.nil_append,List.cons_append]
 gi_wp2
 gi_loopw [7] (fun iv wr=>iv=.int .i64 0/\Jy wr) (fun _ _=>0)
 case atStart=>exact⟨rfl,h0⟩
 case round =>
  obtain⟨rfl,hJ⟩:=hrel
  gi_wp2
  go_end0
  exact⟨⟨_,rfl⟩,hJ⟩
theorem values_in(n:Nat)(a:Option Addr)(m cap:Nat)(w:World) :
  CallsIn Fence.wide n Tryz.prog 301 #[.slice a m cap] w fun e w'=>e=.returned (.func (.func 330) #[] #[.pointer (some ⟨w.heap.size,0,none⟩)])/\w'=w.alloc (.cells #[.slice a m cap] 90):=by
 refine callsIn_of_wp Tryz.func301 rfl trivial ?_ rfl
 simp only [Tryz.ntmps301,List.size_toArray,List.length_cons,List.length_nil,Nat.reduceAdd,Nat.reduceSub,Array.replicate_succ,Array.replicate_zero,List.push_toArray,List.append_toArray,List.nil_append,List.cons_append]
 gi_wp2
 go_ret
 exact⟨rfl,rfl⟩
theorem values_stops(n:Nat)(hn:1<=n)(g n0 cap:Nat)(al:Option Addr)(zs:List Int)(hm:zs.length<=100000)(w0 w:World)(hs:Sls inC 1 w0 al cap zs)(hn0:w0.heap.size=n0)(hw:Below n0 w0 w)(hg:w.cell? ⟨g,0,none⟩=some (.slice al zs.length cap)) :
  SeqStopsK Fence.wide n Tryz.prog 330 #[.pointer (some ⟨g,0,none⟩)] (fun x:Int=>#[Value.int .i64 x]) (Below n0) (fun ys=>ys=zs) (fun _=>True) zs.length w:=fun l J Jx W hW _ _ hY h0=>by
 have hgW:W.cell? ⟨g,0,none⟩=some (.slice al zs.length cap):=(hW.cell (p:=⟨g,0,none⟩) (block_lt_of_cell hg)).trans hg
 by_cases hne:zs=[]
 ·subst hne
  refine(zi3 n l g cap al (J []) W hgW h0).mono ?_
  rintro e W' ⟨he,hj⟩
  exact⟨he,.inl ⟨_,rfl,hj⟩⟩
 ·obtain⟨b,off,rfl,hc⟩:=hs.2.2.2 hne
  have hpos:0<zs.length:=List.length_pos_iff.2 hne
  have hb:b<n0:=by
   have:=hc 0 zs[0] (List.getElem?_eq_getElem hpos) 0 _ rfl
   rw [<- hn0]
   exact block_lt_of_cell this
  refine znZ n hn l g n0 b off cap zs hm hb J Jx hY W hgW (fun j x hj=>?_) h0
  have q:=Sls.num (cap:=cap) hc hj
  exact((hw.trans (hW.mono (by rw [<- hn0];exact(hn0 ▸ hw).size))).cell (p:=⟨b,off+j,none⟩) hb).trans q
set_option maxRecDepth 100000 in
set_option maxHeartbeats 2000000 in
theorem ztp(a:Option Addr)(cap:Nat)(zs:List Int)(hm:zs.length<=100000)(g:Nat)(w:World)(hs:Sls inC 1 w a cap zs)(hg:w.cell? ⟨g,0,none⟩=some (.slice a zs.length cap)) :
  Calls Tryz.prog 340 #[.slice none 0 0,.func (.func 330) #[] #[.pointer (some ⟨g,0,none⟩)]] w fun e w'=>∃ v,e=.returned v/\Lst inC 1 3 w' w.heap.size v zs/\Below w.heap.size w w':=by
 obtain⟨i0,hi,hz0,hz1,hz2⟩:=info_parts zaG
 refine(callsIn_wide (n:=5)).1 ?_
 refine callsIn_of_wp_marks Tryz.func340 rfl trivial ?_ rfl
 simp only [Tryz.ntmps340,List.size_toArray,List.length_cons,List.length_nil,Nat.reduceAdd,Nat.reduceSub,Array.replicate_succ,Array.replicate_zero,List.push_toArray,List.append_toArray,List.nil_append,List.cons_append]
 have hgl:=block_lt_of_cell hg
 gi_wp2
 have bO:=Boxed.new w 90 (.slice none 0 0)
 have hB0:Below w.heap.size w (w.alloc (.cells #[.slice none 0 0] 90)):=(Below.refl _ w).alloc (Nat.le_refl _) _
 refine wpIn_rangeFunc_ownG rfl (by omega) (gf:=330) (lb:=#[.pointer (some ⟨g,0,none⟩)]) rfl trivial (enters_of Tryz.func330 (by kernel_rfl) rfl)
  (values_stops 4 (by omega) g w.heap.size cap a zs hm w _ hs rfl hB0 ((hB0.cell (p:=⟨g,0,none⟩) hgl).trans hg)) belowK_t (belowK_b (by simp)) (Below.refl _ _) (fun _=>rfl)
  (fun pre W=>(∃ v,Boxed W w.heap.size 90 v/\W.ownsRow w.heap.size 3 1 v pre.length (pre.map (Value.int .i64))/\True)/\Below w.heap.size w W)
  (fun _ _ _=>False)
  (OwnFrom.and (Own.from (holdsRow_own w.heap.size w.heap.size 90 3 1 (fun pre:List Int=>pre.length) (fun pre=>pre.map (Value.int .i64)) (fun pre v=>True)) _) (ownFrom_below (Nat.le_refl _) (by simp)))
  (fun _ _ _ _ _ hs _ _=>hs)
  ⟨⟨_,bO,World.ownsRow_nil _ _ _ _,trivial⟩,hB0⟩
  (fun x=>{ tmps:=#[.slice none 0 0,.func (.func 330) #[] #[.pointer (some ⟨g,0,none⟩)],.pointer (some ⟨w.heap.size,0,none⟩),undef,.slice none 0 0,.int .i64 x,.func (.func 330) #[] #[.pointer (some ⟨g,0,none⟩)],.int .i64 x,undef,undef,undef,undef,undef],defers:=[]}) ?assign ?body ?done ?stop
 case assign =>
  intro l x W K hK
  gi_wp2_with (rw [Oper.semAt_eq _ _ _ (fun c h=>by cases h)];go_simp;try go_bits)
  exact hK
 case body =>
  rintro l pre x W ⟨⟨v,hv,hrow,hnil⟩,hB⟩ hlt
  have hc:=hv.cell
  gi_wp2_with (first
   | (gi_at_builtin;refine wpListIn_append_own _ rfl _ _ 90 rfl w.heap.size 3 i0 (.int .i64 0) 1 8 Tryz.underlying90 hi hz0 hz1 hz2 rfl (by decide) _ _ _ rfl (hrow.alloc _) ⟨W.heap.size,0,none⟩ 1 1 [.int .i64 x] rfl rfl (cell_one_new _ _ _) (by simp [Value.oneCell']) (by unfold maxLen;omega) (by omega) (by have:=hB.size;simp;omega) ?_;intro v' w1 hown' hgrow _;obtain⟨g',cap',rfl⟩:=ownsRow_succ hown';obtain⟨hv1,hv2,hr2,hk2,hb2⟩:=hv.appended (by decide) hrow hB.size (Nat.le_refl _) hown' hgrow;have hc1:=hv1.cell;have hf1:=hv1.frozen)
   | (rw [Oper.semAt_eq _ _ _ (fun c h=>by cases h)];go_simp;try go_bits))
  exact⟨hk2.from _,hb2,⟨_,hv2,by rw [List.length_append,List.map_append];simpa using hr2,trivial⟩,hB.trans hb2⟩
 case done =>
  rintro D ys W hD rfl ⟨⟨v,hv,hrow,hnil⟩,hB⟩ hK
  have hc:=hv.cell
  gi_wp2
  refine⟨by simp,.inl ⟨_,_,rfl,run_takeDeferred hK,?_⟩⟩
  refine⟨_,results_tmp rfl _ _ _,v,rfl,?_,hB.trans (belowK_b (w:=w) (Nat.le_refl _) W D _ _ (by simp at hD;omega) hK rfl rfl)⟩
  unfold Lst
  rw [ze3]
  exact ownsRow_putObj hrow _ hK rfl
 case stop =>
  rintro D c pre W _ _ h _
  exact h.elim
theorem zmh(a:Option Addr)(cap:Nat)(zs:List Int)(hm:zs.length<=100000)(g:Nat)(w:World)(hs:Sls inC 1 w a cap zs)(hg:w.cell? ⟨g,0,none⟩=some (.slice a zs.length cap)) :
  Calls Tryz.prog 324 #[.func (.func 330) #[] #[.pointer (some ⟨g,0,none⟩)]] w fun e w'=>∃ v,e=.returned v/\Lst inC 1 3 w' w.heap.size v zs/\Below w.heap.size w w':=by
 have HA:=zb (ztp a cap zs hm g w hs hg)
 clear hs hg
 go_enter Tryz.func324,Tryz.ntmps324
 go_wp2_with fail
 refine(za HA).mono ?_
 rintro e w1 ⟨v,rfl,hl,hb⟩
 obtain⟨va,vm,vc,rfl⟩:=hl.shape
 have HL:=zb hl
 have HB:=zb hb
 clear hl hb HA
 go_wp2
 go_ret
 exact⟨_,rfl,za HL,za HB⟩
theorem zk4(v:Value)(B:Nat)(l:List Int)(w:World)(h:Lst inC 1 3 w B v l)(hl:l.length<=100000) :
  Calls Tryz.prog 325 #[v] w fun e w'=>e=.returned (.tuple #[])/\Lst inC 1 3 w' B v (srt l)/\Turn (fun k=>v.ownBlock=some k) (fun k=>v.ownBlock=some k) w w':=by
 have hf:=h
 unfold Lst at hf ⊢
 rw [ze3] at hf
 rcases hf.2 with ⟨rfl,hz⟩ | ⟨gb,c,cur,rfl,hbase,hgb,r1,r2,r3,r4⟩
 ·obtain rfl:=List.eq_nil_of_length_eq_zero hz
  refine(AnyM.slices_Sort_int_none zt8 none 0 w).mono ?_
  rintro e w' ⟨rfl,rfl⟩
  exact⟨rfl,by rw [show srt []=[] by unfold srt;simp];exact h,Turn.refl _ _⟩
 ·have hH:Holds encZ w gb 0 l.toArray:=holds_of_block_i hgb (by simpa using r4)
  have hgl:gb<w.heap.size:=(Array.getElem?_eq_some_iff.1 hgb).1
  refine(AnyM.slices_Sort_int zt8 gb 0 c l w hH hgl (by omega)).mono ?_
  rintro e w' ⟨rfl,nn,os,rfl⟩
  refine⟨rfl,?_,Turn.grown (grownBy_sorted_i _) (fun k hk=>by simpa [Value.ownBlock] using hk)⟩
  rw [ze3,zk0]
  exact ownsRow_sorted_i (by simp) hbase hgb r1 r2 r3
theorem zk3(a:Option Addr)(cap:Nat)(zs:List Int)(hm:zs.length<=100000)(g:Nat)(w:World)(hs:Sls inC 1 w a cap zs)(hg:w.cell? ⟨g,0,none⟩=some (.slice a zs.length cap)) :
  Calls Tryz.prog 293 #[.func (.func 330) #[] #[.pointer (some ⟨g,0,none⟩)]] w fun e w'=>∃ v,e=.returned v/\Lst inC 1 3 w' w.heap.size v (srt zs)/\Below w.heap.size w w':=by
 have HC:=zb (zmh a cap zs hm g w hs hg)
 have HS:=zb (fun(v:Value) (W:World) (h:Lst inC 1 3 W w.heap.size v zs)=>zk4 v w.heap.size zs W h hm)
 clear hs hg
 go_enter Tryz.func293,Tryz.ntmps293
 go_wp2_with fail
 refine(za HC).mono ?_
 rintro e w1 ⟨v,rfl,hl,hb⟩
 have hS1:=za HS v w1 hl
 have HBL:=zb (fun k (hk:v.ownBlock=some k)=>hl.block k hk)
 obtain⟨va,vm,vc,rfl⟩:=hl.shape
 have HS1:=zb hS1
 have HB:=zb hb
 clear hl hb HC hS1 HS
 go_wp2_with fail
 refine(za HS1).mono ?_
 rintro e w2 ⟨rfl,hl2,ht2⟩
 have HL:=zb hl2
 have HB2:=zb ((za HB).trans (ht2.below (za HBL) (za HB).size))
 clear hl2 ht2 HS1
 go_wp2
 go_ret
 exact⟨_,rfl,za HL,za HB2⟩
end Go.Proofs.YtchmlnmhbfaclaaGreatDoor
namespace Go.Proofs.YtchmlnmhbfaclaaGreatDoor
open Go.RowKit Go.MapKept Go.ChangeMaps Go.Sort Go.Shelf
open Go.Maps (Keyed)
set_option linter.unusedVariables false
def LdI(w:World)(gm:Nat)(P:List (List Int)):Prop :=
 ∃ D:DataW Unit,w.ownsMap Tryz.prog 3 (plainElem Tryz.prog 3) gm P.length D/\(∀ z:Int,Maps.has D (.int .i64 z)=zjR P z)/\(P.map hd).Nodup/\∀ p∈P,∀ zd,D.atKey (.int .i64 (hd p)) zd=.lit (.int .i64 (ld p))
theorem ziW(w:World):(zeroValue 3).run Tryz.prog w=.ok (.int .i64 0) w:=by
 obtain⟨i0,hi0,hz0,hz1,hz2⟩:=info_parts zaG
 simp [zeroValue,typeInfo,hi0,hz0]
section
variable {w w':World} {gm:Nat} {P:List (List Int)}
theorem LdI.made(w:World):LdI (w.alloc (.map #[] 0)) w.heap.size []:=⟨.map [],World.ownsMap_made w _ _ _,fun z=>rfl,by simp,fun p hp=>by cases hp⟩
theorem LdI.lt(h:LdI w gm P):gm<w.heap.size:=by
 obtain⟨D,h1,_⟩:=h
 exact h1.lt
theorem LdI.same(h:LdI w gm P)(hs:w'.heap[gm]?=w.heap[gm]?):LdI w' gm P:=by
 obtain⟨D,⟨es,clock,hb,r⟩,h2⟩:=h
 exact⟨D,⟨es,clock,hs.trans hb,r⟩,h2⟩
theorem LdI.below(h:LdI w gm P)(hb:Below w.heap.size w w'):LdI w' gm P:=h.same (hb.block gm h.lt)
theorem LdI.isMap(h:LdI w gm P):∃ es clock,w.heap[gm]?=some (.map es clock):=by
 obtain⟨D,⟨es,clock,hb,_⟩,_⟩:=h
 exact⟨es,clock,hb⟩
theorem LdI.apart(h:LdI w gm P){a:Option Addr}{c:Nat}{l:List Int}(hs:Sls inC 1 w a c l):∀ b off,a=some ⟨b,off,none⟩->l≠[]->b≠gm:=by
 rintro b off rfl hne rfl
 obtain⟨es,clock,hm⟩:=h.isMap
 obtain⟨b',off',e,hc⟩:=hs.2.2.2 hne
 simp only [Option.some.injEq,Addr.mk.injEq,and_true] at e
 obtain⟨rfl,rfl⟩:=e
 cases l with
 | nil=>exact hne rfl
 | cons x r =>
  have q:=hc 0 x rfl 0 _ rfl
  unfold World.cell? at q
  rw [hm] at q
  simp at q
theorem LdI.look(h:LdI w gm P){z:Int}(hz:-9223372036854775808<=z/\z<=9223372036854775807) :
  ∃ v,(Instr.lookup 303 (.map (some gm)) (.int .i64 z) true).run Tryz.prog w=.ok (.tuple #[.int .i64 v,.bool (zjR P z)]) w:=by
 obtain⟨D,h1,h2,_⟩:=h
 have hkey:=Maps.keyOf_int_mk (P:=Tryz.prog) Tryz.underlying3 (WalkArith.wf_i64 hz)
 obtain⟨v,ps,hrun,hv⟩:=h1.look_ok (Maps.int_keyed Tryz.underlying3) Tryz.underlying303 (ziW w) (plainElem_int Tryz.underlying3 (a:=0) (by decide)) hkey
 obtain⟨a,rfl,_⟩:=plainElem_int_inv Tryz.underlying3 hv
 exact⟨a,by rw [hrun,h2 z]⟩
theorem LdI.store(h:LdI w gm P)(hn:P.length<=1000){q:List Int}{x:Int}(hx:-9223372036854775808<=x/\x<=9223372036854775807)(hq:-9223372036854775808<=hd q/\hd q<=9223372036854775807)(hnew:zjR P x=false) :
  ∃ w',(Instr.mapUpdate 303 (.map (some gm)) (.int .i64 x) (.int .i64 (hd q))).run Tryz.prog w=.ok () w'/\LdI w' gm (P++[q++[x]])/\w.mapTurned w' gm:=by
 obtain⟨D,h1,h2,h3,h4⟩:=h
 have hK:=Maps.int_keyed (P:=Tryz.prog) Tryz.underlying3
 have hkey:=Maps.keyOf_int_mk (P:=Tryz.prog) Tryz.underlying3 (WalkArith.wf_i64 hx)
 obtain⟨w',hrun,hown',ht⟩:=h1.store hK Tryz.underlying303 (by unfold maxLen;omega) hkey (plainElem_int Tryz.underlying3 (a:=hd q) (WalkArith.wf_i64 hq))
 have hlit:WideAt.IsKeyLit (.int .i64 x):=hK.key hkey
 have hne:∀ z,z≠x->Lit.int .i64 z≠Lit.int .i64 x:=fun z hz e=>by simp only [Lit.int.injEq,true_and] at e;exact hz e
 refine⟨w',hrun,⟨_,by rw [List.length_append];exact hown',fun z=>?_,?_,fun p hp zd=>?_⟩,ht⟩
 ·rw [zrG,zbC]
  by_cases e:z=x
  ·subst e
   rw [Maps.has_put_same h1.isMap hlit]
   simp
  ·rw [Maps.has_put_other (hne z e),h2 z,beq_eq_false_iff_ne.2 (fun h=>e h.symm),Bool.or_false]
 ·rw [List.map_append,List.nodup_append]
  refine⟨h3,by simp,fun u hu v hv=>?_⟩
  obtain⟨p,hp,rfl⟩:=List.mem_map.1 hu
  simp [zbC] at hv
  rw [hv]
  exact zlF hnew p hp
 ·rcases List.mem_append.1 hp with hp | hp
  ·have:=zlF hnew p hp
   rw [Maps.atKey_put_other (hne _ this)]
   exact h4 p hp zd
  ·rw [List.mem_singleton.1 hp,zbC,zyG]
   exact Maps.atKey_put_same h1.isMap hlit _ _
end
end Go.Proofs.YtchmlnmhbfaclaaGreatDoor
namespace Go.Proofs.YtchmlnmhbfaclaaGreatDoor
open Go.RowKit Go.MapKept Go.ChangeMaps
set_option linter.unusedVariables false
set_option maxRecDepth 100000 in
set_option maxHeartbeats 1000000 in
set_option maxRecDepth 100000 in
theorem zom(p g c B:Nat)(L:List Int)(w:World)(hh:Hp w B p g c L) :
  Calls Tryz.prog 261 #[.pointer (some ⟨p,0,none⟩)] w fun e w'=>∃ v,e=.returned v/\Lst inC 1 3 w' w.heap.size v (rtH L)/\Below w.heap.size w w':=by
 obtain⟨i0,hi0,hz0,hz1,hz2⟩:=info_parts zaG
 have HA:=zb (zjv p g c B L w hh)
 have HR:Hid (rtH L=(zk L 8).map (·.2)):=zb rfl
 have hrl:=za3 L 8
 clear hh
 generalize rtH L=RH at *
 generalize zk L 8=R at *
 go_enter Tryz.func261,Tryz.ntmps261
 go_wp2_with fail
 refine(za HA).mono ?_
 rintro e w1 ⟨v1,rfl,hl1,hb1⟩
 obtain⟨a1,c1,rfl,hsl1⟩:=hl1.sls zhL (by omega)
 have HS1:=zb hsl1
 have HB1:=zb hb1
 have hcl:=hsl1.2.2.1
 clear hl1 hsl1 hb1 HA
 go_wp2_with fail
 go_loopw [3,5,9] (fun v _ iv wr=>∃ k:Nat,k<=R.length/\iv=.int .i64 (k:Int)/\Lst inC 1 3 wr w1.heap.size v ((R.take k).map (·.2))/\Below w1.heap.size w1 wr) (fun _ _ iv _=>R.length-(intOf iv).toNat)
 case atStart=>exact⟨0,Nat.zero_le _,rfl,Lst.nil _ _,Below.refl _ _⟩
 case round =>
  obtain⟨k,hk,rfl,hown,hbel⟩:=hrel
  obtain⟨va,vm,vc,rfl⟩:=hown.shape
  by_cases hlt:k<R.length
  ·obtain⟨b1,o1,rfl,hc1⟩:=((za HS1).below hbel).2.2.2 (by intro e;rw [e] at hlt;simp at hlt)
   obtain⟨r,hr⟩:∃ r,R[k]?=some r:=⟨R[k],List.getElem?_eq_getElem hlt⟩
   obtain⟨q0,q1⟩:=Sls.root (cap:=0) hc1 hr
   have htk:(R.take (k+1)).map (·.2)=(R.take k).map (·.2)++[r.2]:=by rw [List.take_add_one,hr];simp
   have HTK:=zb htk
   have hml:((R.take k).map (·.2)).length<=8:=by rw [List.length_map,List.length_take];omega
   obtain⟨s,x⟩:=r
   dsimp only at *
   generalize (R.take k).map (·.2)=acc at *
   have hb2:Below wr.heap.size wr ((wr.alloc (.cells #[.string s,.int .i64 x] 136)).alloc (.cells #[.int .i64 x] 3)):=((Below.refl _ _).alloc (Nat.le_refl _) _).alloc (by simp) _
   have HO3:=zb (hown.below hb2)
   have HB3:=zb (hbel.trans (hb2.mono hbel.size))
   have HGN:Hid (((wr.alloc (.cells #[.string s,.int .i64 x] 136)).alloc (.cells #[.int .i64 x] 3)).heap[(wr.alloc (.cells #[.string s,.int .i64 x] 136)).heap.size]?=some (.cells (inC x).toArray 3 (0,0))):=zb (heap_alloc_new _ _)
   rw [qF] at HGN
   have hsz2:=hbel.size
   have g1:=block_lt_of_cell q0
   clear hc1 hr htk hown hbel hb2
   go_wp2_with (at_builtin;refine zr rfl _ _ 90 rfl w1.heap.size i0 (.int .i64 0) 8 Tryz.underlying90 hi0 hz0 hz1 hz2 rfl (by decide) (by decide) _ _ rfl (za HO3) (wr.heap.size+1) x rfl (za HGN) rfl (zeg _) (by omega) (by simp;omega) ?_)
   intro v9 w9 hown9 hb9
   rw [<- za HTK] at hown9
   have HO9:=zb hown9
   have HB9:=zb ((za HB3).trans hb9)
   obtain⟨a9,m9,c9,rfl⟩:=hown9.shape
   clear hown9 hb9 HO3 HB3 HGN
   go_wp2
   go_roundw
   case rel=>exact⟨k+1,by omega,by go_num,za HO9,za HB9⟩
   case measure=>simp [intOf];omega
  ·have hkq:k=R.length:=by omega
   rw [hkq,List.take_length] at hown
   have HO:=zb hown
   have HB2:=zb ((za HB1).trans (hbel.mono (za HB1).size))
   have HSZ:=zb (za HB1).size
   have hge:¬ ((k:Int)<(R.length:Int)):=by omega
   clear hkq hlt hk hown hbel
   go_wp2
   go_ret
   exact⟨_,rfl,by rw [za HR];exact(za HO).lowA (za HSZ),za HB2⟩
theorem Lst.mapT{α:Type}{enc:α->List Value}{k T:Nat}{w w':World}{B m:Nat}{v:Value}{l:List α}(h:Lst enc k T w B v l)(ht:w.mapTurned w' m)(hm:m<B):Lst enc k T w' B v l:=by
 refine⟨h.1,?_⟩
 rcases h.2 with h0 | ⟨g,cap,cur,rfl,hB,hc,h3⟩
 ·exact .inl h0
 ·exact .inr ⟨g,cap,cur,rfl,hB,(ht.grown.block g (Array.getElem?_eq_some_iff.1 hc).1 (fun e=>by cases e;omega)).trans hc,h3⟩
theorem Lst.turnM{α:Type}{enc:α->List Value}{k T:Nat}{w w':World}{B gm:Nat}{v:Value}{l:List α}{P:List (List Int)}(h:Lst enc k T w B v l)(hM:LdI w gm P)(ht:Turn (fun k=>k=gm) (fun k=>k=gm) w w'):Lst enc k T w' B v l:=by
 refine⟨h.1,?_⟩
 rcases h.2 with h0 | ⟨g,cap,cur,rfl,hB,hc,h3⟩
 ·exact .inl h0
 ·refine .inr ⟨g,cap,cur,rfl,hB,(ht.block g (Array.getElem?_eq_some_iff.1 hc).1 (fun e=>?_)).trans hc,h3⟩
  obtain⟨es,clock,hm⟩:=hM.isMap
  rw [<- e,hc] at hm
  cases hm
theorem Turn.onB{S:Nat->Prop}{a b c:World}(h:Turn S S a b)(k:Below a.heap.size b c):Turn S S a c :=
 ⟨k.os.trans h.os,k.tape.trans h.tape,k.output.trans h.output,Nat.le_trans h.size k.size,fun i hi hn=>(k.block i hi).trans (h.block i hi hn),fun _ _ hs=>hs⟩
set_option maxRecDepth 100000 in
set_option maxHeartbeats 2000000 in
set_option maxRecDepth 100000 in
theorem zvd(gm:Nat)(q:List Int)(P:List (List Int))(a:Option Addr)(cap:Nat)(l:List Int)(w:World)(hM:LdI w gm P)(hs:Sls inC 1 w a cap l)(hl:l.length<=40)(hdg:Dg l)(hq:0<=hd q/\hd q<=40)(hP:P.length<=100) :
  Calls Tryz.prog 260 #[.map (some gm),.int .i64 (hd q),.slice a l.length cap] w fun e w'=>∃ v,e=.returned v/\Lst inC 1 3 w' w.heap.size v (nwH q P (srt l))/\LdI w' gm (mtL q P (srt l))/\Turn (fun k=>k=gm) (fun k=>k=gm) w w':=by
 obtain⟨i0,hi0,hz0,hz1,hz2⟩:=info_parts zaG
 have HV:=zb ((callsIn_wide (n:=5)).1 (values_in 5 a l.length cap w))
 have hbA:Below w.heap.size w (w.alloc (.cells #[.slice a l.length cap] 90)):=(Below.refl _ _).alloc (Nat.le_refl _) _
 have HSO:=zb (zk3 a cap l (by omega) w.heap.size (w.alloc (.cells #[.slice a l.length cap] 90)) (hs.below hbA) (by rw [cell_of_row _ _ _ _ _ _ (heap_alloc_new w _)];rfl))
 have HBA:=zb hbA
 have HM:=zb hM
 have hgm:=hM.lt
 have hsl:(srt l).length=l.length:=zk0 l
 have HDG:Hid (Dg (srt l)):=zb (fun x hx=>hdg x (zcZ.1 hx))
 have hcap:=hs.2.2.1
 clear hM hs hdg hbA
 generalize srt l=s at *
 generalize hln:l.length=n at *
 have HM0:Hid (mtL q P (s.take 0)=P/\nwH q P (s.take 0)=[]):=zb (by
  refine⟨rfl,?_⟩
  unfold nwH mtL
  simp)
 have HML:=zb (fun k=>zrB q (s.take k) P)
 have HNW:=zb (fun k=>zyg q P (s.take k))
 have HSN:=zb (fun(k:Nat) (x:Int) (hx:s[k]?=some x)=>show mtL q P (s.take (k+1))=mtS q (mtL q P (s.take k)) x/\nwH q P (s.take (k+1))=if zjR (mtL q P (s.take k)) x=true then nwH q P (s.take k) else nwH q P (s.take k)++[x] by
  rw [zgL hx]
  exact⟨zm9 q P _ x,zuM q P _ x⟩)
 go_enter Tryz.func260,Tryz.ntmps260
 go_wp2_with fail
 refine(za HV).mono ?_
 rintro e w1 ⟨rfl,hw1⟩
 subst hw1
 go_wp2_with fail
 refine(za HSO).mono ?_
 rintro e w2 ⟨v2,rfl,hl2,hb2⟩
 rw [qF] at hb2
 have hB2:Below w.heap.size w w2:=(za HBA).trans (hb2.mono (Nat.le_succ _))
 have hgm2:gm<w2.heap.size:=Nat.lt_of_lt_of_le hgm hB2.size
 have HM2:=zb ((za HM).below hB2)
 obtain⟨a2,c2,rfl,hsl2⟩:=hl2.sls zaN (by omega)
 have HS2:=zb hsl2
 have HB2:=zb hB2
 have hcl:=hsl2.2.2.1
 clear hl2 hsl2 hb2 hB2 HSO HV HBA HM
 obtain⟨Q,hQ⟩:∃ Q,hd q=Q:=⟨_,rfl⟩
 rw [hQ] at hq ⊢
 have HQQ:=zb hQ
 clear hQ
 go_wp2_with fail
 go_loopw [7,9,10,11,16] (fun v _ _ _ iv wr=>∃ k:Nat,k<=s.length/\iv=.int .i64 (k:Int)/\Lst inC 1 3 wr w2.heap.size v (nwH q P (s.take k))/\LdI wr gm (mtL q P (s.take k))/\Turn (fun k=>k=gm) (fun k=>k=gm) w2 wr) (fun _ _ _ _ iv _=>s.length-(intOf iv).toNat)
 case atStart=>exact⟨0,Nat.zero_le _,rfl,by rw [(za HM0).2];exact Lst.nil _ _,by rw [(za HM0).1];exact za HM2,Turn.refl _ _⟩
 case round =>
  obtain⟨k,hk,rfl,hown,hmp,htn⟩:=hrel
  obtain⟨va,vm,vc,rfl⟩:=hown.shape
  by_cases hlt:k<s.length
  ·have hne:s≠[]:=by intro e;rw [e] at hlt;simp at hlt
   have hap:=(za HM2).apart (za HS2)
   obtain⟨b1,o1,rfl,hc1⟩:=(za HS2).2.2.2 hne
   obtain⟨x,hx⟩:∃ x,s[k]?=some x:=⟨s[k],List.getElem?_eq_getElem hlt⟩
   have q0:=Sls.num (cap:=0) hc1 hx
   have q1:wr.cell? ⟨b1,o1+k,none⟩=some (.int .i64 x):=(World.cell?_of_block (a:=⟨b1,o1+k,none⟩) (htn.block b1 (block_lt_of_cell q0) (hap b1 o1 rfl hne))).trans q0
   have hxb:=za HDG x (List.mem_of_getElem? hx)
   obtain⟨n1,n2⟩:=za HSN k x hx
   have hml:=za HML k
   have hnw:=za HNW k
   have hml2:(mtL q P (s.take k)).length<=140:=by rw [List.length_take] at hml;omega
   have hnw2:(nwH q P (s.take k)).length<=140:=by omega
   obtain⟨xv,hlook⟩:=hmp.look (z:=x) (by omega)
   have HN1:=zb n1
   have HN2:=zb n2
   have hsz:=htn.size
   clear hc1 hx hap hne n1 n2 hml hnw q0
   cases hmet:zjR (mtL q P (s.take k)) x with
   | true =>
    have HE:Hid (mtL q P (s.take (k+1))=mtL q P (s.take k)/\nwH q P (s.take (k+1))=nwH q P (s.take k)):=zb (by
     rw [za HN1,za HN2,if_pos hmet]
     unfold mtS
     rw [if_pos hmet]
     exact⟨rfl,rfl⟩)
    rw [hmet] at hlook
    have HOWN:=zb hown
    have HMP:=zb hmp
    have HTN:=zb htn
    clear hown hmp htn HN1 HN2 hmet
    go_wp2
    go_roundw
    case rel=>exact⟨k+1,by omega,by go_num,by rw [(za HE).2];exact za HOWN,by rw [(za HE).1];exact za HMP,za HTN⟩
    case measure=>simp [intOf];omega
   | false =>
    have HE:Hid (mtL q P (s.take (k+1))=mtL q P (s.take k)++[q++[x]]/\nwH q P (s.take (k+1))=nwH q P (s.take k)++[x]):=zb (by
     rw [za HN1,za HN2,if_neg (by rw [hmet];simp)]
     unfold mtS
     rw [if_neg (by rw [hmet];simp)]
     exact⟨rfl,rfl⟩)
    obtain⟨w3,hst,hmp3,ht3⟩:=hmp.store (q:=q) (x:=x) (by omega) (by omega) (by rw [za HQQ];omega) hmet
    rw [hmet] at hlook
    rw [<- (za HE).1] at hmp3
    rw [za HQQ] at hst
    have hT3:Turn (fun k=>k=gm) (fun k=>k=gm) w2 w3:=htn.trans (Turn.grown ht3.grown (fun k hk=>by cases hk;rfl))
    have hown3:=hown.mapT ht3 hgm2
    have hb4:Below w3.heap.size w3 (w3.alloc (.cells #[.int .i64 x] 3)):=(Below.refl _ _).alloc (Nat.le_refl _) _
    have HO4:=zb (hown3.below hb4)
    have HM4:=zb (hmp3.below hb4)
    have HT4:=zb (hT3.trans (Turn.of_below hb4))
    have HGN:Hid ((w3.alloc (.cells #[.int .i64 x] 3)).heap[w3.heap.size]?=some (.cells (inC x).toArray 3 (0,0))):=zb (heap_alloc_new w3 _)
    have hsz3:=hT3.size
    clear hown hmp htn hmet hmp3 hT3 hown3 hb4 ht3 HN1 HN2
    generalize nwH q P (s.take k)=acc at *
    go_wp2_with (at_builtin;refine zr rfl _ _ 90 rfl w2.heap.size i0 (.int .i64 0) 8 Tryz.underlying90 hi0 hz0 hz1 hz2 rfl (by decide) (by decide) _ _ rfl (za HO4) w3.heap.size x rfl (za HGN) rfl (zeg _) (by omega) (by simp;omega) ?_)
    intro v9 w9 hown9 hb9
    rw [<- (za HE).2] at hown9
    have HO9:=zb hown9
    have HM9:=zb ((za HM4).same (hb9.block gm hgm2))
    have HT9:=zb ((za HT4).onB hb9)
    obtain⟨a9,m9,c9,rfl⟩:=hown9.shape
    clear hown9 hb9 HO4 HM4 HT4 HGN
    go_wp2
    go_roundw
    case rel=>exact⟨k+1,by omega,by go_num,za HO9,za HM9,za HT9⟩
    case measure=>simp [intOf];omega
  ·have hkq:k=s.length:=by omega
   rw [hkq,List.take_length] at hown hmp
   have HO:=zb (hown.lowA (za HB2).size)
   have HMP:=zb hmp
   have HT:=zb ((Turn.of_below (S:=fun k=>k=gm) (za HB2)).trans htn)
   have hge:¬ ((k:Int)<(s.length:Int)):=by omega
   clear hkq hlt hk hown hmp htn
   go_wp2
   go_ret
   exact⟨_,rfl,za HO,za HMP,za HT⟩
theorem zqY(L:List Int)(h:Int)(hf:Fine L):(rfL L h).length<=15:=by
 rw [zmR,<- zmT]
 exact Nat.le_trans (zmU L _ _) (zlz L h hf)
set_option maxRecDepth 100000 in
set_option maxHeartbeats 4000000 in
set_option maxRecDepth 100000 in
theorem zic(p g c B:Nat)(L:List Int)(w:World)(hh:Hp w B p g c L) :
  Calls Tryz.prog 209 #[.pointer (some ⟨p,0,none⟩)] w fun e w'=>∃ gm,e=.returned (.map (some gm))/\LdI w' gm (bfL L)/\w.heap.size<=gm/\Below w.heap.size w w':=by
 obtain⟨i0,hi0,hz0,hz1,hz2⟩:=info_parts zaG
 have hmm:=@run_makeMap Tryz.prog
 have hf:=hh.fine
 have hb0:Below w.heap.size w (w.alloc (.map #[] 0)):=(Below.refl _ _).alloc (Nat.le_refl _) _
 have HRO:=zb (zom p g c B L (w.alloc (.map #[] 0)) (hh.below hb0))
 rw [qF] at HRO
 have HRE:=zb (fun(x:Int) (W:World) (hW:Below w.heap.size w W)=>zow p g c B L x W (hh.below hW))
 have hrt:(rtH L).length<=8:=by unfold rtH;rw [List.length_map];exact za3 L 8
 have HLE:=zb (fun(q:List Int) (P:List (List Int)) (a:Option Addr) (cap:Nat) (l:List Int) (W:World) hM hs hl hdg hq hP=>zvd w.heap.size q P a cap l W hM hs hl hdg hq hP)
 have HBF:Hid (∀ k,Bf (rtH L) (QY L) (bfP (rtH L) (QY L) k) k):=zb (fun k=>zzk (zaw hf) (qW L) k (Nat.le_total _ _))
 have HLN:=zb (fun k=>(za HBF k).len (zaw hf) (qW L))
 have HZ:Hid (mtL [] [] (srt (rtH L))=bfP (rtH L) (QY L) 0/\nwH [] [] (srt (rtH L))=(bfP (rtH L) (QY L) 0).map hd):=zb ⟨rfl,by have:=zlw [] [] (srt (rtH L));rw [List.map_nil,List.nil_append] at this;exact this⟩
 have HSC:Hid (∀ k q,(bfP (rtH L) (QY L) k)[k]?=some q->zO L (hd q)=0/\rfL L (hd q)=QY L (hd q)/\(1<=hd q/\hd q<=40)/\mtL q (bfP (rtH L) (QY L) k) (srt (rfL L (hd q)))=bfP (rtH L) (QY L) (k+1)/\(bfP (rtH L) (QY L) k).map hd++nwH q (bfP (rtH L) (QY L) k) (srt (rfL L (hd q)))=(bfP (rtH L) (QY L) (k+1)).map hd):=zb (fun k q hq=>by
  have hw:=(za HBF k).way q (List.mem_of_getElem? hq)
  have hc:=zpU hf hw
  have hr:rfL L (hd q)=QY L (hd q):=by unfold rfL;rw [if_pos hc]
  have e:=znP hq
  refine⟨hc,hr,zm.1 (zq.1 hc).2.1,by rw [hr,e],?_⟩
  rw [zlw,hr,e])
 have hdg0:∀ x,Dg (rfL L x):=fun x y hy=>by
  unfold rfL at hy
  split at hy
  ·exact qW L x y hy
  ·cases hy
 have HDG:Hid (∀ x,Dg (rfL L x)/\(rfL L x).length<=15):=zb (fun x=>⟨hdg0 x,zqY L x hf⟩)
 clear hdg0
 have HEND:Hid (∀ k,k<=40->(bfP (rtH L) (QY L) k).length<=k->bfP (rtH L) (QY L) k=bfL L):=zb (fun k hk hl=>zBS hk hl)
 have HRD:=zb (zaw hf)
 have HM0:=zb (LdI.made w)
 have HB0:=zb hb0
 clear hh hf hb0 HBF
 generalize bfL L=BL at *
 generalize rtH L=RH at *
 generalize bfP RH (QY L)=bp at *
 go_enter Tryz.func209,Tryz.ntmps209
 go_wp2_with fail
 refine(za HRO).mono ?_
 rintro e w1 ⟨v1,rfl,hl1,hb1⟩
 have hB1:Below w.heap.size w w1:=(za HB0).trans (hb1.mono (Nat.le_succ _))
 have hsz1:w.heap.size+1<=w1.heap.size:=by have:=hb1.size;rw [qF] at this;exact this
 have hM1:LdI w1 w.heap.size []:=(za HM0).same (hb1.block _ (Nat.lt_succ_self _))
 obtain⟨a1,c1,rfl,hsl1⟩:=hl1.sls zaN (by omega)
 have HL1:=zb (za HLE [] [] a1 c1 RH w1 hM1 hsl1 (by omega) (za HRD) (by decide) (by simp))
 have hcl1:=hsl1.2.2.1
 have HB1:=zb hB1
 clear hl1 hsl1 hb1 hB1 hM1 HRO HM0 HB0
 have hh0:hd []=0:=rfl
 rw [hh0] at HL1
 go_wp2_with fail
 refine(za HL1).mono ?_
 rintro e w2 ⟨v2,rfl,hl2,hm2,ht2⟩
 rw [(za HZ).2] at hl2
 rw [(za HZ).1] at hm2
 have HO2:=zb (hl2.lowA hsz1)
 have HM2:=zb hm2
 have HB2:=zb ((za HB1).trans (ht2.below (fun k hk=>by rw [hk];exact Nat.le_refl _) (by omega)))
 have hsz2:=Nat.le_trans hsz1 ht2.size
 obtain⟨va2,vm2,vc2,rfl⟩:=hl2.shape
 clear hl2 hm2 ht2 HL1 HB1 hh0
 go_wp2_with fail
 go_loopw [4,5,6,7] (fun v iv _ _ wr=>∃ k:Nat,k<=(bp k).length/\iv=.int .i64 (k:Int)/\Lst inC 1 3 wr (w.heap.size+1) v ((bp k).map hd)/\LdI wr w.heap.size (bp k)/\Below w.heap.size w wr/\w.heap.size+1<=wr.heap.size) (fun _ iv _ _ _=>41-(intOf iv).toNat)
 case atStart=>exact⟨0,Nat.zero_le _,rfl,za HO2,za HM2,za HB2,hsz2⟩
 case round =>
  obtain⟨k,hk,rfl,hown,hmp,hbel,hsz⟩:=hrel
  have hln:=za HLN k
  obtain⟨va,vc,rfl,hsl⟩:=hown.sls zaN (by rw [List.length_map];omega)
  have hml:((bp k).map hd).length=(bp k).length:=List.length_map _
  have HMM:Hid ((bp k).map hd=(bp k).map hd):=zb rfl
  have HATX:Hid (∀ q,(bp k)[k]?=some q->((bp k).map hd)[k]?=some (hd q)):=zb (fun q hq=>by rw [List.getElem?_map,hq];rfl)
  have HSX:=zb (fun q hq=>(za HSC k q hq).2.2.2.2)
  by_cases hlt:k<(bp k).length
  ·obtain⟨q,hq⟩:∃ q,(bp k)[k]?=some q:=⟨_,List.getElem?_eq_getElem hlt⟩
   obtain⟨s1,s2,s3,s4,_⟩:=za HSC k q hq
   have s5:=za HSX q hq
   have hat:=za HATX q hq
   clear HSX HATX HMM
   generalize (bp k).map hd=MM at *
   have hltM:k<MM.length:=by omega
   obtain⟨b3,o3,rfl,hc3⟩:=hsl.2.2.2 (by intro e;rw [e] at hml;simp at hml;omega)
   have q0:=Sls.num (cap:=0) hc3 hat
   have HRX:=zb (za HRE (hd q) wr hbel)
   rw [s1,zf] at HRX
   obtain⟨d1,d2⟩:=za HDG (hd q)
   have hnx:k+1<=(bp (k+1)).length:=by
    have:=congrArg List.length s5
    rw [List.length_append,List.length_map] at this
    omega
   have HD1:=zb d1
   have HS4:=zb s4
   have HS5:=zb s5
   have HQ:Hid (∃ Q,hd q=Q):=zb ⟨_,rfl⟩
   have hln2:=za HLN (k+1)
   have HOWN:=zb hown
   have HMP:=zb hmp
   have HBEL:=zb hbel
   have HC3:Hid (∀ W,Turn (fun k=>k=w.heap.size) (fun k=>k=w.heap.size) wr W->W.cell? ⟨b3,o3+k,none⟩=some (.int .i64 (hd q))):=zb (fun W hW=>by
    have hap:=hmp.apart hsl b3 o3 rfl (by intro e;rw [e] at hml;simp at hml;omega)
    exact(World.cell?_of_block (a:=⟨b3,o3+k,none⟩) (hW.block b3 (block_lt_of_cell q0) hap)).trans q0)
   have HML:=zb hml
   have hM40:MM.length<=40:=by omega
   have hbk:(bp k).length<=40:=by omega
   clear hown hmp hbel hc3 hsl hat hq s1 s2 s4 s5 d1 hml
   generalize hRF:rfL L (hd q)=RF at *
   have HLX:=zb (fun(a:Option Addr) (cap:Nat) (W:World) hM hs=>za HLE q (bp k) a cap RF W hM hs (by omega) (za HD1) (by omega) (by omega))
   obtain⟨Q,hQ⟩:=za HQ
   rw [hQ] at q0 HRX HLX s3 HC3
   clear hRF hQ HQ
   go_wp2_with fail
   refine(za HRX).mono ?_
   rintro e w3 ⟨v3,rfl,hl3,hb3⟩
   obtain⟨a3,c3,rfl,hsl3⟩:=hl3.sls zaN (by omega)
   have hM3:=(za HMP).below hb3
   have HL3:=zb (za HLX a3 c3 w3 hM3 hsl3)
   have hq3:=za HC3 w3 (Turn.of_below hb3)
   have HO3:=zb ((za HOWN).below hb3)
   have HM3:=zb hM3
   have HB3:=zb ((za HBEL).trans (hb3.mono (za HBEL).size))
   have hsz3:=Nat.le_trans hsz hb3.size
   have hcl3:=hsl3.2.2.1
   clear hl3 hsl3 hb3 hM3 HRX HLX HOWN HMP HBEL HC3 q0
   go_wp2_with fail
   refine(za HL3).mono ?_
   rintro e w4 ⟨v4,rfl,hl4,hm4,ht4⟩
   have HO4:=zb ((za HO3).turnM (za HM3) ht4)
   rw [za HS4] at hm4
   have HM4:=zb hm4
   have HB4:=zb ((za HB3).trans (ht4.below (fun k hk=>by rw [hk];exact Nat.le_refl _) (by omega)))
   have hsz4:=Nat.le_trans hsz3 ht4.size
   have hnl:(nwH q (bp k) (srt RF)).length<=40:=by
    have:=congrArg List.length (za HS5)
    rw [List.length_append,List.length_map] at this
    omega
   obtain⟨a4,c4,rfl,hsl4⟩:=hl4.sls zaN (by omega)
   have HS44:=zb hsl4
   clear hl4 hm4 ht4 HL3 HO3 HM3 HB3 hsl4 hq3
   have HOK:Hid (MM.length+(nwH q (bp k) (srt RF)).length<=1000):=zb (by omega)
   generalize nwH q (bp k) (srt RF)=NW at *
   go_wp2_with (at_builtin;refine Zm rfl _ _ 90 rfl (w.heap.size+1) i0 (.int .i64 0) 8 Tryz.underlying90 hi0 hz0 hz1 hz2 rfl (by decide) (by decide) _ _ rfl (za HO4) a4 c4 _ rfl (za HS44) zaN zeg (za HOK) hsz4 ?_)
   intro v9 w9 hown9 hb9
   try rw [za HS5] at hown9
   have HO9:=zb hown9
   have HM9:=zb ((za HM4).same (hb9.block _ (Nat.lt_succ_self _)))
   have HB9:=zb ((za HB4).trans (hb9.mono (Nat.le_succ _)))
   have hsz9:=Nat.le_trans hsz4 hb9.size
   obtain⟨a9,m9,c9,rfl⟩:=hown9.shape
   clear hown9 hb9 HO4 HM4 HB4 HS44
   go_wp2
   go_roundw
   case rel=>exact⟨k+1,by omega,by go_num,za HO9,za HM9,za HB9,hsz9⟩
   case measure=>simp [intOf];omega
  ·have he:=za HEND k (by omega) (by omega)
   rw [he] at hmp
   have HMP:=zb hmp
   have HBEL:=zb hbel
   have hge:¬ ((k:Int)<((bp k).length:Int)):=by omega
   rw [hml]
   clear hmp hbel hown hsl he
   go_wp2
   go_ret
   exact⟨_,rfl,za HMP,Nat.le_refl _,za HBEL⟩
end Go.Proofs.YtchmlnmhbfaclaaGreatDoor
namespace Go.Proofs.YtchmlnmhbfaclaaGreatDoor
open Go.RowKit Go.MapKept Go.ChangeMaps Go.Sort Go.Shelf
set_option linter.unusedVariables false
section
variable {w:World} {B p g c:Nat} {L:List Int}
set_option maxRecDepth 100000 in
set_option maxHeartbeats 2000000 in
set_option maxRecDepth 100000 in
theorem zox(h:Hp w B p g c L) :
  Calls Tryz.prog 161 #[.pointer (some ⟨p,0,none⟩)] w fun e w'=>∃ v,e=.returned v/\Lst inC 1 3 w' w.heap.size v (ddK L 40)/\Below w.heap.size w w':=by
 obtain⟨i0,hi0,hz0,hz1,hz2⟩:=info_parts zaG
 have HL:=zb (zic p g c B L w h)
 have HIS:=zb (fun(x:Int) (W:World) (hW:Below w.heap.size w W)=>zex p g c B L x W (h.below hW))
 have HMT:=zb (fun x=>zzm h.fine x)
 have HCK:Hid (∀ k:Nat,k<40->(zO L ((k:Int)+1)=0 ↔ zg L ((k:Int)+1)≠0)):=zb (fun k hk=>⟨fun e=>(zq.1 e).2.2,fun e=>zq.2 ⟨h.fine.len0,zm.2 (by omega),e⟩⟩)
 have HDS:=zb (fun k=>zv2 L k)
 have HDL:=zb (fun k=>ziy L k)
 have HD0:Hid (ddK L 0=[]):=zb rfl
 clear h
 generalize bfL L=BL at *
 generalize ddK L=dk at *
 go_enter Tryz.func161,Tryz.ntmps161
 go_wp2_with fail
 refine(za HL).mono ?_
 rintro e w1 ⟨gm,rfl,hm1,hgm,hb1⟩
 have HM1:=zb hm1
 have HB1:=zb hb1
 clear hm1 hb1 HL
 go_wp2_with fail
 go_loopw [4,5,6,7] (fun v iv _ _ wr=>∃ k:Nat,k<=40/\iv=.int .i64 ((k:Int)+1)/\Lst inC 1 3 wr w1.heap.size v (dk k)/\Below w1.heap.size w1 wr) (fun _ iv _ _ _=>41-(intOf iv).toNat)
 case atStart=>exact⟨0,Nat.zero_le _,rfl,by rw [za HD0];exact Lst.nil _ _,Below.refl _ _⟩
 case round =>
  obtain⟨k,hk,rfl,hown,hbel⟩:=hrel
  obtain⟨va,vm,vc,rfl⟩:=hown.shape
  by_cases hlt:k<40
  ·obtain⟨xv,hlook⟩:=((za HM1).below hbel).look (z:=(k:Int)+1) (by omega)
   rw [za HMT] at hlook
   have HIX:=zb (za HIS ((k:Int)+1) wr ((za HB1).trans (hbel.mono (za HB1).size)))
   have hck:=za HCK k hlt
   have hds:=za HDS k
   have hdl:=za HDL k
   have hle:(k:Int)+1<=40:=by omega
   have hin:((k+1:Nat):Int)+1=(k:Int)+1+1:=by omega
   have HIN:=zb hin
   have hnn:(0:Int)<=(k:Int)+1:=by omega
   have HOWN:=zb hown
   have HBEL:=zb hbel
   clear hown hbel hin
   obtain⟨X,hX⟩:∃ X:Int,(k:Int)+1=X:=⟨_,rfl⟩
   rw [hX] at hlook HIX hck hds hle HIN hnn
   rw [hX]
   have HX:=zb hX
   clear hX
   cases hlv:lvB L X with
   | true =>
    rw [hlv] at hlook
    have HE:Hid (dk (k+1)=dk k):=zb (by rw [hds,if_neg (by rw [hlv];simp)])
    clear hds hck hlv HIX
    go_wp2
    go_roundw
    case rel=>exact⟨k+1,by omega,by rw [za HIN],by rw [za HE];exact za HOWN,za HBEL⟩
    case measure=>simp [intOf];omega
   | false =>
    rw [hlv] at hlook
    by_cases ht:zg L X=0
    ·have HE:Hid (dk (k+1)=dk k):=zb (by rw [hds,if_neg (fun hq=>hq.1 ht)])
     rw [decide_eq_false (fun e=>(hck.1 e) ht)] at HIX
     clear hds hck hlv ht
     go_wp2_with fail
     refine(za HIX).mono ?_
     rintro e w2 ⟨rfl,hb2⟩
     have HO2:=zb ((za HOWN).below hb2)
     have HB2:=zb ((za HBEL).trans (hb2.mono (za HBEL).size))
     clear hb2 HIX HOWN HBEL
     go_wp2
     go_roundw
     case rel=>exact⟨k+1,by omega,by rw [za HIN],by rw [za HE];exact za HO2,za HB2⟩
     case measure=>simp [intOf];omega
    ·have HE:Hid (dk (k+1)=dk k++[X]):=zb (by rw [hds,if_pos ⟨ht,hlv⟩])
     rw [decide_eq_true (hck.2 ht)] at HIX
     clear hds hck hlv ht
     go_wp2_with fail
     refine(za HIX).mono ?_
     rintro e w2 ⟨rfl,hb2⟩
     have hB2:=(za HBEL).trans (hb2.mono (za HBEL).size)
     have HO3:=zb (((za HOWN).below hb2).below ((Below.refl _ w2).alloc (Nat.le_refl _) (.cells #[.int .i64 X] 3)))
     have HB3:=zb (hB2.alloc hB2.size (.cells #[.int .i64 X] 3))
     have HGN:Hid ((w2.alloc (.cells #[.int .i64 X] 3)).heap[w2.heap.size]?=some (.cells (inC X).toArray 3 (0,0))):=zb (heap_alloc_new w2 _)
     have hsz2:=hB2.size
     clear hb2 hB2 HIX HOWN HBEL
     generalize dk k=acc at *
     go_wp2_with (at_builtin;refine zr rfl _ _ 90 rfl w1.heap.size i0 (.int .i64 0) 8 Tryz.underlying90 hi0 hz0 hz1 hz2 rfl (by decide) (by decide) _ _ rfl (za HO3) w2.heap.size X rfl (za HGN) rfl (zeg _) (by omega) (by simp;omega) ?_)
     intro v9 w9 hown9 hb9
     try rw [<- za HE] at hown9
     have HO9:=zb hown9
     have HB9:=zb ((za HB3).trans hb9)
     obtain⟨a9,m9,c9,rfl⟩:=hown9.shape
     clear hown9 hb9 HO3 HB3 HGN
     go_wp2
     go_roundw
     case rel=>exact⟨k+1,by omega,by rw [za HIN],za HO9,za HB9⟩
     case measure=>simp [intOf];omega
  ·obtain rfl:k=40:=by omega
   have HO:=zb (hown.lowA (za HB1).size)
   have HB2:=zb ((za HB1).trans (hbel.mono (za HB1).size))
   clear hown hbel
   go_wp2
   go_ret
   exact⟨_,rfl,za HO,za HB2⟩
end
end Go.Proofs.YtchmlnmhbfaclaaGreatDoor
namespace Go.Proofs.YtchmlnmhbfaclaaGreatDoor
open Go.RowKit
set_option linter.unusedVariables false
theorem zxz{L:List Int}(hf:Fine L)(k:Nat):Swept L (swL L ((ddK L 40).take k)) ((ddK L 40).take k):=by
 obtain⟨h1,h2⟩:=zl8 hf
 have hn:((ddK L 40).take k).Nodup:=h1.sublist (List.take_sublist _ _)
 have:=zhD hf ((ddK L 40).take k) [] (by simpa using hn) (by simpa using fun h hm=>h2 h (List.mem_of_mem_take hm)) L (Swept.refl hf)
 simpa using this
theorem zxA{L:List Int}(hf:Fine L){k:Nat}{x:Int}(hx:(ddK L 40)[k]?=some x):frE (swL L ((ddK L 40).take k)) x=0/\frB (swL L ((ddK L 40).take k)) x=swL L ((ddK L 40).take (k+1)):=by
 obtain⟨h1,h2⟩:=zl8 hf
 obtain⟨a1,a2⟩:=h2 x (List.mem_of_getElem? hx)
 have hni:x ∉ (ddK L 40).take k:=fun hm=>by
  obtain⟨j,hj,e⟩:=List.getElem_of_mem hm
  rw [List.length_take] at hj
  rw [List.getElem_take] at e
  obtain⟨hk,e2⟩:=List.getElem?_eq_some_iff.1 hx
  have:=List.pairwise_iff_getElem.1 h1 j k (by omega) hk (by omega)
  exact this (e.trans e2.symm)
 obtain⟨_,b2,_⟩:=(zxz hf k).more a1 hni a2
 refine⟨b2,?_⟩
 unfold frB
 rw [if_pos b2]
 unfold swL
 rw [List.take_add_one,hx,List.foldl_append]
 rfl
section
variable {w:World} {B p g c:Nat} {L:List Int}
set_option maxRecDepth 100000 in
set_option maxHeartbeats 1000000 in
set_option maxRecDepth 100000 in
theorem zll(h:Hp w B p g c L)(hB:B<=w.heap.size) :
  Calls Tryz.prog 106 #[.pointer (some ⟨p,0,none⟩)] w fun e w'=>e=.returned (.tuple #[.int .i64 (ddK L 40).length,.nilIface])/\∃ g' c',Hp w' B p g' c' (swL L (ddK L 40))/\Turn (foot p g) (foot p g') w w':=by
 have HD:=zb (zox h)
 have hdl:=ziy L 40
 have HST:=zb (fun k x hx=>zxA h.fine (k:=k) (x:=x) hx)
 have HFR:=zb (fun(W:World) (g' c':Nat) (M:List Int) (x:Int) (hh:Hp W B p g' c' M) (hW:B<=W.heap.size)=>zkf p g' c' B M x W hh hW)
 have HH:=zb h
 have HFT:Hid (∀ k,foot p g k->k<w.heap.size):=zb (fun k hk=>by
  rcases hk with rfl | rfl
  ·exact h.plt
  ·exact h.glt)
 have H0:Hid (swL L ((ddK L 40).take 0)=L):=zb rfl
 clear h
 generalize ddK L 40=D at *
 go_enter Tryz.func106,Tryz.ntmps106
 go_wp2_with fail
 refine(za HD).mono ?_
 rintro e w1 ⟨v1,rfl,hl1,hb1⟩
 have HBK:=zb (fun k (hk:v1.ownBlock=some k)=>hl1.block k hk)
 obtain⟨a1,c1,rfl,hsl1⟩:=hl1.sls zaN (by omega)
 have HS1:=zb hsl1
 have HH1:=zb ((za HH).below hb1)
 have HB1:=zb hb1
 have hcl:=hsl1.2.2.1
 have hsz1:=hb1.size
 clear hl1 hsl1 hb1 HD HH
 go_wp2_with fail
 go_loopw [6,7,12] (fun _ _ iv wr=>∃ (k g' c':Nat),k<=D.length/\iv=.int .i64 (k:Int)/\Hp wr B p g' c' (swL L (D.take k))/\Turn (foot p g) (foot p g') w1 wr) (fun _ _ iv _=>D.length-(intOf iv).toNat)
 case atStart=>exact⟨0,g,c,Nat.zero_le _,rfl,by rw [za H0];exact za HH1,Turn.refl _ _⟩
 case round =>
  obtain⟨k,g',c',hk,rfl,hh,htn⟩:=hrel
  by_cases hlt:k<D.length
  ·have hne:D≠[]:=by intro e;rw [e] at hlt;simp at hlt
   obtain⟨b1,o1,rfl,hc1⟩:=(za HS1).2.2.2 hne
   obtain⟨x,hx⟩:∃ x,D[k]?=some x:=⟨D[k],List.getElem?_eq_getElem hlt⟩
   have q0:=Sls.num (cap:=0) hc1 hx
   have hnb:¬ foot p g b1:=fun hf=>by
    have h1:=za HFT b1 hf
    have h2:=za HBK b1 rfl
    omega
   have q1:wr.cell? ⟨b1,o1+k,none⟩=some (.int .i64 x):=(World.cell?_of_block (a:=⟨b1,o1+k,none⟩) (htn.block b1 (block_lt_of_cell q0) hnb)).trans q0
   obtain⟨s1,s2⟩:=za HST k x hx
   have HF:=zb (za HFR wr g' c' _ x hh (by have:=htn.size;omega))
   rw [s1,s2,zf] at HF
   have HT:=zb htn
   clear hc1 hx q0 hnb hne s1 s2 hh htn
   go_wp2_with fail
   refine(za HF).mono ?_
   rintro e w2 ⟨rfl,g2,c2,hh2,ht2⟩
   have HH2:=zb hh2
   have HT2:=zb ((za HT).trans ht2)
   clear hh2 ht2 HF HT q1
   go_wp2
   go_roundw
   case rel=>exact⟨k+1,g2,c2,by omega,by go_num,za HH2,za HT2⟩
   case measure=>simp [intOf];omega
  ·have hkD:k=D.length:=by omega
   rw [hkD,List.take_length] at hh
   have HH2:=zb hh
   have HT2:=zb ((Turn.of_below (S:=foot p g) (za HB1)).trans htn)
   have hge:¬ ((k:Int)<(D.length:Int)):=by omega
   clear hh htn hkD hk hlt
   go_wp2
   go_ret2
   first
    | exact⟨rfl,g',c',za HH2,za HT2⟩
    | exact⟨rfl,g',⟨c',za HH2⟩,za HT2⟩
end
end Go.Proofs.YtchmlnmhbfaclaaGreatDoor
