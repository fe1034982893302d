/-
  The walk of RunBegins. (Part of the proofs over package run.)
-/
import Derived.Test.YtchmlnmhbfaclaaGreatDoorJRg
namespace Go.Proofs.YtchmlnmhbfaclaaGreatDoor
open Go.RowKit
set_option linter.unusedVariables false
set_option maxRecDepth 100000 in
set_option maxHeartbeats 2000000 in
theorem zhx(b:Addr)(s:ByteArray)(many:Int)(w:World)(hw:RnW w b)(hs:s.size<=140737488351232)(hm:-9223372036854775808<=many/\many<=9223372036854775807) :
  Calls Tryz.prog 4 #[.string s,.int .i64 many] w fun e w'=>e=.returned (.bool true)/\Below w.heap.size w w':=by
 obtain⟨h0,h1⟩:=hm
 have HR:=zb (fun(W:World) (hW:Below w.heap.size w W) (t:ByteArray)=>zqN W b (hw.below hW) t)
 have hfa:rnS ⟨#[110,101,119,32,51,32,49,10,102,108,121,10]⟩=⟨#[49,10,98,97,100,10]⟩:=zBw
 clear hw
 go_enter Tryz.func4,Tryz.ntmps4
 go_wp2_with fail
 refine(za HR w (Below.refl _ _) _).mono ?_
 rintro e w1 ⟨rfl,hb1⟩
 rw [hfa]
 by_cases hl:s.size<=3000
 case neg =>
  have hL:rnS s=⟨#[116,111,111,32,108,111,110,103,10]⟩:=by unfold rnS;rw [if_neg hl]
  have t0:(s.size:Int) > 3000:=by omega
  have HR1:=zb (za HR w1 hb1 s)
  clear HR
  go_wp2_with fail
  refine(za HR1).mono ?_
  rintro e w2 ⟨rfl,hb2⟩
  rw [hL]
  go_wp2
  go_ret
  exact⟨rfl,hb1.trans (hb2.mono hb1.size)⟩
 have t0:¬ (s.size:Int) > 3000:=by omega
 go_wp2_with fail
 go_loopw [7,8] (fun kv nv wr=>wr=w1/\∃ k n:Nat,kv=.int .i64 (k:Int)/\nv=.int .i64 (n:Int)/\k<=s.size/\n<=k/\((n:Int)<many\/Enl (s.data.toList.take k))) (fun kv _ _=>s.size-(intOf kv).toNat)
 case atStart=>exact⟨rfl,0,0,rfl,rfl,Nat.zero_le _,Nat.le_refl _,.inr (.inl rfl)⟩
 case round =>
  obtain⟨rfl,k,n,rfl,rfl,hk,hn,hor⟩:=hrel
  have hor':(k:Int)<(s.size:Int)->¬ (n:Int)<many->k=s.size\/Enl (s.data.toList.take k):=fun _ h=>.inr (hor.resolve_left h)
  by_cases hgo:k<s.size/\(n:Int)<many
  ·obtain⟨g1,g2⟩:=hgo
   have t1:(k:Int)<(s.size:Int):=by omega
   have hlen:k<s.data.toList.length:=by rw [Array.length_toList];exact g1
   have hnx:s.data.toList.take (k+1)=s.data.toList.take k++[s[k]]:=by
    rw [List.take_add_one,List.getElem?_eq_getElem hlen]
    rfl
   have HNX:=zb hnx
   clear hnx hor hor'
   by_cases hx:s[k]=10
   ·have HE:Hid (Enl (s.data.toList.take (k+1))):=zb (by rw [za HNX,hx];exact .inr ⟨_,rfl⟩)
    have hxb:((s[k].toNat:Int) == 10)=true:=by rw [hx];rfl
    clear HNX hx
    go_wp2
    go_roundw
    case rel=>exact⟨trivial,k+1,n+1,by go_num,by go_num,by omega,by omega,.inr (za HE)⟩
    case measure=>simp [intOf];omega
   ·have hxb:((s[k].toNat:Int) == 10)=false:=beq_eq_false_iff_ne.2 (fun h=>hx (by
     apply UInt8.toNat_inj.1
     show s[k].toNat=10
     omega))
    clear HNX hx
    go_wp2
    go_roundw
    case rel=>exact⟨trivial,k+1,n,by go_num,rfl,by omega,by omega,.inl g2⟩
    case measure=>simp [intOf];omega
  ·have hq:k=s.size\/Enl (s.data.toList.take k):=by
    by_cases h:k<s.size
    ·exact .inr (hor.resolve_left (fun h2=>hgo ⟨h,h2⟩))
    ·exact .inl (by omega)
   have HP:=zb (zxX hl hk hq)
   have hcase:¬ (k:Int)<(s.size:Int)\/((k:Int)<(s.size:Int)/\¬ (n:Int)<many):=by omega
   have HB1:=zb hb1
   have hk':(k:Int)<=(s.size:Int):=by omega
   clear hor hor' hgo hq hb1
   rcases hcase with g1 | ⟨g1,g2⟩
   all_goals
    go_wp2_with fail
    refine(za HR _ (za HB1) _).mono ?_
    rintro e w2 ⟨rfl,hb2⟩
    have hB2:=(za HB1).trans (hb2.mono (za HB1).size)
    have HR2:=zb (za HR w2 hB2 s)
    have HB2:=zb hB2
    clear hb2 hB2 HR HB1
    go_wp2_with fail
    refine(za HR2).mono ?_
    rintro e w3 ⟨rfl,hb3⟩
    have HB3:=zb ((za HB2).trans (hb3.mono (za HB2).size))
    obtain⟨p1,p2⟩:=za HP
    have p3:((rnS (s.extract 0 k)).size:Int)<=((rnS s).size:Int):=by omega
    clear hb3 HR2 HB2 HP
    generalize rnS (s.extract 0 k)=X at *
    generalize rnS s=Y at *
    go_wp2
    go_ret
    exact⟨rfl,za HB3⟩
end Go.Proofs.YtchmlnmhbfaclaaGreatDoor
