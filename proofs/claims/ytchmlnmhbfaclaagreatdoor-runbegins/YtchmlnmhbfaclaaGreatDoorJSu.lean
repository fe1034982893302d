/-
  Parts of the proofs, joined by program.
-/
import Derived.Test.YtchmlnmhbfaclaaGreatDoorJSt
import Derived.Deep.CutRange
namespace Go.Proofs.YtchmlnmhbfaclaaGreatDoor
open Go.RowKit Go.Maps Go.Sort Go.Shelf
set_option linter.unusedVariables false
section
variable {w0 w w':World} {t p q:Nat} {S S':Nat->Prop} {D:DS} {s:Int} {m x g c:Nat} {L:List Int} {gk ck:Nat} {K:List Int} {cut:Bool}
theorem Sto.setCut(h:Sto w0 w t p q S D s m x g c L gk ck K cut)(b:Bool):Sto w0 (w.setCell ⟨t,4,none⟩ (.bool b)) t p q S D s m x g c L gk ck K b:=by
 have hs:=heap_setCell_same w t 4 _ _ (.bool b) h.blk
 have ho:∀ k,k≠t->(w.setCell ⟨t,4,none⟩ (.bool b)).heap[k]?=w.heap[k]?:=fun k hk=>heap_setCell_other _ _ _ _ hk
 have hT:Turn (fun k=>k=t) (fun k=>k=t) w (w.setCell ⟨t,4,none⟩ (.bool b)):=Turn.setCell w _ rfl
 refine⟨by rw [hs];rfl,h.bsd.other hT (fun k hk=>.inl hk) (fun k hk=>⟨Nat.lt_of_lt_of_le (h.bsd.tlt k hk) hT.size,fun _=>hk⟩),?_,?_,h.kb,h.kf,h.cnt,h.len,h.klen,h.n1,h.n2,h.n3⟩
 ·obtain⟨cur2,hr2⟩:=h.hp.row
  exact⟨h.hp.bp,h.hp.ne,(ho x (fun e=>h.n2 (.inl e.symm))).trans h.hp.blk,⟨cur2,hr2.same (ho g (fun e=>h.n2 (.inr e.symm)))⟩,h.hp.byt,h.hp.fine⟩
 ·obtain⟨cur2,hr2⟩:=h.kept
  exact⟨cur2,hr2.same (ho gk (fun e=>h.n1 e.symm))⟩
theorem Sto.undone(h:Sto w0 w t p q S D s m x g c L gk ck K cut){w1 w2:World}{D':DS}{s':Int}(hb1:Below w.heap.size w w1)
  (hl:Live w0 w2 p S' D') (hp:PgAt w2 q p s') (ho:¬ S' q) (ht:Turn (plus S q) (plus S' q) w1 w2) (hc:D'.secs.length=D.secs.length) (b:Bool) :
  Sto w0 (w2.setCell ⟨t,4,none⟩ (.bool b)) t p q S' D' s' m x g c L gk ck K b/\Turn (Zj S q t gk x g) (Zj S' q t gk x g) w (w2.setCell ⟨t,4,none⟩ (.bool b)):=by
 have h2:=(h.below hb1).pages hl hp ho ht hc
 refine⟨h2.setCut b,?_⟩
 have hs1:=hb1.size
 have hs2:=ht.size
 refine⟨?_,?_,?_,by simp;omega,fun k hk hn2=>?_,fun k hk hf=>?_⟩
 ·show w2.os=w.os
  rw [ht.os,hb1.os]
 ·show w2.tape=w.tape
  rw [ht.tape,hb1.tape]
 ·show w2.output=w.output
  rw [ht.output,hb1.output]
 ·rw [heap_setCell_other _ _ _ _ (show k≠t from fun e=>hn2 (.inr (.inl e))),ht.block k (by omega) (fun hf=>hn2 (.inl hf)),hb1.block k hk]
 ·rcases hf with hf | hf
  ·exact .inl (ht.foot k (by omega) hf)
  ·exact .inr hf
set_option maxRecDepth 100000 in
set_option maxHeartbeats 2000000 in
theorem zeq(h:Sto w0 w t p q S D s m x g c L gk ck K cut)(hnc:cut=true->¬ (0<(qz K L m).length/\(qz K L m).length<=23))(h0:0<=s)(h1:s<4294967295)(hX:(zc D s m (dfP K L m)).2.2≠0) :
  Calls Tryz.prog 100 #[.pointer (some ⟨t,0,none⟩)] w fun e w'=>e=.returned (zK (zc D s m (dfP K L m)).2.2)/\∃ S',Sto w0 w' t p q S' (zc D s m (dfP K L m)).1 (zc D s m (dfP K L m)).2.1 m x g c L gk ck K (cut || (!D.down && (zc D s m (dfP K L m)).1.down))/\Turn (Zj S q t gk x g) (Zj S' q t gk x g) w w':=by
 have hm:=h.m200
 have hlL:=h.len
 have hlK:=h.klen
 have c2:=h.c2
 have hby:=qu x g c w0.heap.size L w h.hp
 rw [hlL] at hby
 have HBY:=zb hby
 have H:=zb h
 have hXl:=ZN D s m (dfP K L m)
 have HXL:=zb hXl
 have HCM:Hid (∀ (W:World) (gn cn:Nat),Below w.heap.size w W->w.heap.size<=gn->Bs W (some ⟨gn,0,none⟩) cn L->Calls Tryz.prog 153 #[.pointer (some ⟨q,0,none⟩),.slice (some ⟨gk,0,none⟩) (32 * m) ck,.slice (some ⟨gn,0,none⟩) (32 * m) cn] W fun e w'=>e=.returned (zK (zc D s m (dfP K L m)).2.2)/\∃ S',Live w0 w' p S' (zc D s m (dfP K L m)).1/\PgAt w' q p (zc D s m (dfP K L m)).2.1/\¬ S' q/\Turn (plus S q) (plus S' q) W w'):=zb (fun W gn cn hb hg hbs=>by
  have hw:=h.below hb
  exact zer hw.bsd.live hw.bsd.pg hw.bsd.out hw.bsd.base h.cnt hm.2.1 h0 h1 hw.kbs rfl hlK hbs hlL (fun hs=>by have:=h.bsd.plt gn (.inl hs);omega))
 clear h hby hXl
 obtain⟨X,hXe⟩:∃ X,zc D s m (dfP K L m)=X:=⟨_,rfl⟩
 rw [hXe] at HCM HXL hX ⊢
 clear hXe
 obtain⟨dn,hdn⟩:∃ dn,D.down=dn:=⟨_,rfl⟩
 obtain⟨xd,hxd⟩:∃ xd,X.1.down=xd:=⟨_,rfl⟩
 rw [hdn,hxd]
 have HDD:=zb hdn
 have HXD:=zb hxd
 clear hdn hxd
 have HLL:=zb hlL
 obtain⟨N,hN⟩:∃ N,32 * m=N:=⟨_,rfl⟩
 rw [hN] at HBY HCM HLL hlK
 have HLK:=zb hlK
 have HEX:=zb hX
 rw [zh _ hX] at HCM
 have HER:Hid (zK X.2.2=.iface 107 (.int .i64 X.2.2)):=zb (zh _ hX)
 clear hlL hlK hN hX
 go_enter Tryz.func100,Tryz.ntmps100
 go_wp2_with fail
 refine(za HBY).mono ?_
 rintro e w1 ⟨a1,kc,rfl,ho,hb1⟩
 obtain⟨gn,cur,rfl,hrow⟩:∃ gn cur,a1=some ⟨gn,0,none⟩/\Row w1 w.heap.size gn kc cur L:=by
  rw [<- za HLL] at ho
  obtain⟨gn,cur,e1,hr,_⟩:=ho.row (by intro e;have:=(za H).hp.fine.len;rw [e] at this;simp at this)
  exact⟨gn,cur,e1,hr⟩
 have HROW:=zb hrow
 have HB1:=zb hb1
 have hst1:=(za H).below hb1
 have HD:=zb (zag hst1)
 clear ho hrow hb1 hst1 HBY c2
 go_wp2_with fail
 refine(za HD).mono ?_
 rintro e w2 ⟨v,rfl,hr2,hb2⟩
 obtain⟨an,cn2,rfl,_,_⟩:=zdz hr2
 have hb12:=(za HB1).trans (hb2.mono (za HB1).size)
 have hst2:=(za H).below hb12
 have c0:=hst2.c0
 have c4:=hst2.c4
 have c1:=hst2.c1
 have c3:=hst2.c3
 rw [za HLK] at c3
 have hdw:=hst2.bsd.live.down
 rw [za HDD] at hdw
 have HDN:=zb hdw
 have hnl:(qz K L m).length<=200:=by
  have:(qz K L m).length<=m:=by
   unfold qz
   exact Nat.le_trans (List.length_filter_le _ _) (by simp)
  omega
 have hgn:=(za HROW).1
 have hb2d:Below w.heap.size w w2.drew:=qk hb12
 have hrow2:=(za HROW).below (qk hb2)
 have hbs2:Bs w2.drew (some ⟨gn,0,none⟩) kc L:=hrow2.bs (za H).hp.byt (by have:=(za H).hp.fine.len;omega)
 have HC1:Hid (Calls Tryz.prog 153 #[.pointer (some ⟨q,0,none⟩),.slice (some ⟨gk,0,none⟩) N ck,.slice (some ⟨gn,0,none⟩) N kc] w2.drew fun e w'=>e=.returned (.iface 107 (.int .i64 X.2.2))/\w'.cell? ⟨t,1,none⟩=some (.pointer (some ⟨q,0,none⟩))/\w'.cell? ⟨t,3,none⟩=some (.slice (some ⟨gk,0,none⟩) N ck)/\w'.cell? ⟨t,0,none⟩=some (.pointer (some ⟨p,0,none⟩))/\w'.cell? ⟨t,4,none⟩=some (.bool cut)/\w'.frozen? ⟨t,4,none⟩=false /\
   Hid (Calls Tryz.prog 152 #[.pointer (some ⟨p,0,none⟩)] w' fun e w2=>e=.returned (.bool xd)/\w'=w2) /\
   Hid (∃ S',∀ b:Bool,Sto w0 (w'.setCell ⟨t,4,none⟩ (.bool b)) t p q S' X.1 X.2.1 m x g c L gk ck K b/\Turn (Zj S q t gk x g) (Zj S' q t gk x g) w (w'.setCell ⟨t,4,none⟩ (.bool b)))):=zb (by
  refine(za HCM w2.drew gn kc hb2d hgn hbs2).mono ?_
  rintro e w4 ⟨rfl,S',hl,hp,ho,ht⟩
  have hst4:=((za H).below hb2d).pages hl hp ho ht (za HXL)
  have d3:=hst4.c3
  rw [za HLK] at d3
  have hdw4:=hl.down
  rw [za HXD] at hdw4
  exact⟨rfl,hst4.c1,d3,hst4.c0,hst4.c4,hst4.fr 4,zb hdw4,zb ⟨S',fun b=>(za H).undone hb2d hl hp ho ht (za HXL) b⟩⟩)
 clear hst2 hb2d hrow2 hbs2 hb12 hr2 hb2 HD HCM HLL HLK HROW HB1 HXL
 generalize (qz K L m).length=n at *
 clear hdw HDD HXD
 go_upto_region 3 with fail
 go_cut [26] from 15 to 25 (fun v wx=>v=.bool false/\wx=w2)
 case first =>
  cases cut with
  | false =>
   go_wp2
   go_meet
   case rel=>exact⟨rfl,rfl⟩
  | true =>
   by_cases hn0:n=0
   ·subst hn0
    go_wp2
    go_meet
    case rel=>exact⟨rfl,rfl⟩
   ·have hn1:(0:Int)<(n:Int):=by omega
    have hn2:¬ (n:Int)<=23:=by have:=hnc rfl;omega
    clear hnc
    go_wp2
    go_meet
    case rel=>exact⟨rfl,rfl⟩
 case rest =>
  obtain⟨rfl,hwx⟩:=hcut
  subst hwx
  go_wp2_with fail
  refine(za HDN).mono ?_
  rintro e w3 ⟨rfl,hw3⟩
  subst hw3
  clear HDN c0
  go_wp2_with fail
  go_region_held3 (fun w'=>w'.cell? ⟨t,1,none⟩=some (.pointer (some ⟨q,0,none⟩))/\w'.cell? ⟨t,3,none⟩=some (.slice (some ⟨gk,0,none⟩) N ck)) (first | go_keep | (go_split_ands;refine⟨?_,?_⟩ <;> go_keep))
   ((go_at_call 153;refine(za HC1).mono ?_;rintro e w4 ⟨rfl,r0,r1,r2,r3,r4,HDW,HX⟩))
  clear HC1 c1 c3 c4
  cases cut with
  | true =>
   go_wp2
   go_ret
   obtain⟨S',hs⟩:=za HX
   exact⟨by rw [za HER];rfl,S',(hs true).1,(hs true).2⟩
  | false =>
   cases dn with
   | true =>
    go_wp2
    go_ret
    obtain⟨S',hs⟩:=za HX
    exact⟨by rw [za HER];rfl,S',(hs false).1,(hs false).2⟩
   | false =>
    go_wp2_with fail
    refine(za HDW).mono ?_
    rintro e w5 ⟨rfl,hw5⟩
    subst hw5
    go_wp2
    go_ret
    obtain⟨S',hs⟩:=za HX
    exact⟨by rw [za HER];rfl,S',(hs xd).1,(hs xd).2⟩
set_option maxRecDepth 100000 in
theorem zkY(h:Sto w0 w t p q S D s m x g c L gk ck K cut)(hd:D.down=true)(a:Option Addr)(n cap:Nat) :
  Calls Tryz.prog 151 #[.pointer (some ⟨t,0,none⟩),.slice a n cap] w fun e w'=>e=.returned (zK 9)/\Below w.heap.size w w':=by
 have c0:=h.c0
 have hm:=h.m200
 have HO:=zb (zrm h.bsd.live (by rw [h.cnt];omega) hd)
 rw [zh 9 (by decide)] at HO ⊢
 clear h hd hm
 go_enter Tryz.func151,Tryz.ntmps151
 go_wp2_with fail
 refine(za HO).mono ?_
 rintro e w1 ⟨rfl,hb1⟩
 have HB:=zb hb1
 clear hb1 HO c0
 go_wp2
 go_ret
 exact⟨rfl,za HB⟩
set_option maxRecDepth 100000 in
set_option maxHeartbeats 1000000 in
theorem zhG(h:Sto w0 w t p q S D s m x g c L gk ck K true)(hd:D.down=true)(hn1:0<(qz K L m).length)(hn2:(qz K L m).length<=23) :
  Calls Tryz.prog 100 #[.pointer (some ⟨t,0,none⟩)] w fun e w'=>e=.returned (zK 9)/\Below w.heap.size w w':=by
 have hlL:=h.len
 have c2:=h.c2
 have hby:=qu x g c w0.heap.size L w h.hp
 rw [hlL] at hby
 have HBY:=zb hby
 have H:=zb h
 have HAN:Hid (∀ (W:World) (a:Option Addr) (n cap:Nat),Below w.heap.size w W->Calls Tryz.prog 151 #[.pointer (some ⟨t,0,none⟩),.slice a n cap] W fun e w'=>e=.returned (zK 9)/\Below w.heap.size w w'):=zb (fun W a n cap hb=>(zkY (h.below hb) hd a n cap).mono fun e w' ⟨he,hb2⟩=>⟨he,hb.trans (hb2.mono hb.size)⟩)
 clear h hby hd hlL
 generalize 32 * m=N at *
 rw [zh 9 (by decide)] at HAN ⊢
 go_enter Tryz.func100,Tryz.ntmps100
 go_wp2_with fail
 refine(za HBY).mono ?_
 rintro e w1 ⟨a1,kc,rfl,ho,hb1⟩
 have HB1:=zb hb1
 have HD:=zb (zag ((za H).below hb1))
 clear ho hb1 HBY c2
 go_wp2_with fail
 refine(za HD).mono ?_
 rintro e w2 ⟨v,rfl,hr2,hb2⟩
 obtain⟨an,cn2,rfl,_,_⟩:=zdz hr2
 have hb12:=(za HB1).trans (hb2.mono (za HB1).size)
 have c4:=((za H).below hb12).c4
 have HA:=zb (za HAN w2 a1 N kc hb12)
 clear hb12 hr2 hb2 HD HAN H HB1
 generalize (qz K L m).length=n at *
 have e1:(0:Int)<(n:Int):=by omega
 have e2:(n:Int)<=23:=by omega
 go_wp2_with fail
 refine(za HA).mono ?_
 rintro e w3 ⟨rfl,hb3⟩
 have HB3:=zb hb3
 clear hb3 HA
 go_wp2
 go_ret
 exact⟨rfl,za HB3⟩
theorem zhH(h:Sto w0 w t p q S D s m x g c L gk ck K cut)(hd:D.down=true)(h0:0<=s)(h1:s<4294967295) :
  Calls Tryz.prog 100 #[.pointer (some ⟨t,0,none⟩)] w fun e w'=>e=.returned (zK (if 23<(qz K L m).length then 4 else 9))/\∃ S',Sto w0 w' t p q S' D s m x g c L gk ck K cut/\Turn (Zj S q t gk x g) (Zj S' q t gk x g) w w':=by
 have hco:=zaS hd s m (dfP K L m)
 have hce:=QQ (K:=K) h.len
 have key:∀ b,cut=b->((b=true->¬ (0<(qz K L m).length/\(qz K L m).length<=23))->Calls Tryz.prog 100 #[.pointer (some ⟨t,0,none⟩)] w fun e w'=>e=.returned (zK (if 23<(qz K L m).length then 4 else 9))/\∃ S',Sto w0 w' t p q S' D s m x g c L gk ck K cut/\Turn (Zj S q t gk x g) (Zj S' q t gk x g) w w'):=fun b hb hnc=>by
  subst hb
  have he:(zc D s m (dfP K L m)).2.2=if 23<(qz K L m).length then 4 else 9:=by
   rw [hco,hce]
   by_cases h23:23<(qz K L m).length
   ·rw [if_pos h23,if_pos h23];rfl
   ·rw [if_neg h23,if_neg h23];rfl
  have hne:(zc D s m (dfP K L m)).2.2≠0:=by rw [he];split <;> decide
  have:=zeq h hnc h0 h1 hne
  rw [he,hco,hd] at this
  dsimp only at this
  rw [show(cut || (!true && true))=cut by cases cut <;> rfl] at this
  exact this
 cases hb:cut with
 | false=>rw [hb] at key;exact key false rfl (fun e=>by cases e)
 | true =>
  by_cases hn:0<(qz K L m).length/\(qz K L m).length<=23
  ·subst hb
   refine(zhG h hd hn.1 hn.2).mono ?_
   rintro e w' ⟨rfl,hbw⟩
   exact⟨by rw [if_neg (by omega)],S,h.below hbw,Turn.of_below hbw⟩
  ·rw [hb] at key;exact key true rfl (fun _=>hn)
end
end Go.Proofs.YtchmlnmhbfaclaaGreatDoor
namespace Go.Proofs.YtchmlnmhbfaclaaGreatDoor
open Go.RowKit
set_option linter.unusedVariables false
section
variable {w0 w:World} {p q:Nat} {S:Nat->Prop} {D:DS} {s:Int} {m:Nat}
set_option maxRecDepth 100000 in
theorem zcV{Q:Ending->World->Prop}(hop:Calls Tryz.prog 205 #[.pointer (some ⟨p,0,none⟩)] w fun e w'=>∃ q,e=.returned (.tuple #[.pointer (some ⟨q,0,none⟩),.nilIface]) /\
   Hid (Calls Tryz.prog 77 #[.pointer (some ⟨p,0,none⟩),.pointer (some ⟨q,0,none⟩)] w' fun e w2=>∃ a b,e=.returned (.tuple #[a,b])/\Hid (Q (.returned (.tuple #[a,b])) w2))) :
  Calls Tryz.prog 159 #[.pointer (some ⟨p,0,none⟩)] w fun e w'=>True/\Q e w':=by
 have HOP:=zb hop
 clear hop
 go_enter Tryz.func159,Tryz.ntmps159
 go_wp2_with fail
 refine(za HOP).mono ?_
 rintro e w1 ⟨q,rfl,HL⟩
 clear HOP
 go_wp2_with fail
 refine(za HL).mono ?_
 rintro e w2 ⟨a,b,rfl,HQ⟩
 clear HL
 go_wp2
 go_ret2
 exact⟨trivial,za HQ⟩
end
end Go.Proofs.YtchmlnmhbfaclaaGreatDoor
