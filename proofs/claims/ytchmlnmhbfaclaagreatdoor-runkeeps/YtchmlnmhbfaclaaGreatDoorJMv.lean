/-
  Parts of the proofs, joined by program.
-/
import Derived.Test.YtchmlnmhbfaclaaGreatDoorJMvp
import Derived.Test.YtchmlnmhbfaclaaGreatDoorJHq
import Derived.Test.YtchmlnmhbfaclaaGreatDoorJHp
import Derived.Shelf.SlSortCmp.QuietGrown
import Derived.Deep.RegionHeld3
import Derived.Test.YtchmlnmhbfaclaaGreatDoorJEy
import Derived.Test.YtchmlnmhbfaclaaGreatDoorJIn
import Derived.Deep.QuietTactic
namespace Go.Proofs.YtchmlnmhbfaclaaGreatDoor
open Go.RowKit Go.Sort
set_option linter.unusedVariables false
theorem zg5(x y:Int)(w:World)(hx:0<=x/\x<=100000)(hy:0<=y/\y<=100000) :
  Calls Tryz.prog 258 #[.agg #[.int .i64 x,.int .i64 y]] w fun e w'=>e=.returned (.int .i64 (x+y))/\∃ q os,w'=grow (w.drewN q) os:=by
 go_enter Tryz.func258,Tryz.ntmps258
 go_wp2
 go_ret
 exact⟨rfl,0,_,by rw [alloc_eq_grow];rfl⟩
theorem zy4{l:List (Int×Int×Int×Int)}{k:Nat}{e:(Int×Int×Int×Int)}(h:l[k]?=some e):(0,288) :: ((l.map exE).take (k+1))=((0,288) :: (l.map exE).take k)++[(e.2.1,e.2.2.1)]:=by
 rw [List.take_add_one,List.getElem?_map,h]
 rfl
set_option maxHeartbeats 2000000 in
theorem zqa(a:Option Addr)(cap:Nat)(l:List (Int×Int×Int×Int))(w:World)(hs:Sls enC 4 w a cap l)(hl:l.length<=40) :
  Calls Tryz.prog 255 #[.slice a l.length cap] w fun e w'=>∃ v,e=.returned v/\Lst exC 2 124 w' w.heap.size v ((0,288) :: l.map exE)/\Below w.heap.size w w':=by
 obtain⟨i0,hi0,hz0,hz1,hz2⟩:=info_parts zih
 have hcap:=hs.2.2.1
 have HS:=zb hs
 clear hs
 have HST:Hid (Lst exC 2 124 (w.alloc (.cells #[.int .i64 0,.int .i64 288] 124)) w.heap.size (.slice (some ⟨w.heap.size,0,none⟩) 1 1) [(0,288)]):=zb ⟨rfl,.inr ⟨w.heap.size,1,#[.int .i64 0,.int .i64 288],rfl,Nat.le_refl _,heap_alloc_new w _,Nat.le_refl _,by decide,rfl,rfl⟩⟩
 go_enter Tryz.func255,Tryz.ntmps255
 go_wp2_with fail
 go_loopw [3,10] (fun v iv wr=>∃ k:Nat,k<=l.length/\iv=.int .i64 k/\Lst exC 2 124 wr w.heap.size v ((0,288) :: (l.map exE).take k)/\Below w.heap.size w wr) (fun _ iv _=>l.length-(intOf iv).toNat)
 case atStart=>exact⟨0,Nat.zero_le _,rfl,za HST,(Below.refl _ _).alloc (Nat.le_refl _) _⟩
 case round =>
  obtain⟨k,hk,rfl,hown,hbel⟩:=hrel
  obtain⟨va,vm,vc,rfl⟩:=hown.shape
  by_cases hlt:k<l.length
  ·have hne:l≠[]:=by intro e;rw [e] at hlt;simp at hlt
   obtain⟨b1,o1,rfl,hc1⟩:=((za HS).below hbel).2.2.2 hne
   obtain⟨f,hf⟩:∃ f,l[k]?=some f:=⟨l[k],List.getElem?_eq_getElem hlt⟩
   obtain⟨q0,q1,q2,q3⟩:=Sls.ent (cap:=0) hc1 hf
   have HT:=zb (zy4 hf)
   have hml:((0,288) :: (l.map exE).take k).length<=41:=by simp;omega
   obtain⟨x,y,z,t⟩:=f
   dsimp only at *
   have hB1:=hbel.alloc hbel.size (.cells #[.int .i64 x,.int .i64 y,.int .i64 z,.int .i64 t] 126)
   have HB3:=zb (hB1.alloc hB1.size (.cells #[.int .i64 y,.int .i64 z] 124))
   have HO3:=zb ((hown.below ((Below.refl _ _).alloc (Nat.le_refl _) (.cells #[.int .i64 x,.int .i64 y,.int .i64 z,.int .i64 t] 126))).below ((Below.refl _ _).alloc (Nat.le_refl _) (.cells #[.int .i64 y,.int .i64 z] 124)))
   have HGN:Hid (((wr.alloc (.cells #[.int .i64 x,.int .i64 y,.int .i64 z,.int .i64 t] 126)).alloc (.cells #[.int .i64 y,.int .i64 z] 124)).heap[wr.heap.size+1]?=some (.cells (exC (y,z)).toArray 124 (0,0))):=zb (by
    have:=heap_alloc_new (wr.alloc (.cells #[.int .i64 x,.int .i64 y,.int .i64 z,.int .i64 t] 126)) (.cells #[.int .i64 y,.int .i64 z] 124)
    rw [qF] at this
    exact this)
   have hsz:=hbel.size
   clear hc1 hf hne hbel hB1 hown
   generalize (0,288) :: (l.map exE).take k=TK at *
   go_wp2_with (at_builtin;refine zr rfl _ _ 96 rfl w.heap.size i0 (.agg #[.int .i64 0,.int .i64 0]) 16 Tryz.underlying96 hi0 hz0 hz1 hz2 rfl (by decide) (by decide) _ _ rfl (za HO3) (wr.heap.size+1) (y,z) rfl (za HGN) rfl (zl3 _) (by omega) (by simp;omega) ?_)
   intro v9 w9 hown9 hbel9
   rw [<- za HT] at hown9
   have HO9:=zb hown9
   have HB9:=zb ((za HB3).trans hbel9)
   obtain⟨a9,m9,c9,rfl⟩:=hown9.shape
   clear hown9 hbel9 HO3 HB3 HGN q0 q1 q2 q3
   go_wp2
   go_roundw
   case rel=>exact⟨k+1,by omega,by go_num,za HO9,za HB9⟩
   case measure=>simp [intOf];omega
  ·obtain rfl:k=l.length:=by omega
   rw [List.take_of_length_le (by simp)] at hown
   have HO:=zb hown
   have HB:=zb hbel
   clear hown hbel
   go_wp2
   go_ret
   exact⟨_,rfl,za HO,za HB⟩
set_option maxRecDepth 100000 in
set_option maxHeartbeats 1000000 in
theorem zqh(q:Nat)(e:(Int×Int×Int×Int))(x y:Int)(w:World)(hx:0<=x/\x<=100000)(hy:0<=y/\y<=100000)(h0:w.cell? ⟨q,0,none⟩=some (.int .i64 x))(h1:w.cell? ⟨q,1,none⟩=some (.int .i64 y)) :
  Calls Tryz.prog 257 #[.agg #[.int .i64 e.1,.int .i64 e.2.1,.int .i64 e.2.2.1,.int .i64 e.2.2.2],.pointer (some ⟨q,0,none⟩)] w fun r w'=>r=.returned (.bool (e.2.1 == x+y))/\Below w.heap.size w w':=by
 obtain⟨z1,z2,z3,z4⟩:=e
 dsimp only
 have mixed:Tryz.prog.follows .mixedOrders=true:=by kernel_rfl
 have HC:=zb (fun W=>zg5 x y W hx hy)
 have hq:=block_lt_of_cell h0
 dsimp only at hq
 have hen:=EnB.new w (z1,z2,z3,z4)
 obtain⟨c0,c1,c2,c3⟩:=hen.cells
 have d0:(w.alloc (.cells #[.int .i64 z1,.int .i64 z2,.int .i64 z3,.int .i64 z4] 126)).cell? ⟨q,0,none⟩=some (.int .i64 x):=(((Below.refl w.heap.size w).alloc (Nat.le_refl _) _).cell (block_lt_of_cell h0)).trans h0
 have d1:(w.alloc (.cells #[.int .i64 z1,.int .i64 z2,.int .i64 z3,.int .i64 z4] 126)).cell? ⟨q,1,none⟩=some (.int .i64 y):=(((Below.refl w.heap.size w).alloc (Nat.le_refl _) _).cell (block_lt_of_cell h1)).trans h1
 dsimp only at c1
 have l0:=fun n os=>cell_grown (w:=w.alloc (.cells #[.int .i64 z1,.int .i64 z2,.int .i64 z3,.int .i64 z4] 126)) (by simp;omega) d0 n os
 have l1:=fun n os=>cell_grown (w:=w.alloc (.cells #[.int .i64 z1,.int .i64 z2,.int .i64 z3,.int .i64 z4] 126)) (by simp;omega) d1 n os
 have l2:=fun n os=>cell_grown (w:=w.alloc (.cells #[.int .i64 z1,.int .i64 z2,.int .i64 z3,.int .i64 z4] 126)) (by simp) c1 n os
 have hB:Below w.heap.size w (w.alloc (.cells #[.int .i64 z1,.int .i64 z2,.int .i64 z3,.int .i64 z4] 126)):=(Below.refl _ _).alloc (Nat.le_refl _) _
 have HF:=zb (fun n os=>hB.trans ((zae (w:=w.alloc (.cells #[.int .i64 z1,.int .i64 z2,.int .i64 z3,.int .i64 z4] 126)) (q:=n) (os:=os)).mono hB.size))
 clear hen c0 c1 c2 c3 d0 d1 h0 h1 hB
 generalize x+y=s at *
 go_enter Tryz.func257,Tryz.ntmps257
 go_wp2_with fail
 generalize w.alloc (.cells #[.int .i64 z1,.int .i64 z2,.int .i64 z3,.int .i64 z4] 126)=W at *
 go_quiet_grown ((go_at_call 258;with_reducible exact Calls.grown_of (za HC _)))
 go_wp2
 go_ret
 exact⟨rfl,za HF _ _⟩
set_option maxHeartbeats 1000000 in
theorem zfL(q:Nat)(x y:Int)(a:Option Addr)(cap:Nat)(l:List (Int×Int×Int×Int))(w:World)(hx:0<=x/\x<=100000)(hy:0<=y/\y<=100000)(hs:Sls enC 4 w a cap l)(h0:w.cell? ⟨q,0,none⟩=some (.int .i64 x))(h1:w.cell? ⟨q,1,none⟩=some (.int .i64 y)) :
  Calls Tryz.prog 256 #[.slice a l.length cap,.func (.func 257) #[] #[.pointer (some ⟨q,0,none⟩)]] w fun e w'=>∃ i:Int,e=.returned (.int .i64 i)/\((i=-1/\∀ f∈l,f.2.1≠x+y)\/∃ (k:Nat) (f:(Int×Int×Int×Int)),i=k/\l[k]?=some f/\f.2.1=x+y)/\Below w.heap.size w w':=by
 have hl:=hs.2.2.1
 have HS:=zb hs
 have H0:=zb h0
 have H1:=zb h1
 clear hs h0 h1
 go_enter Tryz.func256,Tryz.ntmps256
 go_wp2
 go_loopw [5,8] (fun _ iv wr=>∃ k:Nat,k<=l.length/\iv=.int .i64 k/\(∀ f∈l.take k,f.2.1≠x+y)/\Below w.heap.size w wr) (fun _ iv _=>l.length-(intOf iv).toNat)
 case atStart=>exact⟨0,Nat.zero_le _,rfl,fun f hf=>by simp at hf,Below.refl _ _⟩
 case round =>
  obtain⟨k,hk,rfl,hV,hbel⟩:=hrel
  by_cases hlt:k<l.length
  ·have hne:l≠[]:=by intro e;rw [e] at hlt;simp at hlt
   obtain⟨b1,o1,rfl,hc1⟩:=((za HS).below hbel).2.2.2 hne
   obtain⟨f,hf⟩:∃ f,l[k]?=some f:=⟨l[k],List.getElem?_eq_getElem hlt⟩
   obtain⟨q0,q1,q2,q3⟩:=Sls.ent (cap:=0) hc1 hf
   have g0:=(hbel.cell (block_lt_of_cell (za H0))).trans (za H0)
   have g1:=(hbel.cell (block_lt_of_cell (za H1))).trans (za H1)
   have HC:=zb (zqh q f x y wr hx hy g0 g1)
   have hst:l.take (k+1)=l.take k++[f]:=by rw [List.take_add_one,hf];rfl
   have HFK:=zb hf
   have HST:=zb hst
   have HV:=zb hV
   have HBEL:=zb hbel
   obtain⟨z1,z2,z3,z4⟩:=f
   dsimp only at *
   clear hc1 hf hne g0 g1 hbel hst hV
   generalize hs9:x+y=s at *
   have HS9:=zb hs9
   clear hs9
   cases he:(z2 == s)
   ·rw [he] at HC
    have HNE:=zb (beq_eq_false_iff_ne.1 he)
    clear he
    go_wp2_with (go_at_call 257;refine(za HC).mono ?_;rintro e w1 ⟨rfl,hb1⟩;have HB1:=zb ((za HBEL).trans (hb1.mono (za HBEL).size));clear hb1)
    go_roundw
    case rel =>
     refine⟨k+1,by omega,by go_num,fun f hf=>?_,za HB1⟩
     rw [za HST] at hf
     rcases List.mem_append.1 hf with hf | hf
     ·exact za HV f hf
     ·rw [List.mem_singleton.1 hf];exact za HNE
    case measure=>simp [intOf];omega
   ·rw [he] at HC
    have HEQ:=zb (eq_of_beq he)
    clear he
    go_wp2_with (go_at_call 257;refine(za HC).mono ?_;rintro e w1 ⟨rfl,hb1⟩;have HB1:=zb ((za HBEL).trans (hb1.mono (za HBEL).size));clear hb1)
    go_ret
    exact⟨k,rfl,.inr ⟨k,_,rfl,za HFK,(za HEQ).trans (za HS9).symm⟩,za HB1⟩
  ·have hkq:k=l.length:=by omega
   rw [hkq,List.take_length] at hV
   have hge:¬ ((k:Int)<(l.length:Int)):=by omega
   have HV:=zb hV
   have HBEL:=zb hbel
   clear hV hkq hlt hk hbel
   go_wp2
   go_ret
   first
    | exact⟨-1,rfl,.inl ⟨rfl,za HV⟩,za HBEL⟩
    | exact⟨-1,rfl,.inl ⟨rfl,fun a b c d hm=>za HV (a,b,c,d) hm⟩,za HBEL⟩
theorem EnB.at1{w:World}{g:Nat}{e:(Int×Int×Int×Int)}(h:EnB w g e)(z:Int):EnB (w.setCell ⟨g,1,none⟩ (.int .i64 z)) g (e.1,z,e.2.2):=heap_setCell_same w g 1 _ _ (.int .i64 z) h
set_option maxRecDepth 100000 in
set_option maxHeartbeats 2000000 in
theorem zrC(a:Option Addr)(cap:Nat)(L:List Int)(h:Int)(x:Nat)(w:World)(hbs:Bs w a cap L)(hf:Fine L)(h1:1<=h)(h2:h<=40)(ht:zg L h≠0)(hx:288<=x)(hle:(x:Int)<=(ze L h).2.1) :
  Calls Tryz.prog 259 #[.slice a L.length cap,.agg #[.int .i64 (ze L h).1,.int .i64 (ze L h).2.1,.int .i64 (ze L h).2.2.1,.int .i64 (ze L h).2.2.2],.int .i64 x] w (ztx w (mvB L h x) .nilIface):=by
 have mixed:Tryz.prog.follows .mixedOrders=true:=by kernel_rfl
 have hen:=hf.ent h1 h2 ht
 have he:Za L (h,(x:Int),(ze L h).2.2.1,(ze L h).2.2.2)=0:=qe.2 ⟨hf.len0,zm.2 ⟨h1,h2⟩,hen.2.2.2.2.1,hen.2.2.2.2.2,hen.2.1,hen.2.2.1,by dsimp only;omega,by dsimp only;omega⟩
 have hPl:=zcv he
 have hob:(zP L h).2=(L.drop (ze L h).2.1.toNat).take (ze L h).2.2.1.toNat:=by
  unfold zP zhY zbx
  rw [if_neg ht]
 have hl:=hf.len
 have hLl:=hbs.2.2.1
 have hmv:mvB L h x=splice (putL L (h,(x:Int),(ze L h).2.2.1,(ze L h).2.2.2)) x (zP L h).2:=rfl
 have heq:(ze L h).1=h:=rfl
 have hsp:splice L (plc h) (zax (h,(x:Int),(ze L h).2.2.1,(ze L h).2.2.2))=putL L (h,(x:Int),(ze L h).2.2.1,(ze L h).2.2.2):=by unfold putL;rw [if_pos he]
 have HP:=zb (fun(W:World) (hW:Below w.heap.size w W)=>znt a cap L h (x:Int) (ze L h).2.2.1 (ze L h).2.2.2 W (hbs.below hW) he)
 rw [hsp] at HP
 unfold ztx at HP
 rw [hPl] at HP
 rw [heq,hmv,hob]
 clear hmv hob he hsp heq
 generalize ze L h=E at *
 obtain⟨e1,e2,e3,e4⟩:=E
 dsimp only at *
 obtain⟨n1,n2,n3,n4,n5,n6⟩:=hen
 obtain⟨X,rfl⟩:=Int.eq_ofNat_of_zero_le (show 0<=e2 by omega)
 obtain⟨Y,rfl⟩:=Int.eq_ofNat_of_zero_le (show 0<=e3 by omega)
 rw [Int.toNat_natCast,Int.toNat_natCast]
 obtain⟨p1,hs1,hb1⟩:=slice_lohi (P:=Tryz.prog) (t:=29) Tryz.underlying29 zx hbs X (X+Y) (by omega) (by omega)
 rw [show X+Y-X=Y by omega,show((X+Y:Nat):Int)=(X:Int)+Y by omega] at hs1
 rw [show X+Y-X=Y by omega] at hb1
 have hbl:((L.drop X).take Y).length=Y:=by simp;omega
 have hbne:(L.drop X).take Y≠[]:=by intro e;rw [e] at hbl;simp at hbl;omega
 have HBODY:=zb hb1
 have HBL:=zb hbl
 have HBNE:=zb hbne
 have HC:=zb (fun W=>zg5 (X:Int) (Y:Int) W (by omega) (by omega))
 have hB0:Below w.heap.size w (w.alloc (.cells #[.int .i64 h,.int .i64 X,.int .i64 Y,.int .i64 e4] 126)):=(Below.refl _ _).alloc (Nat.le_refl _) _
 have hen0:=EnB.new w (h,(X:Int),(Y:Int),e4)
 obtain⟨c0,c1,c2,c3⟩:=hen0.cells
 dsimp only at c1 c2
 have k1:=fun n os=>cell_grown hen0.lt c1 n os
 have k2:=fun n os=>cell_grown hen0.lt c2 n os
 have HG:=zb (fun n os=>(show Below w.heap.size w (grow ((w.alloc (.cells #[.int .i64 h,.int .i64 X,.int .i64 Y,.int .i64 e4] 126)).drewN n) os)/\EnB (grow ((w.alloc (.cells #[.int .i64 h,.int .i64 X,.int .i64 Y,.int .i64 e4] 126)).drewN n) os) w.heap.size (h,(X:Int),(Y:Int),e4) from⟨hB0.trans (zae.mono hB0.size),hen0.below zae hen0.lt⟩))
 have HBS:=zb hbs
 have HFIT:Hid (x+Y<=(putL L (h,(x:Int),(Y:Int),e4)).length):=zb (by rw [hPl];omega)
 have HPL:=zb hPl
 clear hbs hf ht hb1 hbl hbne hen0 c0 c1 c2 c3 hB0 hPl
 generalize putL L (h,(x:Int),(Y:Int),e4)=P at *
 generalize (L.drop X).take Y=BO at *
 generalize hN:L.length=N at *
 have HN:=zb hN
 clear hN
 go_enter Tryz.func259,Tryz.ntmps259
 go_wp2_with fail
 generalize w.alloc (.cells #[.int .i64 h,.int .i64 X,.int .i64 Y,.int .i64 e4] 126)=W at *
 go_quiet_grown ((go_at_call 258;with_reducible exact Calls.grown_of (za HC _)))
 obtain⟨hb2,hen2⟩:=za HG nq osq
 clear HG HC k1 k2
 generalize grow (W.drewN nq) osq=w2 at *
 obtain⟨c0,c1,c2,c3⟩:=hen2.cells
 have hfr2:=hen2.fr 1
 have hlt2:=hen2.lt
 have hen3:=hen2.at1 (x:Int)
 have hb3:Below w.heap.size w (w2.setCell ⟨w.heap.size,1,none⟩ (.int .i64 x)):=hb2.setCell (Nat.le_refl _) _
 have HP3:=zb (za HP _ hb3)
 obtain⟨d0,d1,d2,d3⟩:=hen3.cells
 have HB3:=zb hb3
 dsimp only at c0 c1 c2 c3 d0 d1 d2 d3
 clear hen2 hb2 hen3 hb3 HP
 go_wp2_with fail
 refine(za HP3).mono ?_
 rintro e w4 ⟨g4,c4,cur4,rfl,hr4,hb4⟩
 have hc4:=hr4.2.2.1
 rw [za HPL] at hc4
 have hcut:=zl9 (P:=Tryz.prog) Tryz.underlying29 zx g4 c4 N x (by omega) hc4 (by omega)
 have hB4:=(za HB3).trans (hb4.mono (za HB3).size)
 have hcopy:Sem.run Tryz.prog (Builtin.copy_ #[29,29] 3 #[.slice (some ⟨g4,x,none⟩) (N-x) (c4-x),.slice p1 Y (cap-X)]) w4=.ok (.int .i64 Y) (za8 w4 g4 cur4 x BO):=by
  have:=ZS (P:=Tryz.prog) w4 29 29 3 Tryz.underlying29 zx _ g4 x (N-x) (c4-x) c4 cur4 p1 (cap-X) P BO (by rw [za HBL];omega) (za HBNE) (by rw [za HBL];exact za HFIT) hr4 ((za HBODY).below hB4)
  rw [za HBL] at this
  exact this
 have HR:=zb ((zcb hr4 (show x+BO.length<=_ by rw [za HBL];exact za HFIT)).low (za HB3).size)
 have HB:=zb (zbA (cur:=cur4) (l:=BO) (off:=x) hB4 (Nat.le_trans (za HB3).size hr4.1))
 have HLEN:=zb (length_splice (z:=P) (l:=BO) (off:=x) (by rw [za HBL];exact za HFIT))
 clear hr4 hb4 hB4 HP3 c0 c1 c2 c3 d0 d1 d2 d3 hfr2
 go_wp2
 go_ret2
 exact⟨g4,c4,_,by rw [za HLEN,za HPL];rfl,za HR,za HB⟩
theorem zpo{L:List Int}(hf:Fine L){x y:(Int×Int×Int×Int)}(hx:x∈zo L 40)(hy:y∈zo L 40)(h:x.2.1=y.2.1):x=y:=by
 by_cases hne:x.1=y.1
 ·exact zit hx hy hne
 ·have h1:=zbd hf hx hy hne
  have h2:=Qi hf hx
  have h3:=Qi hf hy
  unfold ZI at h1
  omega
theorem zCG{L:List Int}(hf:Fine L):∀ e∈zeI L,InI e:=fun e he=>by
 have hl:=hf.len
 unfold zeI at he
 unfold InI
 rcases List.mem_cons.1 he with rfl | he
 ·dsimp only;omega
 ·obtain⟨x,hx,rfl⟩:=List.mem_map.1 he
  have:=Qi hf hx
  unfold exE
  dsimp only
  omega
theorem zi9{w:World}{a:Option Addr}{cap:Nat}{L:List Int}(hbs:Bs w a cap L)(hf:Fine L) :
  Calls Tryz.prog 130 #[.slice a L.length cap] w fun e w1=>∃ a1 c1,e=.returned (.tuple #[.slice a1 (zo L 40).length c1,.nilIface])/\Sls enC 4 w1 a1 c1 (zo L 40)/\Below w.heap.size w w1 /\
   Hid (Calls Tryz.prog 255 #[.slice a1 (zo L 40).length c1] w1 fun e w2=>∃ a2 c2,e=.returned (.slice a2 (zeI L).length c2) /\
    Hid (Calls Tryz.prog 212 #[.int .i64 L.length,.slice a2 (zeI L).length c2] w2 fun e w3=>∃ a3 c3,e=.returned (.tuple #[.slice a3 (zy (L.length:Int) (zeI L)).length c3,.nilIface])/\Exs w3 a3 c3 (zy (L.length:Int) (zeI L))/\Sls enC 4 w3 a1 c1 (zo L 40)/\Below w.heap.size w w3)):=by
 have hel:=qj L 40
 have hch:=zmA hf
 have hsm:=QK hch
 have hl:=hf.len
 refine(zan a cap L w hbs hf.len0).mono ?_
 rintro e w1 ⟨v1,rfl,ho1,hb1⟩
 obtain⟨a1,c1,rfl,hs1⟩:=ho1.sls zda (by omega)
 refine⟨a1,c1,rfl,hs1,hb1,zb ?_⟩
 refine(zqa a1 c1 (zo L 40) w1 hs1 hel).mono ?_
 rintro e w2 ⟨v2,rfl,ho2,hb2⟩
 have ho2':ExO w2 w1.heap.size v2 (zeI L):=ho2
 obtain⟨a2,c2,rfl,hx2⟩:=ho2'.exs (zCG hf) (by have:=zeO L;omega)
 refine⟨a2,c2,rfl,zb ?_⟩
 refine(za9 (L.length:Int) a2 c2 (zeI L) w2 hx2).mono ?_
 rintro e w3 ⟨v3,rfl,ho3,hb3⟩
 obtain⟨a3,c3,rfl,hx3⟩:=ho3.exs (fun e he=>by have:=hsm.1 e he;unfold InI;omega) (by omega)
 have hB2:=hb1.trans (hb2.mono hb1.size)
 exact⟨a3,c3,by rw [hch];rfl,hx3,(hs1.below hb2).below hb3,hB2.trans (hb3.mono hB2.size)⟩
set_option maxRecDepth 100000 in
set_option maxHeartbeats 2000000 in
theorem zrz(a:Option Addr)(cap:Nat)(L:List Int)(w:World)(hbs:Bs w a cap L)(hf:Fine L)(h:mvS L=none) :
  Calls Tryz.prog 208 #[.slice a L.length cap] w fun e w'=>e=.returned (.tuple #[.slice none 0 0,.bool false,.nilIface])/\Below w.heap.size w w':=by
 have HR:=zb (zi9 hbs hf)
 have hl:=hf.len
 have hel:=qj L 40
 have htl:=zeO L
 have hcase:=zyq hf h
 have hsm:=(QK (zmA hf)).1
 clear hbs hf h
 generalize zy (L.length:Int) (zeI L)=FR at *
 generalize zo L 40=EN at *
 generalize (zeI L).length=TN at *
 generalize L.length=N at *
 rcases hcase with rfl | ⟨⟨x,y⟩,rfl,hno⟩
 ·go_enter Tryz.func208,Tryz.ntmps208
  go_wp2_with fail
  refine(za HR).mono ?_
  rintro e w1 ⟨a1,c1,rfl,_,_,HT⟩
  clear HR
  go_wp2_with fail
  refine(za HT).mono ?_
  rintro e w2 ⟨a2,c2,rfl,HF⟩
  clear HT
  go_wp2_with fail
  refine(za HF).mono ?_
  rintro e w3 ⟨a3,c3,rfl,_,_,hb3⟩
  have HB:=zb hb3
  clear HF hb3
  go_wp2
  go_ret3
  exact⟨rfl,za HB⟩
 ·have hxy:=hsm (x,y) (by simp)
  dsimp only at hxy hno
  have HNO:=zb hno
  clear hsm hno
  go_enter Tryz.func208,Tryz.ntmps208
  go_wp2_with fail
  refine(za HR).mono ?_
  rintro e w1 ⟨a1,c1,rfl,_,_,HT⟩
  clear HR
  go_wp2_with fail
  refine(za HT).mono ?_
  rintro e w2 ⟨a2,c2,rfl,HF⟩
  clear HT
  go_wp2_with fail
  refine(za HF).mono ?_
  rintro e w3 ⟨a3,c3,rfl,hx3,hs3,hb3⟩
  obtain⟨b3,o3,rfl,hc3⟩:=hx3.2.2.2 (by simp)
  obtain⟨q0,q1⟩:=hc3 0 (by simp)
  simp only [Nat.zero_mul,Nat.add_zero,List.getD_cons_zero] at q0 q1
  have hB4:Below w3.heap.size w3 (w3.alloc (.cells #[.int .i64 x,.int .i64 y] 124)):=(Below.refl _ _).alloc (Nat.le_refl _) _
  have HI:=zb (zfL w3.heap.size x y a1 c1 EN (w3.alloc (.cells #[.int .i64 x,.int .i64 y] 124)) (by omega) (by omega) (hs3.below hB4) (by rw [cell_of_row _ _ _ _ _ (0,0) (heap_alloc_new w3 _)];rfl) (by rw [cell_of_row _ _ _ _ _ (0,0) (heap_alloc_new w3 _)];rfl))
  have HB:=zb (hb3.trans (hB4.mono hb3.size))
  clear HF hb3 hx3 hs3 hc3 hB4
  go_wp2_with fail
  refine(za HI).mono ?_
  rintro e w5 ⟨i,rfl,hi,hb5⟩
  have HB5:=zb ((za HB).trans (hb5.mono (za HB).size))
  rcases hi with ⟨rfl,_⟩ | ⟨k,f,_,hk,hat⟩
  ·clear hb5 HI HB HNO
   go_wp2
   go_ret3
   exact⟨rfl,za HB5⟩
  ·exact absurd hat (za HNO f (List.mem_of_getElem? hk))
set_option maxRecDepth 100000 in
set_option maxHeartbeats 4000000 in
theorem zoS(a:Option Addr)(cap:Nat)(L:List Int)(w:World)(hbs:Bs w a cap L)(hf:Fine L){c:List Int}(h:mvS L=some c) :
  Calls Tryz.prog 208 #[.slice a L.length cap] w fun e w'=>∃ g cp cur,e=.returned (.tuple #[.slice (some ⟨g,0,none⟩) L.length cp,.bool true,.nilIface])/\Row w' w.heap.size g cp cur c/\Below w.heap.size w w':=by
 have HR:=zb (zi9 hbs hf)
 have hl:=hf.len
 have hel:=qj L 40
 have htl:=zeO L
 have has:=(zbX hf h).1
 obtain⟨⟨x,y⟩,r,i,E,hfr,hi,hat,_,hc,hx,hy⟩:=zyp hf h
 have hem:=List.mem_of_getElem? hi
 have hin:=Qi hf hem
 have hsm:=(QK (zmA hf)).1 (x,y) (by rw [hfr];simp)
 have HUN:=zb (fun(f:(Int×Int×Int×Int)) (hfm:f∈zo L 40) (he:f.2.1=x+y)=>zpo hf hfm hem (he.trans hat.symm))
 dsimp only at *
 obtain⟨X,rfl⟩:=Int.eq_ofNat_of_zero_le (show 0<=x by omega)
 rw [Int.toNat_natCast] at hc
 have HM:=zb (fun(W:World) (hW:Below w.heap.size w W)=>zrC a cap L E.1 X W (hbs.below hW) hf hin.2.1 hin.2.2.1 hin.2.2.2.1 (by omega) (by rw [<- hin.1];omega))
 rw [<- hin.1,<- hc] at HM
 unfold ztx at HM
 rw [has.len] at HM
 have HNE:=zb (show ∃ f∈zo L 40,f.2.1=(X:Int)+y from⟨E,hem,hat⟩)
 rw [hfr] at HR
 clear hbs hf h hfr hi hat hem hin hc has
 generalize zo L 40=EN at *
 generalize (zeI L).length=TN at *
 generalize L.length=N at *
 have hr0:¬ ((r.length:Int)+1=0):=by omega
 go_enter Tryz.func208,Tryz.ntmps208
 go_wp2_with fail
 refine(za HR).mono ?_
 rintro e w1 ⟨a1,c1,rfl,_,_,HT⟩
 clear HR
 go_wp2_with fail
 refine(za HT).mono ?_
 rintro e w2 ⟨a2,c2,rfl,HF⟩
 clear HT
 go_wp2_with fail
 refine(za HF).mono ?_
 rintro e w3 ⟨a3,c3,rfl,hx3,hs3,hb3⟩
 obtain⟨b3,o3,rfl,hc3⟩:=hx3.2.2.2 (by simp)
 obtain⟨q0,q1⟩:=hc3 0 (by simp)
 simp only [Nat.zero_mul,Nat.add_zero,List.getD_cons_zero] at q0 q1
 have hrl:((X:Int),y) :: r≠[]:=by simp
 have hB4:Below w3.heap.size w3 (w3.alloc (.cells #[.int .i64 X,.int .i64 y] 124)):=(Below.refl _ _).alloc (Nat.le_refl _) _
 have f0:(w3.alloc (.cells #[.int .i64 X,.int .i64 y] 124)).cell? ⟨w3.heap.size,0,none⟩=some (.int .i64 X):=by rw [cell_of_row _ _ _ _ _ (0,0) (heap_alloc_new w3 _)];rfl
 have f1:(w3.alloc (.cells #[.int .i64 X,.int .i64 y] 124)).cell? ⟨w3.heap.size,1,none⟩=some (.int .i64 y):=by rw [cell_of_row _ _ _ _ _ (0,0) (heap_alloc_new w3 _)];rfl
 have HI:=zb (zfL w3.heap.size X y a1 c1 EN (w3.alloc (.cells #[.int .i64 X,.int .i64 y] 124)) (by omega) (by omega) (hs3.below hB4) f0 f1)
 have HS:=zb (hs3.below hB4)
 have F0:=zb f0
 have HB:=zb (hb3.trans (hB4.mono hb3.size))
 have hcl3:=hx3.2.2.1
 rw [List.length_cons] at hcl3 ⊢
 clear HF hb3 hx3 hs3 hc3 hB4 f0 f1
 generalize hRL:r.length+1=RL at *
 have hRLi:(0:Int)<(RL:Int):=by omega
 clear hRL
 go_wp2_with fail
 refine(za HI).mono ?_
 rintro e w5 ⟨i5,rfl,hi5,hb5⟩
 have hB5:=(za HB).trans (hb5.mono (za HB).size)
 rcases hi5 with ⟨rfl,hno⟩ | ⟨k,f,rfl,hk,hat5⟩
 ·obtain⟨f,hf1,hf2⟩:=za HNE
  exact absurd hf2 (hno f hf1)
 ·obtain rfl:=za HUN f (List.mem_of_getElem? hk) hat5
  have hkl:=(List.getElem?_eq_some_iff.1 hk).1
  obtain⟨b1,o1,rfl,hc1⟩:=((za HS).below hb5).2.2.2 (by intro e;rw [e] at hkl;simp at hkl)
  obtain⟨e0,e1,e2,e3⟩:=Sls.ent (cap:=0) hc1 hk
  have g0:=(hb5.cell (p:=⟨w3.heap.size,0,none⟩) (block_lt_of_cell (za F0))).trans (za F0)
  have hbd:Below w5.heap.size w5 w5.drew:=qk (Below.refl _ _)
  have HM5:Hid (Calls Tryz.prog 259 #[.slice a N cap,.agg #[.int .i64 f.1,.int .i64 f.2.1,.int .i64 f.2.2.1,.int .i64 f.2.2.2],.int .i64 X] w5.drew fun e w'=>∃ g cp cur,e=.returned (.tuple #[.slice (some ⟨g,0,none⟩) N cp,.nilIface])/\Row w' w.heap.size g cp cur c/\Below w.heap.size w w'/\w'.cell? ⟨b1,o1+k * 4,none⟩=some (.int .i64 f.1)/\w'.cell? ⟨b1,o1+k * 4+1,none⟩=some (.int .i64 f.2.1)/\w'.cell? ⟨b1,o1+k * 4+2,none⟩=some (.int .i64 f.2.2.1)/\w'.cell? ⟨b1,o1+k * 4+3,none⟩=some (.int .i64 f.2.2.2)/\w'.cell? ⟨w3.heap.size,0,none⟩=some (.int .i64 X)):=zb (by
   have hBd:=hB5.trans (hbd.mono hB5.size)
   refine(za HM _ hBd).mono ?_
   rintro e w' ⟨g,cp,cur,rfl,hr,hb⟩
   have hb':=hbd.trans (hb.mono hbd.size)
   exact⟨g,cp,cur,rfl,hr.low hBd.size,hBd.trans (hb.mono hBd.size),(hb'.cell (block_lt_of_cell e0)).trans e0,(hb'.cell (block_lt_of_cell e1)).trans e1,(hb'.cell (block_lt_of_cell e2)).trans e2,(hb'.cell (block_lt_of_cell e3)).trans e3,(hb'.cell (p:=⟨w3.heap.size,0,none⟩) (block_lt_of_cell g0)).trans g0⟩)
  obtain⟨z1,z2,z3,z4⟩:=f
  dsimp only at *
  have hkE:(k:Int)<(EN.length:Int):=by omega
  clear hb5 hB5 HI HS HB HNE HUN HM hk hc1 F0 hat5 hbd
  generalize EN.length=M at *
  go_wp2_with fail
  go_region_held3 (fun w'=>w'.cell? ⟨b1,o1+k * 4,none⟩=some (.int .i64 z1)/\w'.cell? ⟨b1,o1+k * 4+1,none⟩=some (.int .i64 z2)/\w'.cell? ⟨b1,o1+k * 4+2,none⟩=some (.int .i64 z3)/\w'.cell? ⟨b1,o1+k * 4+3,none⟩=some (.int .i64 z4)/\w'.cell? ⟨w3.heap.size,0,none⟩=some (.int .i64 X)) (first | go_keep | (go_split_ands;refine⟨?_,?_,?_,?_,?_⟩ <;> go_keep))
   ((go_at_call 259;refine(za HM5).mono ?_;rintro e w6 ⟨g6,c6,cur6,rfl,hr6,hb6,r0,r1,r2,r3,r4⟩))
  have HR6:=zb hr6
  have HB6:=zb hb6
  clear hr6 hb6 HM5 e0 e1 e2 e3 g0 r0 r1 r2 r3 r4
  go_wp2_with fail
  go_quiet (fail)
  go_wp2
  go_ret3
  exact⟨g6,c6,cur6,rfl,⟨(za HR6).1,(za HR6).2⟩,below_draws (za HB6) nq⟩
theorem zys{L c:List Int}(hb:Byt L)(h:mvS L=some c):Byt c:=by
 unfold mvS at h
 cases h2:zeT 288 (Ql L) with
 | none=>rw [h2] at h;cases h
 | some x =>
  rw [h2] at h
  obtain rfl:mvB L x.1.1 x.2.toNat=c:=by simpa using h
  exact zry hb _ _
set_option maxRecDepth 100000 in
set_option maxHeartbeats 1000000 in
theorem zlD(a:Option Addr)(cap:Nat)(L:List Int)(w:World)(hbs:Bs w a cap L)(hf:Fine L) :
  Calls Tryz.prog 160 #[.slice a L.length cap] w fun e w'=>∃ a' c',e=.returned (.tuple #[.slice a' L.length c',.int .i64 (mvN 288 (Ql L)),.nilIface])/\Bs w' a' c' (mvA L)/\Below w.heap.size w w':=by
 have h40:=zb3 (L:=L)
 have HST:Hid (∃ M:List Int,Fine M/\M.length=L.length/\0+mvN 288 (Ql M)=mvN 288 (Ql L)/\mvA M=mvA L/\Bs w a cap M):=zb ⟨L,hf,rfl,Nat.zero_add _,rfl,hbs⟩
 have hLl:=hbs.2.2.1
 clear hbs hf
 generalize mvN 288 (Ql L)=K at *
 generalize mvA L=MA at *
 generalize hN:L.length=N at *
 clear hN
 go_enter Tryz.func160,Tryz.ntmps160
 go_wp2_with fail
 go_loopw [0,5] (fun bv nv wr=>∃ (k:Nat) (q:Option Addr) (cq:Nat) (M:List Int),k<=K/\bv=.slice q N cq/\nv=.int .i64 k/\Fine M/\M.length=N/\k+mvN 288 (Ql M)=K/\mvA M=MA/\Bs wr q cq M/\Below w.heap.size w wr) (fun _ nv _=>41-(intOf nv).toNat)
 case atStart =>
  obtain⟨M,m1,m2,m3,m4,m5⟩:=za HST
  exact⟨0,a,cap,M,Nat.zero_le _,rfl,rfl,m1,m2,m3,m4,m5,Below.refl _ _⟩
 case round =>
  obtain⟨k,q,cq,M,hk,rfl,rfl,m1,m2,m3,m4,m5,hbel⟩:=hrel
  cases hq:mvS M with
  | none =>
   have HC:=zb (zrz q cq M wr m5 m1 hq)
   rw [m2] at HC
   have hK:k=K:=by have:=(zm8 m1 hq).2;omega
   have HA:Hid (M=MA):=zb (by rw [<- m4,zu2 hq])
   have HBS:=zb m5
   have HBEL:=zb hbel
   have HK:=zb hK
   clear m1 m2 m3 m4 m5 hbel hK hq HST
   go_wp2_with fail
   refine(za HC).mono ?_
   rintro e w1 ⟨rfl,hb1⟩
   have HB1:=zb ((za HBEL).trans (hb1.mono (za HBEL).size))
   have HBS1:=zb ((za HBS).below hb1)
   clear hb1 HC HBS HBEL
   go_wp2
   go_ret3
   exact⟨q,cq,by rw [za HK];rfl,by rw [<- za HA];exact za HBS1,za HB1⟩
  | some c =>
   have HC:=zb (zoS q cq M wr m5 m1 hq)
   rw [m2] at HC
   obtain⟨has,hn⟩:=zbX m1 hq
   have hby:=zys m5.1 hq
   have hcl:c.length=N:=by rw [has.len];exact m2
   have H1:=zb has.fine
   have H2:=zb hcl
   have H3:Hid (k+1+mvN 288 (Ql c)=K):=zb (by omega)
   have H4:Hid (mvA c=MA):=zb (by rw [<- m4,zu1 m1 hq])
   have hkK:k+1<=K:=by omega
   have HBY:=zb hby
   have HBEL:=zb hbel
   clear m1 m2 m3 m4 m5 hbel hq HST has hn hby hcl
   go_wp2_with fail
   refine(za HC).mono ?_
   rintro e w1 ⟨g1,c1,cur1,rfl,hr1,hb1⟩
   have HB1:=zb ((za HBEL).trans (hb1.mono (za HBEL).size))
   have HBS1:=zb (hr1.bs (za HBY) (by rw [za H2];omega))
   clear hb1 HC HBEL hr1
   go_wp2
   go_roundw
   case rel=>exact⟨k+1,some ⟨g1,0,none⟩,c1,c,hkK,rfl,by go_num,za H1,za H2,za H3,za H4,za HBS1,za HB1⟩
   case measure=>simp [intOf];omega
section
variable {w:World} {B p g c:Nat} {L:List Int}
set_option maxRecDepth 100000 in
theorem zrA(h:Hp w B p g c L)(hB:B<=w.heap.size) :
  Calls Tryz.prog 105 #[.pointer (some ⟨p,0,none⟩)] w fun e w'=>e=.returned (.tuple #[.int .i64 (mvN 288 (Ql L)),.nilIface])/\∃ g' c',Hp w' B p g' c' (mvA L)/\Turn (foot p g) (foot p g') w w':=by
 have HB:=zb (qu p g c B L w h)
 obtain⟨has,_⟩:=zg6 h.fine
 have hbyt:=h.byt
 have hlen:=h.len
 have HS:=zb (fun(W:World) (a1:Option Addr) (c1:Nat) (hbs:Bs W a1 c1 L)=>zlD a1 c1 L W hbs h.fine)
 have HR:=zb (fun(W:World) (hW:Below w.heap.size w W) (a2:Option Addr) (c2:Nat) (hbs:Bs W a2 c2 (mvA L))=>zcd (h.below hW) (Nat.le_trans hB hW.size) hbs has.fine has.len)
 rw [has.len] at HR
 have HBY:=zb hbyt
 clear h hbyt has
 generalize mvN 288 (Ql L)=K at *
 generalize mvA L=MA at *
 generalize hN:L.length=N at *
 have HN:=zb hN
 clear hN
 go_enter Tryz.func105,Tryz.ntmps105
 go_wp2_with fail
 refine(za HB).mono ?_
 rintro e w1 ⟨a1,c1,rfl,ho1,hb1⟩
 obtain⟨a1',c1',e1,hbs1⟩:=ho1.bs (za HBY) (by rw [za HN];omega)
 rw [za HN] at e1
 simp only [Value.slice.injEq,true_and] at e1
 obtain⟨rfl,rfl⟩:=e1
 have HS1:=zb (za HS w1 a1 c1 hbs1)
 have HB1:=zb hb1
 clear ho1 hb1 hbs1 HB HS
 go_wp2_with fail
 refine(za HS1).mono ?_
 rintro e w2 ⟨a2,c2,rfl,hbs2,hb2⟩
 have hB2:=(za HB1).trans (hb2.mono (za HB1).size)
 have HR2:=zb (za HR w2 hB2 a2 c2 hbs2)
 have HB2:=zb hB2
 clear hbs2 hb2 hB2 HS1 HR HB1
 go_wp2_with fail
 refine(za HR2).mono ?_
 rintro e w3 ⟨rfl,g3,c3,hh3,ht3⟩
 have HH3:=zb hh3
 have HT3:=zb ((Turn.of_below (S:=foot p g) (za HB2)).trans ht3)
 clear hh3 ht3 HR2 HB2
 go_wp2
 go_ret2
 first
  | exact⟨rfl,g3,c3,za HH3,za HT3⟩
  | exact⟨rfl,g3,⟨c3,za HH3⟩,za HT3⟩
end
end Go.Proofs.YtchmlnmhbfaclaaGreatDoor
