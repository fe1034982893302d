/-
  Parts of the proofs, joined by program.
-/
import Derived.Test.YtchmlnmhbfaclaaGreatDoorJChp
import Derived.Test.YtchmlnmhbfaclaaGreatDoorJIn
import Derived.Test.YtchmlnmhbfaclaaGreatDoorJEy
import Derived.Test.YtchmlnmhbfaclaaGreatDoorJHp
import Derived.Test.YtchmlnmhbfaclaaGreatDoorJCut
import Derived.Test.YtchmlnmhbfaclaaGreatDoorJExa
import Derived.Test.YtchmlnmhbfaclaaGreatDoorJHal
import Derived.Test.YtchmlnmhbfaclaaGreatDoorJCh
import Derived.Deep.RegionHeld3
import Derived.Test.YtchmlnmhbfaclaaGreatDoorJRtp
import Derived.Test.YtchmlnmhbfaclaaGreatDoorJCi
namespace Go.Proofs.YtchmlnmhbfaclaaGreatDoor
open Go.RowKit
set_option linter.unusedVariables false
set_option maxHeartbeats 1000000 in
theorem zfU(a:Option Addr)(cap:Nat)(l:List (Int×Int×Int×Int))(w:World)(hs:Sls enC 4 w a cap l)(hl:l.length<=40) :
  Calls Tryz.prog 131 #[.slice a l.length cap] w fun e w'=>e=.returned (.tuple #[.int .i64 (if 40<zfP l then 0 else zfP l),zK (if 40<zfP l then 4 else 0)])/\Below w.heap.size w w':=by
 have hcap:=hs.2.2.1
 have HS:=zb hs
 clear hs
 generalize hA:(if 40<zfP l then (0:Int) else zfP l)=RA
 generalize hE:zK (if 40<zfP l then 4 else 0)=RE
 have HA:=zb hA
 have HE:=zb hE
 clear hA hE
 go_enter Tryz.func131,Tryz.ntmps131
 go_wp2_with fail
 go_loopw [4,9] (fun hv iv wr=>∃ k:Nat,k<=l.length/\iv=.int .i64 k/\hv=.int .i64 (zfP (l.take k))/\Below w.heap.size w wr) (fun _ iv _=>l.length-(intOf iv).toNat)
 case atStart=>exact⟨0,Nat.zero_le _,rfl,rfl,Below.refl _ _⟩
 case round =>
  obtain⟨k,hk,rfl,rfl,hbel⟩:=hrel
  have hbd:=zyC (l.take k)
  by_cases hlt:k<l.length
  ·have hne:l≠[]:=by intro e;rw [e] at hlt;simp at hlt
   obtain⟨b1,o1,rfl,hc1⟩:=((za HS).below hbel).2.2.2 hne
   obtain⟨f,hf⟩:∃ f,l[k]?=some f:=⟨l[k],List.getElem?_eq_getElem hlt⟩
   obtain⟨q0,q1,q2,q3⟩:=Sls.ent (cap:=0) hc1 hf
   have HT:=zb (zrT hf)
   have HBEL:=zb hbel
   have hkl:(l.take k).length<=40:=by simp;omega
   obtain⟨x,y,z,t⟩:=f
   dsimp only at *
   clear hc1 hf hne hbel
   generalize zfP (l.take k)=H at *
   by_cases he:x=H
   ·subst he
    go_wp2
    go_roundw
    case rel=>exact⟨k+1,by omega,by go_num,by rw [za HT,if_pos rfl],(za HBEL).alloc (za HBEL).size _⟩
    case measure=>simp [intOf];omega
   ·have he':(x == H)=false:=by rw [beq_eq_false_iff_ne];exact he
    go_wp2
    go_roundw
    case rel=>exact⟨k+1,by omega,by go_num,by rw [za HT,if_neg he],(za HBEL).alloc (za HBEL).size _⟩
    case measure=>simp [intOf];omega
  ·obtain rfl:k=l.length:=by omega
   rw [List.take_length] at hbd ⊢
   have HBEL:=zb hbel
   clear hbel
   generalize zfP l=H at *
   by_cases hH:40<H
   ·go_wp2
    go_ret2
    have h1:=za HA
    have h2:=za HE
    rw [if_pos hH] at h1 h2
    exact⟨by rw [<- h1,<- h2];rfl,za HBEL⟩
   ·go_wp2
    go_ret2
    have h1:=za HA
    have h2:=za HE
    rw [if_neg (by omega)] at h1 h2
    exact⟨by rw [<- h1,<- h2];rfl,za HBEL⟩
theorem zih:(Tryz.prog.info? 124).map (fun i=>(i.zero,i.size,i.bytes))=some (some (.agg #[.int .i64 0,.int .i64 0]),2,16):=by kernel_rfl
theorem zl3(e:Int×Int):∀ u∈exC e,u.oneCell'=true:=by
 intro u hu
 unfold exC at hu
 rcases List.mem_cons.1 hu with rfl | hu
 ·rfl
 rw [List.mem_singleton.1 hu]
 rfl
theorem zqA{l:List (Int×Int×Int×Int)}{k:Nat}{e:(Int×Int×Int×Int)}(h:l[k]?=some e):(l.map shE).take (k+1)=(l.map shE).take k++[(e.2.1-288,e.2.2.1)]:=by
 rw [List.take_add_one,List.getElem?_map,h]
 rfl
set_option maxHeartbeats 2000000 in
theorem zmO(n:Nat)(a:Option Addr)(cap:Nat)(l:List (Int×Int×Int×Int))(size:Int)(w:World)(hs:Sls enC 4 w a cap l)(hl:l.length<=40)(hn:288<=n/\n<=6400)(hin:∀ e∈l,0<=e.2.1/\e.2.1<=65535/\0<=e.2.2.1/\e.2.2.1<=65535) :
  Calls Tryz.prog 132 #[.int .i64 n,.slice a l.length cap,.int .i64 size] w fun e w'=>e=.returned (.tuple #[.int .i64 (if zc7 ((n:Int)-288) (l.map shE) size=0 then 288+zau ((n:Int)-288) (l.map shE) size else 0),zK (zc7 ((n:Int)-288) (l.map shE) size)])/\Below w.heap.size w w':=by
 obtain⟨i0,hi0,hz0,hz1,hz2⟩:=info_parts zih
 have hcap:=hs.2.2.1
 have HS:=zb hs
 have HIN:=zb hin
 clear hs hin
 generalize hA:(if zc7 ((n:Int)-288) (l.map shE) size=0 then 288+zau ((n:Int)-288) (l.map shE) size else 0)=RA
 generalize hE:zK (zc7 ((n:Int)-288) (l.map shE) size)=RE
 have HA:=zb hA
 have HE:=zb hE
 clear hA hE
 go_enter Tryz.func132,Tryz.ntmps132
 go_wp2_with fail
 go_loopw [8,15] (fun v iv wr=>∃ k:Nat,k<=l.length/\iv=.int .i64 k/\Lst exC 2 124 wr w.heap.size v ((l.map shE).take k)/\Below w.heap.size w wr) (fun _ iv _=>l.length-(intOf iv).toNat)
 case atStart=>exact⟨0,Nat.zero_le _,rfl,Lst.nil _ _,Below.refl _ _⟩
 case round =>
  obtain⟨k,hk,rfl,hown,hbel⟩:=hrel
  obtain⟨va,vm,vc,rfl⟩:=hown.shape
  by_cases hlt:k<l.length
  ·have hne:l≠[]:=by intro e;rw [e] at hlt;simp at hlt
   obtain⟨b1,o1,rfl,hc1⟩:=((za HS).below hbel).2.2.2 hne
   obtain⟨f,hf⟩:∃ f,l[k]?=some f:=⟨l[k],List.getElem?_eq_getElem hlt⟩
   obtain⟨q0,q1,q2,q3⟩:=Sls.ent (cap:=0) hc1 hf
   have HT:=zb (zqA hf)
   have hfi:=za HIN f (List.mem_of_getElem? hf)
   have hml:((l.map shE).take k).length<=40:=by simp;omega
   obtain⟨x,y,z,t⟩:=f
   dsimp only at *
   have hB1:=hbel.alloc hbel.size (.cells #[.int .i64 x,.int .i64 y,.int .i64 z,.int .i64 t] 126)
   have HB3:=zb (hB1.alloc hB1.size (.cells #[.int .i64 (y-288),.int .i64 z] 124))
   have HO3:=zb ((hown.below ((Below.refl _ _).alloc (Nat.le_refl _) (.cells #[.int .i64 x,.int .i64 y,.int .i64 z,.int .i64 t] 126))).below ((Below.refl _ _).alloc (Nat.le_refl _) (.cells #[.int .i64 (y-288),.int .i64 z] 124)))
   have HGN:Hid (((wr.alloc (.cells #[.int .i64 x,.int .i64 y,.int .i64 z,.int .i64 t] 126)).alloc (.cells #[.int .i64 (y-288),.int .i64 z] 124)).heap[wr.heap.size+1]?=some (.cells (exC (y-288,z)).toArray 124 (0,0))):=zb (by
    have:=heap_alloc_new (wr.alloc (.cells #[.int .i64 x,.int .i64 y,.int .i64 z,.int .i64 t] 126)) (.cells #[.int .i64 (y-288),.int .i64 z] 124)
    rw [qF] at this
    exact this)
   have hsz:=hbel.size
   clear hc1 hf hne hbel hB1 hown
   go_wp2_with (at_builtin;refine zr rfl _ _ 96 rfl w.heap.size i0 (.agg #[.int .i64 0,.int .i64 0]) 16 Tryz.underlying96 hi0 hz0 hz1 hz2 rfl (by decide) (by decide) _ _ rfl (za HO3) (wr.heap.size+1) (y-288,z) rfl (za HGN) rfl (zl3 _) (by omega) (by simp;omega) ?_)
   intro v9 w9 hown9 hbel9
   rw [<- za HT] at hown9
   have HO9:=zb hown9
   have HB9:=zb ((za HB3).trans hbel9)
   obtain⟨a9,m9,c9,rfl⟩:=hown9.shape
   clear hown9 hbel9 HO3 HB3 HGN q0 q1 q2 q3
   go_wp2
   go_roundw
   case rel=>exact⟨k+1,by omega,by go_num,za HO9,za HB9⟩
   case measure=>simp [intOf];omega
  ·obtain rfl:k=l.length:=by omega
   rw [List.take_of_length_le (by simp)] at hown
   have ho:ExO wr w.heap.size (.slice va vm vc) (l.map shE):=hown
   obtain⟨a2,c2,e2,hexs⟩:=ho.exs (fun e he=>by
    obtain⟨f,hf,rfl⟩:=List.mem_map.1 he
    have:=za HIN f hf
    unfold InI shE
    dsimp only
    omega) (by simp;omega)
   simp only [Value.slice.injEq] at e2
   obtain⟨rfl,rfl,rfl⟩:=e2
   have HF:=zb (zy3 ((n:Int)-288) va vc (l.map shE) size wr hexs)
   have HBEL:=zb hbel
   have hml:(l.map shE).length<=40:=by simp;omega
   have hfa:0<=zau ((n:Int)-288) (l.map shE) size/\zau ((n:Int)-288) (l.map shE) size<=6400:=by
    unfold zau
    by_cases h0:zc7 ((n:Int)-288) (l.map shE) size=0
    ·rw [if_pos h0]
     unfold zc7 at h0
     by_cases h1:chk ((n:Int)-288) (l.map shE)=0
     ·have h2:=QK h1
      rw [if_neg (fun h=>h h1)] at h0
      by_cases h3:size<1\/6400<size
      ·rw [if_pos h3] at h0;exact absurd h0 (by decide)
      ·rw [if_neg h3] at h0
       by_cases h4:(zaR size (zy ((n:Int)-288) (l.map shE))).2=0
       ·rw [if_pos h4] at h0;exact absurd h0 (by decide)
       ·rcases ziq (size:=size) (by omega) (fun r hr=>(h2.1 r hr).2.1) with ⟨h5,_⟩ | ⟨_,h6,_⟩
        ·exact absurd h5 h4
        ·have:=h2.1 _ h6;omega
     ·rw [if_pos h1] at h0;exact absurd h0 h1
    ·rw [if_neg h0];omega
   clear hown ho hexs hbel
   generalize zau ((n:Int)-288) (l.map shE) size=FA at *
   generalize zc7 ((n:Int)-288) (l.map shE) size=FE at *
   generalize (l.map shE).length=M at *
   go_wp2_with fail
   refine(za HF).mono ?_
   rintro e w1 ⟨rfl,hb1⟩
   have HB1:=zb ((za HBEL).trans (hb1.mono (za HBEL).size))
   clear hb1 HF HBEL
   by_cases h0:FE=0
   ·subst h0
    rw [zf]
    go_wp2
    go_ret2
    have h1:=za HA
    have h2:=za HE
    rw [if_pos trivial] at h1
    exact⟨by rw [<- h1,<- h2];rfl,za HB1⟩
   ·rw [zh _ h0]
    go_wp2
    go_ret2
    have h1:=za HA
    have h2:=za HE
    rw [if_neg h0] at h1
    rw [zh _ h0] at h2
    exact⟨by rw [<- h1,<- h2];rfl,za HB1⟩
end Go.Proofs.YtchmlnmhbfaclaaGreatDoor
namespace Go.Proofs.YtchmlnmhbfaclaaGreatDoor
open Go.RowKit Go.Sort
set_option linter.unusedVariables false
theorem zkd(g c N x n:Nat)(w:World)(hN:N<=140737488351232)(hp:x+n<=N)(hn:N<=c)(hlt:x<c) :
  Calls Tryz.prog 134 #[.slice (some ⟨g,0,none⟩) N c,.agg #[.int .i64 x,.int .i64 n]] w fun e w'=>e=.returned (.slice (some ⟨g,x,none⟩) n (c-x))/\Below w.heap.size w w':=by
 have hs1:=fun w'=>ziz (P:=Tryz.prog) (t:=29) Tryz.underlying29 zx g c N x n hp hn hlt w'
 go_enter Tryz.func134,Tryz.ntmps134
 go_wp2
 go_ret
 exact⟨rfl,(Below.refl _ _).alloc (Nat.le_refl _) _⟩
theorem zsq(g c:Nat)(L:List Int)(x n:Nat)(w:World)(hbs:Bs w (some ⟨g,0,none⟩) c L)(hx:x+n<=L.length) :
  ∃ q,(∀ w',(Instr.slice 29 (.slice (some ⟨g,0,none⟩) L.length c) (some (.int .i64 x)) (some (.int .i64 ((x:Int)+n))) none).run Tryz.prog w'=.ok (.slice q n (c-x)) w')/\Bs w q (c-x) ((L.drop x).take n)/\(0<n->q=some ⟨g,x,none⟩):=by
 rcases Nat.eq_zero_or_pos n with rfl | hn
 ·obtain⟨a1,hs1,hb1⟩:=slice_lohi (P:=Tryz.prog) (t:=29) Tryz.underlying29 zx hbs x (x+0) (by omega) hx
  rw [show x+0-x=0 by omega] at hs1 hb1
  exact⟨a1,fun w'=>by have:=hs1 w';rw [show((x+0:Nat):Int)=(x:Int)+((0:Nat):Int) by omega] at this;exact this,hb1,fun h=>absurd h (Nat.lt_irrefl _)⟩
 ·have hc:=hbs.2.1
  refine⟨some ⟨g,x,none⟩,fun w'=>ziz (P:=Tryz.prog) (t:=29) Tryz.underlying29 zx g c L.length x n hx hc (by omega) w',?_,fun _=>rfl⟩
  have:=(hbs.drop x (by omega)).take n
  rw [if_neg (by omega)] at this
  simpa [addr_add] using this
theorem zyT(a:Option Addr)(cap N:Nat)(x n:Nat)(a1:Option Addr)(hN:N<=140737488351232)(hx:x+n<=N)(hs:∀ w',(Instr.slice 29 (.slice a N cap) (some (.int .i64 (x:Int))) (some (.int .i64 ((x:Int)+n))) none).run Tryz.prog w'=.ok (.slice a1 n (cap-x)) w')(w:World) :
  Calls Tryz.prog 134 #[.slice a N cap,.agg #[.int .i64 (x:Int),.int .i64 (n:Int)]] w fun e w'=>e=.returned (.slice a1 n (cap-x))/\∃ q os,w'=grow (w.drewN q) os:=by
 go_enter Tryz.func134,Tryz.ntmps134
 go_wp2
 go_ret
 exact⟨rfl,0,_,by rw [alloc_eq_grow];rfl⟩
end Go.Proofs.YtchmlnmhbfaclaaGreatDoor
namespace Go.Proofs.YtchmlnmhbfaclaaGreatDoor
open Go.RowKit
set_option linter.unusedVariables false
theorem zmo(p g c B:Nat)(L:List Int)(n t:Int)(w:World)(hh:Hp w B p g c L)(hbad:n<1\/1000<n\/t<0\/15<t) :
  Calls Tryz.prog 91 #[.pointer (some ⟨p,0,none⟩),.int .i64 n,.int .i64 t] w fun e w'=>e=.returned (.tuple #[.int .i64 0,zK 1])/\w=w':=by
 clear hh
 rw [zh 1 (by decide)]
 by_cases c1:n<1
 ·clear hbad
  go_enter Tryz.func91,Tryz.ntmps91
  go_wp2
  go_ret2
  exact⟨rfl,rfl⟩
 ·by_cases c2:1000<n
  ·clear hbad
   go_enter Tryz.func91,Tryz.ntmps91
   go_wp2
   go_ret2
   exact⟨rfl,rfl⟩
  ·by_cases c3:t<0
   ·clear hbad
    go_enter Tryz.func91,Tryz.ntmps91
    go_wp2
    go_ret2
    exact⟨rfl,rfl⟩
   ·have c4:15<t:=by omega
    clear hbad
    go_enter Tryz.func91,Tryz.ntmps91
    go_wp2
    go_ret2
    exact⟨rfl,rfl⟩
set_option maxHeartbeats 1000000 in
theorem zpI(p g c B:Nat)(L:List Int)(n t:Int)(w:World)(hh:Hp w B p g c L)(hr:¬ (n<1\/1000<n\/t<0\/15<t))(hlow:QH L=40) :
  Calls Tryz.prog 91 #[.pointer (some ⟨p,0,none⟩),.int .i64 n,.int .i64 t] w fun e w'=>e=.returned (.tuple #[.int .i64 0,zK 4])/\Below w.heap.size w w':=by
 have HE:=zb (zan (some ⟨g,0,none⟩) c L w hh.bs hh.fine.len0)
 have HLW:=zb (fun(a:Option Addr) (cap:Nat) (W:World) (hs:Sls enC 4 W a cap (zo L 40))=>zfU a cap (zo L 40) W hs (qj L 40))
 rw [zh9,hlow,if_pos (by decide),if_pos (by decide)] at HLW
 have hel:=qj L 40
 have hcl:=hh.cell
 have hl:=hh.len
 rw [zh 4 (by decide)] at HLW ⊢
 clear hh hlow
 have r1:¬ n<1:=by omega
 have r2:¬ 1000<n:=by omega
 have r3:¬ t<0:=by omega
 have r4:¬ 15<t:=by omega
 clear hr
 generalize zo L 40=EN at *
 generalize L.length=M at *
 go_enter Tryz.func91,Tryz.ntmps91
 go_wp2_with fail
 refine(za HE).mono ?_
 rintro e w1 ⟨v1,rfl,hown1,hb1⟩
 obtain⟨a1,c1,rfl,hsl1⟩:=hown1.sls zda (by omega)
 have HLW1:=zb (za HLW a1 c1 w1 hsl1)
 have HB1:=zb hb1
 clear hown1 hsl1 hb1 HE HLW hcl
 go_wp2_with fail
 refine(za HLW1).mono ?_
 rintro e w2 ⟨rfl,hb2⟩
 have HB2:=zb ((za HB1).trans (hb2.mono (za HB1).size))
 clear hb2 HLW1 HB1
 go_wp2
 go_ret2
 exact⟨rfl,za HB2⟩
set_option maxHeartbeats 1000000 in
theorem zpJ(p g c B:Nat)(L:List Int)(n t:Int)(w:World)(hh:Hp w B p g c L)(hr:¬ (n<1\/1000<n\/t<0\/15<t))(hlow:QH L≠40)(hfit:zc7 ((L.length:Int)-288) (zn L) n≠0) :
  Calls Tryz.prog 91 #[.pointer (some ⟨p,0,none⟩),.int .i64 n,.int .i64 t] w fun e w'=>e=.returned (.tuple #[.int .i64 0,zK (zc7 ((L.length:Int)-288) (zn L) n)])/\Below w.heap.size w w':=by
 have HE:=zb (zan (some ⟨g,0,none⟩) c L w hh.bs hh.fine.len0)
 have HLW:=zb (fun(a:Option Addr) (cap:Nat) (W:World) (hs:Sls enC 4 W a cap (zo L 40))=>zfU a cap (zo L 40) W hs (qj L 40))
 have h40:=zh8 L
 rw [zh9,if_neg (by omega),if_neg (by omega),zf] at HLW
 have HRM:=zb (fun(a:Option Addr) (cap:Nat) (W:World) (hs:Sls enC 4 W a cap (zo L 40))=>zmO L.length a cap (zo L 40) n W hs (qj L 40) hh.fine.len (zl4 hh.fine))
 change Hid (∀ (a:Option Addr) (cap:Nat) (W:World),Sls enC 4 W a cap (zo L 40)->Calls Tryz.prog 132 #[.int .i64 L.length,.slice a (zo L 40).length cap,.int .i64 n] W fun e w'=>e=.returned (.tuple #[.int .i64 (if zc7 ((L.length:Int)-288) (zn L) n=0 then 288+zau ((L.length:Int)-288) (zn L) n else 0),zK (zc7 ((L.length:Int)-288) (zn L) n)])/\Below W.heap.size W w') at HRM
 rw [if_neg hfit,zh _ hfit] at HRM
 rw [zh _ hfit]
 have hel:=qj L 40
 have HH:=zb hh
 have hcl:=hh.cell
 have hl:=hh.len
 clear hh hlow
 have r1:¬ n<1:=by omega
 have r2:¬ 1000<n:=by omega
 have r3:¬ t<0:=by omega
 have r4:¬ 15<t:=by omega
 clear hr hfit
 generalize zc7 ((L.length:Int)-288) (zn L) n=FE at *
 generalize QH L=LH at *
 generalize zo L 40=EN at *
 go_enter Tryz.func91,Tryz.ntmps91
 go_wp2_with fail
 refine(za HE).mono ?_
 rintro e w1 ⟨v1,rfl,hown1,hb1⟩
 obtain⟨a1,c1,rfl,hsl1⟩:=hown1.sls zda (by omega)
 have HLW1:=zb (za HLW a1 c1 w1 hsl1)
 have HSL:=zb hsl1
 have HB1:=zb hb1
 clear hown1 hsl1 hb1 HE HLW hcl
 go_wp2_with fail
 refine(za HLW1).mono ?_
 rintro e w2 ⟨rfl,hb2⟩
 have hB2:=(za HB1).trans (hb2.mono (za HB1).size)
 have hcl:=((za HH).below hB2).cell
 have HRM2:=zb (za HRM a1 c1 w2 ((za HSL).below hb2))
 have HB2:=zb hB2
 clear hb2 hB2 HLW1 HB1 HRM HSL HH
 go_wp2_with fail
 refine(za HRM2).mono ?_
 rintro e w3 ⟨rfl,hb3⟩
 have HB3:=zb ((za HB2).trans (hb3.mono (za HB2).size))
 clear hb3 HRM2 HB2 hcl
 go_wp2
 go_ret2
 exact⟨rfl,za HB3⟩
set_option maxHeartbeats 2000000 in
theorem ztt(p g c B:Nat)(L:List Int)(n t:Int)(w:World)(hh:Hp w B p g c L)(hB:B<=w.heap.size)(h0:alE L n t=0) :
  Calls Tryz.prog 91 #[.pointer (some ⟨p,0,none⟩),.int .i64 n,.int .i64 t] w fun e w'=>e=.returned (.tuple #[.int .i64 (alH L n t),.nilIface])/\∃ g' c',Hp w' B p g' c' (alB L n t)/\Turn (foot p g) (foot p g') w w':=by
 obtain⟨x,N,hk⟩:=zep hh.fine h0
 have h40:=hk.low
 have hlay:=hk.lay hh.fine h0
 have hput:=hk.put hh.fine
 have himg:=hk.img h0
 have hf1:=ziN hh.fine n t
 have hby1:=ziO hh.byt n t
 have hlen1:=(hk.keep hh.fine h0).2.1
 have HE:=zb (zan (some ⟨g,0,none⟩) c L w hh.bs hh.fine.len0)
 have HLW:=zb (fun(a:Option Addr) (cap:Nat) (W:World) (hs:Sls enC 4 W a cap (zo L 40))=>zfU a cap (zo L 40) W hs (qj L 40))
 rw [zh9,if_neg (by omega),if_neg (by omega),zf] at HLW
 have HRM:=zb (fun(a:Option Addr) (cap:Nat) (W:World) (hs:Sls enC 4 W a cap (zo L 40))=>zmO L.length a cap (zo L 40) n W hs (qj L 40) hh.fine.len (zl4 hh.fine))
 change Hid (∀ (a:Option Addr) (cap:Nat) (W:World),Sls enC 4 W a cap (zo L 40)->Calls Tryz.prog 132 #[.int .i64 L.length,.slice a (zo L 40).length cap,.int .i64 n] W fun e w'=>e=.returned (.tuple #[.int .i64 (if zc7 ((L.length:Int)-288) (zn L) n=0 then 288+zau ((L.length:Int)-288) (zn L) n else 0),zK (zc7 ((L.length:Int)-288) (zn L) n)])/\Below W.heap.size W w') at HRM
 rw [hk.fit,if_pos rfl,zf,hk.eqx] at HRM
 have hel:=qj L 40
 have hPl:(putL L ((QH L:Int)+1,(x:Int),(N:Int),t)).length=L.length:=zcv hput
 have HPUT:Hid (∀ W:World,Below w.heap.size w W->Calls Tryz.prog 133 #[.slice (some ⟨g,0,none⟩) L.length c,.agg #[.int .i64 ((QH L:Int)+1),.int .i64 x,.int .i64 N,.int .i64 t]] W fun e w'=>∃ g4 c4 cur4,e=.returned (.tuple #[.slice (some ⟨g4,0,none⟩) L.length c4,.nilIface])/\Row w' w.heap.size g4 c4 cur4 (putL L ((QH L:Int)+1,(x:Int),(N:Int),t))/\Below w.heap.size w w'/\Below W.heap.size W w'):=zb (fun W hW=>by
  refine(znt (some ⟨g,0,none⟩) c L ((QH L:Int)+1) x N t W (hh.bs.below hW) hput).mono fun e w' ⟨g4,c4,cur4,he,hr4,hb4⟩=>⟨g4,c4,cur4,?_,?_,hW.trans (hb4.mono hW.size),hb4⟩
  ·rw [he]
   have hq:splice L (plc ((QH L:Int)+1)) (zax ((QH L:Int)+1,(x:Int),(N:Int),t))=putL L ((QH L:Int)+1,(x:Int),(N:Int),t):=by unfold putL;rw [if_pos hput]
   rw [hq,hPl]
  ·have hq:splice L (plc ((QH L:Int)+1)) (zax ((QH L:Int)+1,(x:Int),(N:Int),t))=putL L ((QH L:Int)+1,(x:Int),(N:Int),t):=by unfold putL;rw [if_pos hput]
   rw [hq] at hr4
   exact hr4.low hW.size)
 have hx1:=hk.x1
 have hx2:=hk.x2
 have hn1:=hk.n1
 have hn2:=hk.n2
 have ht1:=hk.t1
 have ht2:=hk.t2
 have hnN:=hk.eqn
 subst hnN
 have HH:=zb hh
 have hcl:=hh.cell
 have hl:=hh.len
 have HLAY:=zb hlay
 have HF1:=zb hf1
 have HBY1:=zb hby1
 have HLEN1:=zb hlen1
 rw [himg.2]
 clear hh hk hput hlay hf1 hby1 hlen1 himg h0
 have r1:¬ (N:Int)<1:=by omega
 have r2:¬ 1000<(N:Int):=by omega
 have r3:¬ t<0:=by omega
 have r4:¬ 15<t:=by omega
 generalize alB L N t=AB at *
 generalize putL L ((QH L:Int)+1,(x:Int),(N:Int),t)=P at *
 generalize QH L=LH at *
 generalize zo L 40=EN at *
 generalize hM:L.length=M at *
 go_enter Tryz.func91,Tryz.ntmps91
 go_wp2_with fail
 refine(za HE).mono ?_
 rintro e w1 ⟨v1,rfl,hown1,hb1⟩
 obtain⟨a1,c1,rfl,hsl1⟩:=hown1.sls zda (by omega)
 have HLW1:=zb (za HLW a1 c1 w1 hsl1)
 have HSL:=zb hsl1
 have HB1:=zb hb1
 clear hown1 hsl1 hb1 HE HLW hcl
 go_wp2_with fail
 refine(za HLW1).mono ?_
 rintro e w2 ⟨rfl,hb2⟩
 have hB2:=(za HB1).trans (hb2.mono (za HB1).size)
 have hcl:=((za HH).below hB2).cell
 rw [hM] at hcl
 have HRM2:=zb (za HRM a1 c1 w2 ((za HSL).below hb2))
 have HB2:=zb hB2
 clear hb2 hB2 HLW1 HB1 HRM HSL
 go_wp2_with fail
 refine(za HRM2).mono ?_
 rintro e w3 ⟨rfl,hb3⟩
 have hB3:=(za HB2).trans (hb3.mono (za HB2).size)
 have hB3a:Below w.heap.size w (w3.alloc (.cells #[.int .i64 x,.int .i64 N] 124)):=hB3.alloc hB3.size _
 have hcl3:=((za HH).below hB3a).cell
 rw [hM] at hcl3
 have hex:(w3.alloc (.cells #[.int .i64 x,.int .i64 N] 124)).heap[w3.heap.size]?=some (.cells #[.int .i64 x,.int .i64 N] 124 (0,0)):=heap_alloc_new w3 _
 have hx0:(w3.alloc (.cells #[.int .i64 x,.int .i64 N] 124)).cell? ⟨w3.heap.size,0,none⟩=some (.int .i64 x):=by rw [cell_of_row _ _ _ _ _ _ hex];rfl
 have hx1':(w3.alloc (.cells #[.int .i64 x,.int .i64 N] 124)).cell? ⟨w3.heap.size,1,none⟩=some (.int .i64 N):=by rw [cell_of_row _ _ _ _ _ _ hex];rfl
 have HPUT3:Hid (Calls Tryz.prog 133 #[.slice (some ⟨g,0,none⟩) M c,.agg #[.int .i64 ((LH:Int)+1),.int .i64 x,.int .i64 N,.int .i64 t]] (w3.alloc (.cells #[.int .i64 x,.int .i64 N] 124)).drew fun e w'=>∃ g4 c4 cur4,e=.returned (.tuple #[.slice (some ⟨g4,0,none⟩) M c4,.nilIface])/\Row w' w.heap.size g4 c4 cur4 P/\Below w.heap.size w w'/\w'.cell? ⟨p,0,none⟩=some (.slice (some ⟨g,0,none⟩) M c)/\w'.cell? ⟨w3.heap.size,0,none⟩=some (.int .i64 x)/\w'.cell? ⟨w3.heap.size,1,none⟩=some (.int .i64 N)):=zb (by
  refine(za HPUT _ (qk hB3a)).mono fun e w' ⟨g4,c4,cur4,he,hr,hb,hb2⟩=>⟨g4,c4,cur4,he,hr,hb,?_,?_,?_⟩
  ·exact(hb2.cell (p:=⟨p,0,none⟩) (block_lt_of_cell hcl3)).trans hcl3
  ·exact(hb2.cell (p:=⟨w3.heap.size,0,none⟩) (block_lt_of_cell hx0)).trans hx0
  ·exact(hb2.cell (p:=⟨w3.heap.size,1,none⟩) (block_lt_of_cell hx1')).trans hx1')
 clear hb3 HRM2 HB2 hcl HPUT hex hB3 hB3a
 go_wp2_with fail
 generalize w3.alloc (.cells #[.int .i64 x,.int .i64 N] 124)=wx at *
 go_region_held3 (fun w'=>w'.cell? ⟨p,0,none⟩=some (.slice (some ⟨g,0,none⟩) M c)/\w'.cell? ⟨w3.heap.size,0,none⟩=some (.int .i64 x)/\w'.cell? ⟨w3.heap.size,1,none⟩=some (.int .i64 N)) (first | go_keep | (go_split_ands;refine⟨?_,?_,?_⟩ <;> go_keep))
  ((go_at_call 133;refine(za HPUT3).mono ?_;rintro e w4 ⟨g4,c4,cur4,rfl,hr4,hb4,r0,r1,r2⟩))
 have hc4:=hr4.2.2.1
 rw [hPl] at hc4
 have HPART:=zb (fun W=>zkd g4 c4 M x N W (by omega) hx2 hc4 (by omega))
 have HR4:=zb hr4
 have HB4:=zb hb4
 clear hr4 hb4 HPUT3 hcl3 hx0 hx1'
 go_wp2_with fail
 refine(za HPART _).mono ?_
 rintro e w5 ⟨rfl,hb5⟩
 have hr5:=(za HR4).below hb5
 have hB5:=(za HB4).trans (hb5.mono (za HB4).size)
 have hclr:∀ ty,(Builtin.clear_ #[29] ty #[.slice (some ⟨g4,x,none⟩) N (c4-x)]).run Tryz.prog w5=.ok (.tuple #[]) (za8 w5 g4 cur4 x (zerosB N)):=fun ty=>zjn w5 _ ty Tryz.underlying29 zxj w.heap.size g4 x N _ c4 cur4 P (by omega) (by omega) hr5
 have hr6:=zcb hr5 (show x+(zerosB N).length<=_ by rw [length_zerosB];omega)
 rw [za HLAY] at hr6
 have hB6:=zbA (cur:=cur4) (l:=zerosB N) (off:=x) hB5 hr5.1
 have hp6:(za8 w5 g4 cur4 x (zerosB N)).heap[p]?=some (.cells #[.slice (some ⟨g,0,none⟩) L.length c] 241 (0,0)):=(hB6.block p (za HH).plt).trans (za HH).blk
 have hcl6:(za8 w5 g4 cur4 x (zerosB N)).cell? ⟨p,0,none⟩=some (.slice (some ⟨g,0,none⟩) L.length c):=by rw [cell_of_row _ _ _ _ _ _ hp6];rfl
 have hfr6:(za8 w5 g4 cur4 x (zerosB N)).frozen? ⟨p,0,none⟩=false:=frozen_of_row _ _ 0 _ _ hp6
 have HSET:=zb ((za HH).set hB6 hr6 (za HBY1) (za HF1) hB)
 rw [za HLEN1] at HSET
 clear hr5 hr6 hB5 hB6 hp6 hb5 HR4 HB4 HPART r0 r1 r2
 generalize za8 w5 g4 cur4 x (zerosB N)=w6 at *
 go_wp2
 go_ret2
 exact⟨rfl,g4,c4,za HSET⟩
theorem zpd(p g c B:Nat)(L:List Int)(n t:Int)(w:World)(hh:Hp w B p g c L)(hB:B<=w.heap.size) :
  Calls Tryz.prog 91 #[.pointer (some ⟨p,0,none⟩),.int .i64 n,.int .i64 t] w fun e w'=>e=.returned (.tuple #[.int .i64 (alH L n t),zK (alE L n t)])/\∃ g' c',Hp w' B p g' c' (alB L n t)/\Turn (foot p g) (foot p g') w w':=by
 by_cases h0:alE L n t=0
 ·rw [h0,zf]
  exact ztt p g c B L n t w hh hB h0
 ·have e1:alH L n t=0:=by unfold alH;rw [if_neg h0]
  have e2:alB L n t=L:=by unfold alB;rw [if_neg h0]
  rw [e1,e2]
  by_cases h1:n<1\/1000<n\/t<0\/15<t
  ·have e3:alE L n t=1:=by unfold alE;rw [if_pos h1]
   rw [e3]
   exact(zmo p g c B L n t w hh h1).mono fun e w' ⟨he,hw⟩=>⟨he,g,c,by rw [<- hw];exact hh,by rw [<- hw];exact Turn.refl _ _⟩
  ·by_cases h2:QH L=40
   ·have e3:alE L n t=4:=by unfold alE;rw [if_neg h1,if_pos h2]
    rw [e3]
    exact(zpI p g c B L n t w hh h1 h2).mono fun e w' ⟨he,hb⟩=>⟨he,g,c,hh.below hb,Turn.of_below hb⟩
   ·have e3:alE L n t=zc7 ((L.length:Int)-288) (zn L) n:=by unfold alE;rw [if_neg h1,if_neg h2]
    rw [e3] at h0 ⊢
    exact(zpJ p g c B L n t w hh h1 h2 h0).mono fun e w' ⟨he,hb⟩=>⟨he,g,c,hh.below hb,Turn.of_below hb⟩
end Go.Proofs.YtchmlnmhbfaclaaGreatDoor
namespace Go.Proofs.YtchmlnmhbfaclaaGreatDoor
open Go.RowKit Go.Sort
set_option linter.unusedVariables false
theorem Hp.ent{w:World}{B p g c:Nat}{L:List Int}(hh:Hp w B p g c L){h:Int}(hc:zO L h=0):288<=(ze L h).2.1/\1<=(ze L h).2.2.1/\(ze L h).2.2.1<=1000/\(ze L h).2.1+(ze L h).2.2.1<=L.length:=by
 obtain⟨h1,h2,h3⟩:=zq.1 hc
 have h4:=zm.1 h2
 have:=hh.fine.ent h4.1 h4.2 h3
 omega
theorem zkc(p g c B:Nat)(L:List Int)(h x n:Int)(w:World)(hh:Hp w B p g c L)(hc:zO L h≠0) :
  Calls Tryz.prog 139 #[.pointer (some ⟨p,0,none⟩),.int .i64 h,.int .i64 x,.int .i64 n] w fun e w'=>e=.returned (.tuple #[.slice none 0 0,zK (zO L h)])/\Below w.heap.size w w':=by
 have HG:=zb (zsf (some ⟨g,0,none⟩) c L h w hh.bs hc)
 rw [zh _ hc] at HG ⊢
 have hcl:=hh.cell
 have hl:=hh.len
 clear hh hc
 unfold zgF zBz at HG
 dsimp only at HG
 generalize zO L h=X at *
 generalize L.length=N at *
 go_enter Tryz.func139,Tryz.ntmps139
 go_wp2_with fail
 refine(za HG).mono ?_
 rintro e w1 ⟨rfl,hb1⟩
 have HB:=zb hb1
 clear hb1 HG hcl
 go_wp2
 go_ret2
 exact⟨rfl,(za HB).alloc (za HB).size _⟩
theorem zeB(p g c B:Nat)(L:List Int)(h x n:Int)(w:World)(hh:Hp w B p g c L)(hc:zO L h=0)(hx:x<=9223372036854775807)(hn:n<=9223372036854775807)(hbad:x<0\/n<0\/(ze L h).2.2.1<x+n) :
  Calls Tryz.prog 139 #[.pointer (some ⟨p,0,none⟩),.int .i64 h,.int .i64 x,.int .i64 n] w fun e w'=>e=.returned (.tuple #[.slice none 0 0,zK 3])/\Below w.heap.size w w':=by
 have HG:=zb (ze1 (some ⟨g,0,none⟩) c L h w hh.bs hc)
 rw [zh _ (by decide)]
 have hcl:=hh.cell
 have hl:=hh.len
 have hen:=hh.ent hc
 clear hh hc
 generalize ze L h=E at *
 obtain⟨e1,e2,e3,e4⟩:=E
 unfold zgF at HG
 dsimp only at HG hen hbad
 generalize L.length=N at *
 by_cases c1:x<0
 ·clear hbad hx hn
  go_enter Tryz.func139,Tryz.ntmps139
  go_wp2_with fail
  refine(za HG).mono ?_
  rintro e w1 ⟨rfl,hb1⟩
  have HB:=zb hb1
  clear hb1 HG hcl
  go_wp2
  go_ret2
  exact⟨rfl,(za HB).alloc (za HB).size _⟩
 ·by_cases c2:n<0
  ·clear hbad hx hn
   go_enter Tryz.func139,Tryz.ntmps139
   go_wp2_with fail
   refine(za HG).mono ?_
   rintro e w1 ⟨rfl,hb1⟩
   have HB:=zb hb1
   clear hb1 HG hcl
   go_wp2
   go_ret2
   exact⟨rfl,(za HB).alloc (za HB).size _⟩
  ·have c3:e3-x<n:=by omega
   have c4:wrap64 (e3-x)=e3-x:=by unfold wrap64;omega
   clear hbad
   go_enter Tryz.func139,Tryz.ntmps139
   go_wp2_with fail
   refine(za HG).mono ?_
   rintro e w1 ⟨rfl,hb1⟩
   have HB:=zb hb1
   clear hb1 HG hcl
   go_wp2
   go_ret2
   exact⟨rfl,(za HB).alloc (za HB).size _⟩
set_option maxRecDepth 100000 in
set_option maxHeartbeats 1000000 in
theorem zhd(p g c B:Nat)(L:List Int)(h:Int)(x n:Nat)(w:World)(hh:Hp w B p g c L)(hc:zO L h=0)(hn:(x:Int)+n<=(ze L h).2.2.1) :
  Calls Tryz.prog 139 #[.pointer (some ⟨p,0,none⟩),.int .i64 h,.int .i64 x,.int .i64 n] w fun e w'=>∃ q c',e=.returned (.tuple #[.slice q n c',.nilIface])/\Bs w' q c' ((L.drop ((ze L h).2.1.toNat+x)).take n)/\(0<n->q=some ⟨g,(ze L h).2.1.toNat+x,none⟩)/\Below w.heap.size w w':=by
 have mixed:Tryz.prog.follows .mixedOrders=true:=by kernel_rfl
 have HG:=zb (ze1 (some ⟨g,0,none⟩) c L h w hh.bs hc)
 have hcl:=hh.cell
 have hl:=hh.len
 have hen:=hh.ent hc
 obtain⟨q,hs,hbq,hq⟩:=zsq g c L ((ze L h).2.1.toNat+x) n w hh.bs (by omega)
 clear hc
 generalize ze L h=E at *
 obtain⟨e1,e2,e3,e4⟩:=E
 unfold zgF at HG
 dsimp only at HG hen hn hs hbq hq ⊢
 obtain⟨X,rfl⟩:=Int.eq_ofNat_of_zero_le (show 0<=e2 by omega)
 obtain⟨Y,rfl⟩:=Int.eq_ofNat_of_zero_le (show 0<=e3 by omega)
 rw [Int.toNat_natCast] at *
 have HP:=zb (fun W=>zyT (some ⟨g,0,none⟩) c L.length (X+x) n q (by omega) (by omega) hs W)
 rw [show((X+x:Nat):Int)=IntKind.i64.wrap ((X:Int)+x) by rw [IntKind.wrap_i64];omega] at HP
 have HH:=zb hh
 have HQ:=zb hq
 have HBQ:=zb hbq
 clear hh hs hq hbq
 generalize hR:(L.drop (X+x)).take n=R at *
 clear hR
 generalize hN:L.length=N at *
 generalize c-(X+x)=c' at *
 obtain⟨n1,n2,n3,n4⟩:=hen
 obtain⟨m1,m2,m3⟩:=hl
 have s1:(X:Int)+x<=6400:=by omega
 have s2:0<=(X:Int)+x:=by omega
 go_enter Tryz.func139,Tryz.ntmps139
 go_wp2_with fail
 refine(za HG).mono ?_
 rintro e w1 ⟨rfl,hb1⟩
 have hB1:Below w.heap.size w (w1.alloc (.cells #[.int .i64 e1,.int .i64 X,.int .i64 Y,.int .i64 e4] 126)):=hb1.alloc hb1.size _
 have hcl1:=((za HH).below hB1).cell
 rw [hN] at hcl1
 have hen1:=EnB.new w1 (e1,(X:Int),(Y:Int),e4)
 have k0:=fun n os=>cell_grown ((za HH).below hB1).plt hcl1 n os
 have k1:=fun n os=>cell_grown hen1.lt hen1.cells.2.1 n os
 have hce2:=hen1.cells.2.2.1
 have HB1:=zb hB1
 clear hb1 hB1 HG hcl HH hcl1 hen1
 dsimp only at k1 hce2
 go_wp2_with fail
 generalize w1.alloc (.cells #[.int .i64 e1,.int .i64 X,.int .i64 Y,.int .i64 e4] 126)=W at *
 go_quiet_grown ((go_at_call 134;with_reducible exact Calls.grown_of (za HP _)))
 go_wp2
 go_ret2
 have hb:Below w.heap.size w (grow (W.drewN nq) osq):=(za HB1).trans (zae.mono (za HB1).size)
 exact⟨q,c',rfl,(za HBQ).below hb,za HQ,hb⟩
theorem znA(p g c B:Nat)(L:List Int)(h x n E:Int)(w:World)(hE:E≠0)(hpc:Calls Tryz.prog 139 #[.pointer (some ⟨p,0,none⟩),.int .i64 h,.int .i64 x,.int .i64 n] w fun e w'=>e=.returned (.tuple #[.slice none 0 0,zK E])/\Below w.heap.size w w') :
  Calls Tryz.prog 95 #[.pointer (some ⟨p,0,none⟩),.int .i64 h,.int .i64 x,.int .i64 n] w fun e w'=>e=.returned (.tuple #[.slice none 0 0,zK E])/\Below w.heap.size w w':=by
 have HP:=zb hpc
 rw [zh _ hE] at HP ⊢
 clear hpc hE
 go_enter Tryz.func95,Tryz.ntmps95
 go_wp2_with fail
 refine(za HP).mono ?_
 rintro e w1 ⟨rfl,hb1⟩
 have HB:=zb hb1
 clear hb1 HP
 go_wp2
 go_ret2
 exact⟨rfl,za HB⟩
theorem zkb(p g c B:Nat)(L:List Int)(h:Int)(x n:Nat)(w:World)(hh:Hp w B p g c L)(hc:zO L h=0)(hn:(x:Int)+n<=(ze L h).2.2.1) :
  Calls Tryz.prog 95 #[.pointer (some ⟨p,0,none⟩),.int .i64 h,.int .i64 x,.int .i64 n] w fun e w'=>∃ a' c',e=.returned (.tuple #[.slice a' n c',.nilIface])/\OwnV w' w.heap.size (.slice a' n c') ((L.drop ((ze L h).2.1.toNat+x)).take n)/\Below w.heap.size w w':=by
 have HP:=zb (zhd p g c B L h x n w hh hc hn)
 have hen:=hh.ent hc
 have hl:=hh.len
 have hRl:((L.drop ((ze L h).2.1.toNat+x)).take n).length=n:=by simp;omega
 generalize (L.drop ((ze L h).2.1.toNat+x)).take n=R at *
 have HC:=zb (fun(q:Option Addr) (c':Nat) (W:World) (hb:Bs W q c' R)=>zbf q c' R W hb)
 rw [hRl] at HC
 have hnl:n<=1000:=by omega
 clear hh hc hen
 go_enter Tryz.func95,Tryz.ntmps95
 go_wp2_with fail
 refine(za HP).mono ?_
 rintro e w1 ⟨q,c',rfl,hbs,hq,hb1⟩
 have HC1:=zb (za HC q c' w1 hbs)
 have HB:=zb hb1
 clear hb1 HP HC hbs hq
 go_wp2_with fail
 refine(za HC1).mono ?_
 rintro e w2 ⟨a',c2,rfl,hown,hb2⟩
 have HO:=zb hown
 have HB2:=zb ((za HB).trans (hb2.mono (za HB).size))
 have HSZ:=zb (za HB).size
 clear hown hb2 HC1 HB
 go_wp2
 go_ret2
 exact⟨a',c2,rfl,(za HO).lower (za HSZ),za HB2⟩
theorem zsp(p g c B:Nat)(L:List Int)(h x n:Int)(w:World)(hh:Hp w B p g c L)(hx:x<=9223372036854775807)(hn:n<=9223372036854775807) :
  Calls Tryz.prog 95 #[.pointer (some ⟨p,0,none⟩),.int .i64 h,.int .i64 x,.int .i64 n] w fun e w'=>∃ a' c',e=.returned (.tuple #[.slice a' (rdL L h x n).length c',zK (pcE L h x n)])/\OwnV w' w.heap.size (.slice a' (rdL L h x n).length c') (rdL L h x n)/\Below w.heap.size w w':=by
 by_cases h0:pcE L h x n=0
 ·obtain⟨h1,h2,h3,h4⟩:=zaC.1 h0
  obtain⟨X,rfl⟩:=Int.eq_ofNat_of_zero_le h2
  obtain⟨N,rfl⟩:=Int.eq_ofNat_of_zero_le h3
  have hen:=hh.ent h1
  have hl:=hh.len
  have hR:rdL L h X N=(L.drop ((ze L h).2.1.toNat+X)).take N:=by unfold rdL;rw [if_pos h0,Int.toNat_natCast,Int.toNat_natCast]
  have hRl:(rdL L h X N).length=N:=by rw [hR];simp;omega
  rw [hRl,h0,zf]
  refine(zkb p g c B L h X N w hh h1 h4).mono fun e w' ⟨a',c',he,ho,hb⟩=>⟨a',c',he,?_,hb⟩
  rw [<- hR] at ho
  exact ho
 ·have hR:rdL L h x n=[]:=by unfold rdL;rw [if_neg h0]
  rw [hR]
  by_cases h1:zO L h=0
  ·have hbad:x<0\/n<0\/(ze L h).2.2.1<x+n:=Classical.byContradiction fun hc=>h0 (zaC.2 ⟨h1,by omega,by omega,by omega⟩)
   have e3:pcE L h x n=3:=by unfold pcE;rw [if_neg (fun h=>h h1),if_pos hbad]
   rw [e3]
   exact(znA p g c B L h x n 3 w (by decide) (zeB p g c B L h x n w hh h1 hx hn hbad)).mono fun e w' ⟨he,hb⟩=>⟨none,0,he,OwnV.nil _ _,hb⟩
  ·have e3:pcE L h x n=zO L h:=by unfold pcE;rw [if_pos h1]
   rw [e3]
   exact(znA p g c B L h x n (zO L h) w h1 (zkc p g c B L h x n w hh h1)).mono fun e w' ⟨he,hb⟩=>⟨none,0,he,OwnV.nil _ _,hb⟩
theorem zka(p g c B:Nat)(L:List Int)(h x E:Int)(a:Option Addr)(n cap:Nat)(w:World)(hE:E≠0)(hn:n<=140737488351232)(hpc:Calls Tryz.prog 139 #[.pointer (some ⟨p,0,none⟩),.int .i64 h,.int .i64 x,.int .i64 n] w fun e w'=>e=.returned (.tuple #[.slice none 0 0,zK E])/\Below w.heap.size w w') :
  Calls Tryz.prog 93 #[.pointer (some ⟨p,0,none⟩),.int .i64 h,.int .i64 x,.slice a n cap] w fun e w'=>e=.returned (zK E)/\Below w.heap.size w w':=by
 have HP:=zb hpc
 rw [zh _ hE] at HP ⊢
 clear hpc hE
 go_enter Tryz.func93,Tryz.ntmps93
 go_wp2_with fail
 refine(za HP).mono ?_
 rintro e w1 ⟨rfl,hb1⟩
 have HB:=zb hb1
 clear hb1 HP
 go_wp2
 go_ret
 exact⟨rfl,za HB⟩
set_option maxHeartbeats 1000000 in
theorem zpa(p g c B:Nat)(L:List Int)(h:Int)(x:Nat)(a:Option Addr)(cap:Nat)(l:List Int)(w:World)(hh:Hp w B p g c L)(hb:Bs w a cap l)(hc:zO L h=0)(hn:(x:Int)+l.length<=(ze L h).2.2.1) :
  Calls Tryz.prog 93 #[.pointer (some ⟨p,0,none⟩),.int .i64 h,.int .i64 x,.slice a l.length cap] w fun e w'=>e=.returned .nilIface/\Hp w' B p g c (splice L ((ze L h).2.1.toNat+x) l)/\Turn (foot p g) (foot p g) w w':=by
 have HP:=zb (zhd p g c B L h x l.length w hh hc hn)
 obtain⟨g1,g2,g3⟩:=zq.1 hc
 have g4:=zm.1 g2
 have hkeep:=zcp hh.fine g4.1 g4.2 g3 (p:=x) (r:=l) hn
 have hen:=hh.ent hc
 have hl:=hh.len
 have hbl:=hb.2.2.1
 have HKE:=zb hkeep.1
 have HH:=zb hh
 have HBS:=zb hb
 clear hh hc hkeep g1 g2 g3 g4 hb
 by_cases h0:l=[]
 ·subst h0
  have hself:splice L ((ze L h).2.1.toNat+x) []=L:=by simp [splice]
  rw [hself]
  simp only [List.length_nil] at HP hn hbl ⊢
  clear HKE
  generalize (ze L h).2.1.toNat+x=off at *
  go_enter Tryz.func93,Tryz.ntmps93
  go_wp2_with fail
  refine(za HP).mono ?_
  rintro e w1 ⟨q,c',rfl,hbs,hq,hb1⟩
  have HB:=zb hb1
  have hcp:Sem.run Tryz.prog (Builtin.copy_ #[29,29] 3 #[.slice q 0 c',.slice a 0 cap]) w1=.ok (.int .i64 0) w1:=by
   have:=run_copy_none (P:=Tryz.prog) w1 29 29 3 5 q a 0 c' 0 cap Tryz.underlying29 zx (by simp)
   simpa [goInt] using this
  clear hb1 HP hbs hq
  go_wp2
  go_ret
  exact⟨rfl,(za HH).below (za HB),Turn.of_below (za HB)⟩
 ·have hpos:0<l.length:=List.length_pos_iff.2 h0
  have hfit:(ze L h).2.1.toNat+x+l.length<=L.length:=by omega
  clear hen
  generalize (ze L h).2.1.toNat+x=off at *
  go_enter Tryz.func93,Tryz.ntmps93
  go_wp2_with fail
  refine(za HP).mono ?_
  rintro e w1 ⟨q,c',rfl,hbs,hq,hb1⟩
  obtain rfl:=hq hpos
  have hh1:=(za HH).below hb1
  obtain⟨cur,hrow⟩:=hh1.row
  have hcp:Sem.run Tryz.prog (Builtin.copy_ #[29,29] 3 #[.slice (some ⟨g,off,none⟩) l.length c',.slice a l.length cap]) w1=.ok (.int .i64 l.length) (za8 w1 g cur off l) :=
   ZS w1 _ _ _ Tryz.underlying29 zx _ g off _ _ c cur a cap L l (Nat.le_refl _) h0 hfit hrow ((za HBS).below hb1)
  have HLAY:=zb (hh1.lay hrow hfit (za HBS).1 (za HKE))
  have HT:=zb (Turn.of_below (S:=foot p g) hb1)
  clear hb1 HP hbs hq hh1 hrow
  generalize za8 w1 g cur off l=w2 at *
  go_wp2
  go_ret
  exact⟨rfl,(za HLAY).1,(za HT).trans (za HLAY).2⟩
theorem zpb(p g c B:Nat)(L:List Int)(h x:Int)(a:Option Addr)(cap:Nat)(l:List Int)(w:World)(hh:Hp w B p g c L)(hb:Bs w a cap l)(hx:x<=9223372036854775807) :
  Calls Tryz.prog 93 #[.pointer (some ⟨p,0,none⟩),.int .i64 h,.int .i64 x,.slice a l.length cap] w fun e w'=>e=.returned (zK (pcE L h x l.length))/\Hp w' B p g c (wrB L h x l)/\Turn (foot p g) (foot p g) w w':=by
 have hbl:=hb.2.2.1
 by_cases h0:pcE L h x l.length=0
 ·obtain⟨h1,h2,h3,h4⟩:=zaC.1 h0
  obtain⟨X,rfl⟩:=Int.eq_ofNat_of_zero_le h2
  have hR:wrB L h X l=splice L ((ze L h).2.1.toNat+X) l:=by unfold wrB;rw [if_pos h0,Int.toNat_natCast]
  rw [hR,h0,zf]
  exact zpa p g c B L h X a cap l w hh hb h1 h4
 ·have hR:wrB L h x l=L:=by unfold wrB;rw [if_neg h0]
  rw [hR]
  by_cases h1:zO L h=0
  ·have hbad:x<0\/(l.length:Int)<0\/(ze L h).2.2.1<x+l.length:=Classical.byContradiction fun hc=>h0 (zaC.2 ⟨h1,by omega,by omega,by omega⟩)
   have e3:pcE L h x l.length=3:=by unfold pcE;rw [if_neg (fun h=>h h1),if_pos hbad]
   rw [e3]
   exact(zka p g c B L h x 3 a l.length cap w (by decide) hbl (zeB p g c B L h x l.length w hh h1 hx (by omega) hbad)).mono fun e w' ⟨he,hb⟩=>⟨he,hh.below hb,Turn.of_below hb⟩
  ·have e3:pcE L h x l.length=zO L h:=by unfold pcE;rw [if_pos h1]
   rw [e3]
   exact(zka p g c B L h x (zO L h) a l.length cap w h1 hbl (zkc p g c B L h x l.length w hh h1)).mono fun e w' ⟨he,hb⟩=>⟨he,hh.below hb,Turn.of_below hb⟩
end Go.Proofs.YtchmlnmhbfaclaaGreatDoor
namespace Go.Proofs.YtchmlnmhbfaclaaGreatDoor
open Go.RowKit
set_option linter.unusedVariables false
theorem zsw(q:Nat)(s:ByteArray)(x h:Int)(w:World)(hq:w.cell? ⟨q,0,none⟩=some (.int .i64 h)) :
  Calls Tryz.prog 138 #[.agg #[.string s,.int .i64 x],.pointer (some ⟨q,0,none⟩)] w fun e w'=>e=.returned (.bool (x == h))/\Below w.heap.size w w':=by
 have hq2:(w.alloc (.cells #[.string s,.int .i64 x] 136)).cell? ⟨q,0,none⟩=some (.int .i64 h):=(((Below.refl w.heap.size w).alloc (Nat.le_refl _) _).cell (block_lt_of_cell hq)).trans hq
 clear hq
 go_enter Tryz.func138,Tryz.ntmps138
 go_wp2
 go_ret
 exact⟨rfl,(Below.refl _ _).alloc (Nat.le_refl _) _⟩
set_option maxHeartbeats 1000000 in
theorem zk9(q:Nat)(h:Int)(a:Option Addr)(cap:Nat)(l:List (ByteArray×Int))(w:World)(hs:Sls roC 2 w a cap l)(hq:w.cell? ⟨q,0,none⟩=some (.int .i64 h)) :
  Calls Tryz.prog 148 #[.slice a l.length cap,.func (.func 138) #[] #[.pointer (some ⟨q,0,none⟩)]] w fun e w'=>∃ i:Int,e=.returned (.int .i64 i)/\decide (0<=i)=l.any (fun r=>r.2 == h)/\Below w.heap.size w w':=by
 have hl:=hs.2.2.1
 have HS:=zb hs
 have HQ:=zb hq
 clear hs hq
 go_enter Tryz.func148,Tryz.ntmps148
 go_wp2
 go_loopw [5,8] (fun _ iv wr=>∃ k:Nat,k<=l.length/\iv=.int .i64 k/\(l.take k).any (fun r=>r.2 == h)=false/\Below w.heap.size w wr) (fun _ iv _=>l.length-(intOf iv).toNat)
 case atStart=>exact⟨0,Nat.zero_le _,rfl,rfl,Below.refl _ _⟩
 case round =>
  obtain⟨k,hk,rfl,hall,hbel⟩:=hrel
  by_cases hlt:k<l.length
  ·have hne:l≠[]:=by intro e;rw [e] at hlt;simp at hlt
   obtain⟨b1,o1,rfl,hc1⟩:=((za HS).below hbel).2.2.2 hne
   obtain⟨f,hf⟩:∃ f,l[k]?=some f:=⟨l[k],List.getElem?_eq_getElem hlt⟩
   obtain⟨q0,q1⟩:=Sls.root (cap:=0) hc1 hf
   have hq:=(hbel.cell (block_lt_of_cell (za HQ))).trans (za HQ)
   obtain⟨s,x⟩:=f
   have HC:=zb (zsw q s x h wr hq)
   have htk:l.take (k+1)=l.take k++[(s,x)]:=by rw [List.take_add_one,hf];rfl
   have HTK:=zb htk
   have HALL:=zb hall
   have HMEM:=zb (List.mem_of_getElem? hf)
   have HBEL:=zb hbel
   dsimp only at *
   clear hc1 hf hne hq hall hbel htk
   cases hx:(x == h)
   ·have hnew:(l.take (k+1)).any (fun r=>r.2 == h)=false:=by rw [za HTK,List.any_append,za HALL];simp [hx]
    have HNEW:=zb hnew
    rw [hx] at HC
    clear hnew hx
    go_wp2_with (go_at_call 138;refine(za HC).mono ?_;rintro e w1 ⟨rfl,hb1⟩;have HB1:=zb ((za HBEL).trans (hb1.mono (za HBEL).size));clear hb1)
    go_roundw
    case rel=>exact⟨k+1,by omega,by go_num,za HNEW,za HB1⟩
    case measure=>simp [intOf];omega
   ·have hnew:l.any (fun r=>r.2 == h)=true:=List.any_eq_true.2 ⟨_,za HMEM,hx⟩
    have HNEW:=zb hnew
    rw [hx] at HC
    clear hnew hx
    go_wp2_with (go_at_call 138;refine(za HC).mono ?_;rintro e w1 ⟨rfl,hb1⟩;have HB1:=zb ((za HBEL).trans (hb1.mono (za HBEL).size));clear hb1)
    go_ret
    exact⟨k,rfl,by rw [za HNEW];exact decide_eq_true (by omega),za HB1⟩
  ·obtain rfl:k=l.length:=by omega
   rw [List.take_length] at hall
   have HALL:=zb hall
   have HBEL:=zb hbel
   clear hall hbel
   go_wp2
   go_ret
   exact⟨-1,rfl,by rw [za HALL];rfl,za HBEL⟩
theorem zoi(q:Nat)(h:Int)(a:Option Addr)(cap:Nat)(l:List (ByteArray×Int))(w:World)(hs:Sls roC 2 w a cap l)(hq:w.cell? ⟨q,0,none⟩=some (.int .i64 h)) :
  Calls Tryz.prog 137 #[.slice a l.length cap,.func (.func 138) #[] #[.pointer (some ⟨q,0,none⟩)]] w fun e w'=>e=.returned (.bool (l.any (fun r=>r.2 == h)))/\Below w.heap.size w w':=by
 have HI:=zb (zk9 q h a cap l w hs hq)
 generalize l.any (fun r=>r.2 == h)=R at *
 generalize l.length=N at *
 clear hs hq
 go_enter Tryz.func137,Tryz.ntmps137
 go_wp2_with fail
 refine(za HI).mono ?_
 rintro e w1 ⟨i,rfl,hi,hb1⟩
 have HB:=zb hb1
 have HR:=zb hi
 clear hb1 hi HI
 go_wp2
 go_ret
 exact⟨by rw [<- za HR];rfl,za HB⟩
set_option maxHeartbeats 1000000 in
theorem zvx(p g c B:Nat)(L:List Int)(h:Int)(w:World)(hh:Hp w B p g c L)(hc:zO L h≠0) :
  Calls Tryz.prog 92 #[.pointer (some ⟨p,0,none⟩),.int .i64 h] w fun e w'=>e=.returned (zK (zO L h))/\Below w.heap.size w w':=by
 have hB0:Below w.heap.size w (w.alloc (.cells #[.int .i64 h] 3)):=(Below.refl _ _).alloc (Nat.le_refl _) _
 have hcl:=(hh.below hB0).cell
 have hnew:(w.alloc (.cells #[.int .i64 h] 3)).cell? ⟨w.heap.size,0,none⟩=some (.int .i64 h):=by rw [cell_of_row _ _ _ _ _ _ (heap_alloc_new w _)];rfl
 have hd:=zvT (some ⟨g,0,none⟩) c L h (w.alloc (.cells #[.int .i64 h] 3)).drew (hh.bs.below (qk hB0))
 rw [zh _ hc] at hd ⊢
 have HD:Hid (Calls Tryz.prog 135 #[.slice (some ⟨g,0,none⟩) L.length c,.int .i64 h] (w.alloc (.cells #[.int .i64 h] 3)).drew fun e w'=>∃ a' c',e=.returned (.tuple #[.slice a' (qh L h).length c',.iface 107 (.int .i64 (zO L h))])/\Below w.heap.size w w'/\w'.cell? ⟨p,0,none⟩=some (.slice (some ⟨g,0,none⟩) L.length c)/\w'.cell? ⟨w.heap.size,0,none⟩=some (.int .i64 h)):=zb (hd.mono fun e w' ⟨a',c',he,hbs,hb⟩=>⟨a',c',he,(qk hB0).trans (hb.mono (qk hB0).size),(hb.cell (p:=⟨p,0,none⟩) (block_lt_of_cell hcl)).trans hcl,(hb.cell (p:=⟨w.heap.size,0,none⟩) (block_lt_of_cell hnew)).trans hnew⟩)
 have hl:=hh.len
 clear hh hc hd
 generalize (qh L h).length=D at *
 generalize zO L h=X at *
 generalize L.length=N at *
 go_enter Tryz.func92,Tryz.ntmps92
 go_wp2_with fail
 generalize w.alloc (.cells #[.int .i64 h] 3)=wx at *
 go_region_held3 (fun w'=>w'.cell? ⟨p,0,none⟩=some (.slice (some ⟨g,0,none⟩) N c)/\w'.cell? ⟨w.heap.size,0,none⟩=some (.int .i64 h)) (first | go_keep | (go_split_ands;refine⟨?_,?_⟩ <;> go_keep))
  ((go_at_call 135;refine(za HD).mono ?_;rintro e w1 ⟨a',c',rfl,hb1,r0,r1⟩))
 have HB:=zb hb1
 clear hb1 HD
 go_wp2
 go_ret
 exact⟨rfl,za HB⟩
set_option maxHeartbeats 2000000 in
theorem zvy(p g c B:Nat)(L:List Int)(h:Int)(w:World)(hh:Hp w B p g c L)(hB:B<=w.heap.size)(hc:zO L h=0)(R:Bool)(hR:(zk L 8).any (fun r=>r.2 == h)=R) :
  Calls Tryz.prog 92 #[.pointer (some ⟨p,0,none⟩),.int .i64 h] w fun e w'=>e=.returned (zK (frE L h))/\∃ g' c',Hp w' B p g' c' (frB L h)/\Turn (foot p g) (foot p g') w w':=by
 have hB0:Below w.heap.size w (w.alloc (.cells #[.int .i64 h] 3)):=(Below.refl _ _).alloc (Nat.le_refl _) _
 have hcl:=(hh.below hB0).cell
 have hnew:(w.alloc (.cells #[.int .i64 h] 3)).cell? ⟨w.heap.size,0,none⟩=some (.int .i64 h):=by rw [cell_of_row _ _ _ _ _ _ (heap_alloc_new w _)];rfl
 have hd:=zvS (some ⟨g,0,none⟩) c L h (w.alloc (.cells #[.int .i64 h] 3)).drew (hh.bs.below (qk hB0)) hc
 obtain⟨g1,g2,g3⟩:=zq.1 hc
 have g4:=zm.1 g2
 have hp5:=qx g4.1 g4.2
 have hlen:=hh.len
 have hdl:(qh L h).length=L.length:=by
  unfold qh
  rw [if_pos hc,length_splice (by rw [length_zerosB];omega)]
 have hby:=ziE hh.byt h
 have HD:Hid (Calls Tryz.prog 135 #[.slice (some ⟨g,0,none⟩) L.length c,.int .i64 h] (w.alloc (.cells #[.int .i64 h] 3)).drew fun e w'=>∃ g' c' cur',e=.returned (.tuple #[.slice (some ⟨g',0,none⟩) L.length c',.nilIface])/\Row w' w.heap.size g' c' cur' (qh L h)/\Below w.heap.size w w'/\w'.cell? ⟨p,0,none⟩=some (.slice (some ⟨g,0,none⟩) L.length c)/\w'.cell? ⟨w.heap.size,0,none⟩=some (.int .i64 h)):=zb (hd.mono fun e w' ⟨g',c',cur',he,hr,hb⟩=>⟨g',c',cur',by rw [he,hdl],hr.low (qk hB0).size,(qk hB0).trans (hb.mono (qk hB0).size),(hb.cell (p:=⟨p,0,none⟩) (block_lt_of_cell hcl)).trans hcl,(hb.cell (p:=⟨w.heap.size,0,none⟩) (block_lt_of_cell hnew)).trans hnew⟩)
 have HRT:=zb (fun(W:World) (hW:Below w.heap.size w W)=>zei (some ⟨g,0,none⟩) c L W (hh.bs.below hW) hh.fine.len0)
 have hrl:=za3 L 8
 have HCT:=zb (fun(a:Option Addr) (cap:Nat) (W:World) (hs:Sls roC 2 W a cap (zk L 8)) (hq:W.cell? ⟨w.heap.size,0,none⟩=some (.int .i64 h))=>zoi w.heap.size h a cap (zk L 8) W hs hq)
 rw [hR] at HCT
 have HFE:Hid (R=true->frE L h=7/\frB L h=L):=zb (fun e=>by
  have e1:frE L h=7:=by unfold frE;rw [if_neg (fun h=>h hc),if_pos (hR.trans e)]
  exact⟨e1,by unfold frB;rw [e1];rfl⟩)
 have HFN:Hid (R=false->frE L h=0/\frB L h=qh L h/\Fine (qh L h)):=zb (fun e=>by
  have e1:frE L h=0:=zcF.2 ⟨hc,hR.trans e⟩
  exact⟨e1,by unfold frB;rw [if_pos e1],zsS hh.fine e1⟩)
 have HH:=zb hh
 have HBY:=zb hby
 have HDL:=zb hdl
 clear hh hc hd hby hdl hR g1 g2 g3 g4 hp5
 generalize frE L h=FE at *
 generalize frB L h=FB at *
 generalize qh L h=DL at *
 generalize zk L 8=RT at *
 generalize hN:L.length=N at *
 go_enter Tryz.func92,Tryz.ntmps92
 go_wp2_with fail
 generalize w.alloc (.cells #[.int .i64 h] 3)=wx at *
 go_region_held3 (fun w'=>w'.cell? ⟨p,0,none⟩=some (.slice (some ⟨g,0,none⟩) N c)/\w'.cell? ⟨w.heap.size,0,none⟩=some (.int .i64 h)) (first | go_keep | (go_split_ands;refine⟨?_,?_⟩ <;> go_keep))
  ((go_at_call 135;refine(za HD).mono ?_;rintro e w1 ⟨g',c',cur',rfl,hr1,hb1,r0,r1⟩))
 have HR1:=zb hr1
 have HRT1:=zb (za HRT w1 hb1)
 have HB1:=zb hb1
 have HQ1:=zb r1
 clear hb1 hr1 HD HRT hcl hnew hB0
 go_wp2_with fail
 refine(za HRT1).mono ?_
 rintro e w2 ⟨v2,rfl,hown2,hb2⟩
 obtain⟨a2,c2,rfl,hsl2⟩:=hown2.sls zhL (by omega)
 have hq2:=(hb2.cell (p:=⟨w.heap.size,0,none⟩) (block_lt_of_cell (za HQ1))).trans (za HQ1)
 have HCT2:=zb (za HCT a2 c2 w2 hsl2 hq2)
 have HR2:=zb ((za HR1).below hb2)
 have HB2:=zb ((za HB1).trans (hb2.mono (za HB1).size))
 clear hown2 hsl2 hb2 hq2 HRT1 HR1 HB1 HQ1 r0 r1 HCT
 go_wp2_with fail
 refine(za HCT2).mono ?_
 rintro e w3 ⟨rfl,hb3⟩
 have hB3:=(za HB2).trans (hb3.mono (za HB2).size)
 have hr3:=(za HR2).below hb3
 cases R with
 | true =>
  have HB3:=zb hB3
  have HE1:=zb (za HFE rfl).1
  have HE2:=zb (za HFE rfl).2
  clear hb3 hr3 hB3 HCT2 HR2 HB2 HFE HFN
  go_wp2
  go_ret
  refine⟨by rw [za HE1];rfl,g,c,?_,Turn.of_below (za HB3)⟩
  rw [za HE2]
  exact(za HH).below (za HB3)
 | false =>
  obtain⟨e1,e2,e3⟩:=za HFN rfl
  have HSET:=zb ((za HH).set hB3 hr3 (za HBY) e3 hB)
  rw [za HDL] at HSET
  have hcl3:=((za HH).below hB3).cell
  rw [hN] at hcl3
  have hfr3:=((za HH).below hB3).fr
  have HE1:=zb e1
  have HE2:=zb e2
  clear hb3 hr3 hB3 HCT2 HR2 HB2 HH HFE HFN e1 e2 e3
  go_wp2
  go_ret
  refine⟨by rw [za HE1];rfl,g',c',?_⟩
  rw [za HE2]
  exact za HSET
theorem zkf(p g c B:Nat)(L:List Int)(h:Int)(w:World)(hh:Hp w B p g c L)(hB:B<=w.heap.size) :
  Calls Tryz.prog 92 #[.pointer (some ⟨p,0,none⟩),.int .i64 h] w fun e w'=>e=.returned (zK (frE L h))/\∃ g' c',Hp w' B p g' c' (frB L h)/\Turn (foot p g) (foot p g') w w':=by
 by_cases hc:zO L h=0
 ·exact zvy p g c B L h w hh hB hc _ rfl
 ·have e1:frE L h=zO L h:=by unfold frE;rw [if_pos hc]
  have e2:frB L h=L:=by unfold frB;rw [e1,if_neg hc]
  rw [e1,e2]
  exact(zvx p g c B L h w hh hc).mono fun e w' ⟨he,hb⟩=>⟨he,g,c,hh.below hb,Turn.of_below hb⟩
section
variable {w w':World} {B p g c:Nat} {L:List Int}
set_option maxRecDepth 100000 in
theorem zcd(h:Hp w B p g c L)(hB:B<=w.heap.size){a:Option Addr}{cap:Nat}{I:List Int}(hbs:Bs w a cap I)(hf:Fine I)(hl:I.length=L.length) :
  Calls Tryz.prog 154 #[.pointer (some ⟨p,0,none⟩),.slice a I.length cap] w fun e w'=>e=.returned .nilIface/\∃ g' c',Hp w' B p g' c' I/\Turn (foot p g) (foot p g') w w':=by
 have HL:=zb (zke a cap I w hbs hf)
 have HH:=zb h
 have hc:=h.cell
 have hln:=h.len
 have HBY:=zb hbs.1
 have HF:=zb hf
 rw [<- hl] at hc hln
 clear h hbs hf hl
 obtain⟨N,hN⟩:∃ N,I.length=N:=⟨_,rfl⟩
 rw [hN] at hc hln HL ⊢
 have HN:=zb hN
 clear hN
 go_enter Tryz.func154,Tryz.ntmps154
 go_wp2_with fail
 refine(za HL).mono ?_
 rintro e w1 ⟨p1,g1,c1,rfl,hh1,hb1⟩
 have hc1:=hh1.cell
 have hblk1:=(hb1.block p (za HH).plt).trans (za HH).blk
 have hfr1:w1.frozen? ⟨p,0,none⟩=false:=frozen_of_row _ _ 0 _ _ hblk1
 have hcc:=(hb1.cell (p:=⟨p,0,none⟩) (za HH).plt).trans hc
 have HSET:Hid (Hp (w1.setCell ⟨p,0,none⟩ (.slice (some ⟨g1,0,none⟩) N c1)) B p g1 c1 I/\Turn (foot p g) (foot p g1) w (w1.setCell ⟨p,0,none⟩ (.slice (some ⟨g1,0,none⟩) N c1))):=zb (by
  obtain⟨cur,hr⟩:=hh1.row
  rw [<- za HN]
  exact(za HH).set hb1 hr (za HBY) (za HF) hB)
 rw [za HN] at hc1
 clear hh1 hblk1 hb1 HL HH HBY HF HN hc
 go_wp2
 go_ret
 exact⟨rfl,g1,c1,(za HSET).1,(za HSET).2⟩
end
end Go.Proofs.YtchmlnmhbfaclaaGreatDoor
