/-
  Parts of the proofs, joined by program.
-/
import Derived.Test.YtchmlnmhbfaclaaGreatDoorJPg
import Derived.Laws.ResultCell
import Derived.Deep.RegionHeld3
namespace Go.Proofs.YtchmlnmhbfaclaaGreatDoor
open Go.RowKit
set_option linter.unusedVariables false
def zDu(w:World)(base:Nat)(v:Value)(l:List Int):Prop:=w.ownsRow base 3 1 v l.length (l.map (Value.int .i64))
def MkV(w:World)(base:Nat)(m:Option (Int×List Int))(v:Value):Prop :=
 match m with
 | some (s,l)=>∃ nv,v=.agg #[.int .i64 s,nv]/\zDu w base nv l
 | none=>v=.agg #[.int .i64 0,.slice none 0 0]
def zzG(l:List Int)(j:Nat):List Value:=(l.take j).map (Value.int .i64)
theorem zrr{l:List Int}{j:Nat}(h:j<l.length):zzG l (j+1)=zzG l j++[.int .i64 (l.getD j 0)]:=by
 have e:l.getD j 0=l[j]:=by simp [List.getD,h]
 unfold zzG
 rw [List.take_succ_eq_append_getElem h,List.map_append,e]
 rfl
theorem zuN(l:List Int):zzG l l.length=l.map (Value.int .i64):=by unfold zzG;rw [List.take_of_length_le (Nat.le_refl _)]
theorem zu7{L:Nat}{b:List Int}(h:(zV b).2.2≠0):mark L b=none:=by
 unfold mark
 rw [if_neg]
 rintro ⟨h1,_⟩;exact h h1
theorem zrM{L:Nat}{b:List Int}(h:¬ (zV b).2.1.getD 0 0<=23):mark L b=none:=by
 unfold mark
 rw [if_neg]
 rintro ⟨_,h1,_⟩;exact h h1
theorem zrL{L:Nat}{b:List Int}(h:0<=zcO L (numsOf (zV b).2.1) 0):mark L b=none:=by
 unfold mark
 rw [if_neg]
 rintro ⟨_,_,h1⟩
 obtain⟨z,hz,hz2⟩:=(zgq (Int.le_refl 0)).1 h
 have:=h1 z hz
 omega
theorem zoZ{L:Nat}{b:List Int}(h0:(zV b).2.2=0)(h1:(zV b).2.1.getD 0 0<=23)(h2:¬ 0<=zcO L (numsOf (zV b).2.1) 0):mark L b=some ((zV b).1,numsOf (zV b).2.1):=by
 unfold mark
 rw [if_pos]
 refine⟨h0,h1,fun z hz=>?_⟩
 rcases Int.lt_or_le z L with h | h
 ·exact h
 ·exact absurd ((zgq (Int.le_refl 0)).2 ⟨z,hz,h⟩) h2
theorem zlu{b:List Int}(h:(zV b).2.2=0):(zV b).2.1.length=24:=by
 unfold zV at h ⊢
 by_cases h1:b.length≠32
 ·rw [if_pos h1] at h;cases h
 ·rw [if_neg h1] at h ⊢
  by_cases h2:Qj b 0 4≠Qj b 28 4
  ·rw [if_pos h2] at h;cases h
  ·rw [if_neg h2] at h ⊢
   by_cases h3:Qj b 0 4=0
   ·rw [if_pos h3] at h;cases h
   ·rw [if_neg h3]
    simp;omega
theorem zqw{P:Program}{t:TypeId}(hu:P.underlying t=some (.slice 5))(hsz:(P.info? 5).map (·.size)=some 1){w:World}{a:Option Addr}{cap:Nat}{l:List Int}(hb:Bs w a cap l)(i:Nat)(hi:i<=l.length) :
  ∃ a',(∀ w',(Instr.slice t (.slice a l.length cap) none (some (.int .u8 i)) none).run P w'=.ok (.slice a' i cap) w')/\Bs w a' cap (l.take i):=by
 have he:=elem_u8 hu
 have hcap:=hb.2.1
 refine⟨a,fun w'=>?_,hb.take i⟩
 rw [run_slice_h (P:=P) (w:=w') t a l.length cap (by rw [he];exact hu) .u8 i (by omega) (by omega),he,run_size_u8 w' hsz]
 simp only [Result.andThen,sliced]
 by_cases h0:cap=0
 ·simp [h0]
 ·rw [if_neg h0]
  cases a with
  | none=>exact absurd (hb.2.2.2.1 rfl) h0
  | some x=>simp [Addr.add]
theorem Bs.cell0{w:World}{a:Option Addr}{cap:Nat}{l:List Int}(hb:Bs w a cap l)(i:Nat)(hi:i<l.length):∃ b off,a=some ⟨b,off,none⟩/\w.cell? ⟨b,off+i,none⟩=some (.int .u8 (l.getD i 0)):=by
 obtain⟨b,off,rfl,hc⟩:=hb.2.2.2.2 (by intro h;subst h;simp at hi)
 exact⟨b,off,rfl,hc i hi⟩
theorem zqz:(Tryz.prog.info? 207).map (·.size)=some 2:=by kernel_rfl
theorem zay{fn:Func}{p u:Tmp}(h:fn.results=#[.cell p 207,.tmp u])(tmps:Array Value)(w:World)(g:Nat)(cs:Array Value)
  (hp:tmps.getD p undef=.pointer (some ⟨g,0,none⟩)) (hg:w.heap[g]?=some (.cells cs 207 (0,0))) (hcs:cs.size=2) :
  (results fn tmps).run Tryz.prog w=.ok (.tuple #[.agg cs,tmps.getD u undef]) w:=by
 rw [results_cell_tmp h,hp]
 have:=run_loadVar_row (P:=Tryz.prog) w g 207 207 cs (0,0) _ hg Tryz.underlying207 rfl (by rw [zqz,hcs])
 simp [asAddr,this,Result.andThen]
theorem zeW{W:World}{g:Nat}{x y:Value}(h:W.heap[g]?=some (.cells #[x,y] 207 (0,0)))(a b:Value):((W.setCell ⟨g,0,none⟩ a).setCell ⟨g,1,none⟩ b).heap[g]?=some (.cells #[a,b] 207 (0,0)):=by
 rw [heap_setCell_same _ _ _ _ _ _ (heap_setCell_same _ _ _ _ _ _ h)];rfl
theorem zfH{w:World}{base e size:Nat}{v:Value}{n:Nat}{xs:List Value}(h:w.ownsRow base e size v n xs):∃ a m c,v=.slice a m c:=by
 rcases h.2 with ⟨rfl,_⟩ | ⟨g,cap,cur,rfl,_⟩
 ·exact⟨_,_,_,rfl⟩
 ·exact⟨_,_,_,rfl⟩
theorem zm2{w:World}{base base' e size:Nat}{v:Value}{n:Nat}{xs:List Value}(h:w.ownsRow base e size v n xs)(hb:base'<=base):w.ownsRow base' e size v n xs:=by
 refine⟨h.1,?_⟩
 rcases h.2 with h0 | ⟨g,cap,cur,h1,h2,h3⟩
 ·exact .inl h0
 ·exact .inr ⟨g,cap,cur,h1,Nat.le_trans hb h2,h3⟩
theorem zcY{w:World}{base e size:Nat}{v:Value}{n:Nat}{xs:List Value}(h:w.ownsRow base e size v n xs){a:Addr}(hn:v.ownBlock≠some a.block)(x:Value):(w.setCell a x).ownsRow base e size v n xs :=
 qC h (fun g hg=>heap_setCell_other _ _ _ _ (fun e=>hn (by rw [hg,e])))
theorem zrk{w:World}{base e size:Nat}{v:Value}{n:Nat}{xs:List Value}(h:w.ownsRow base e size v n xs){g t:Nat}{cs:Array Value}(hg:w.heap[g]?=some (.cells cs t (0,0)))(ht:e≠t):v.ownBlock≠some g:=by
 intro e2
 obtain⟨cur,h1⟩:=qI h e2
 rw [hg] at h1
 simp at h1
 exact ht h1.2.symm
section
variable {w:World}
set_option maxRecDepth 100000 in
set_option maxHeartbeats 400000 in
theorem zjJ(L:Nat)(a:Option Addr)(cap:Nat)(l:List Int)(hb:Bs w a cap l)(hL:L<=200) :
  Calls Tryz.prog 295 #[.slice a l.length cap,.int .i64 L] w fun e w'=>∃ v,e=.returned (.tuple #[v,.bool (mark L l).isSome])/\MkV w' w.heap.size (mark L l) v/\Below w.heap.size w w':=by
 have hl:=hb.2.2.1
 obtain⟨w1,hw1⟩:∃ w1,w1=(w.alloc (.cells #[.int .i64 (L:Int)] 3)).alloc (.cells #[.int .i64 0,.slice none 0 0] 207):=⟨_,rfl⟩
 have hb1:Below w.heap.size w w1:=by rw [hw1];exact((Below.refl _ _).alloc (Nat.le_refl _) _).alloc (by simp) _
 have hs1:w1.heap.size=w.heap.size+2:=by rw [hw1];simp
 have hg1:w1.heap[w.heap.size]?=some (.cells #[.int .i64 (L:Int)] 3 (0,0)):=by rw [hw1,heap_alloc_old _ _ (by simp)];exact heap_alloc_new _ _
 have hm1:w1.heap[w.heap.size+1]?=some (.cells #[.int .i64 0,.slice none 0 0] 207 (0,0)):=by
  rw [hw1]
  have:=heap_alloc_new (w.alloc (.cells #[.int .i64 (L:Int)] 3)) (.cells #[.int .i64 0,.slice none 0 0] 207)
  rw [size_alloc] at this
  exact this
 have hop:=zuJ a cap l w1 (hb.below hb1)
 have HOP:=zb hop
 have HB1:=zb hb1
 have HG1:=zb hg1
 have HM1:=zb hm1
 have HL:=zb (@zlu l)
 have M1:=zb (@zu7 L l)
 have M2:=zb (@zrM L l)
 have M3:=zb (@zrL L l)
 have M4:=zb (@zoZ L l)
 clear hop hb1 hg1 hm1 hb
 generalize zV l=O at *
 generalize mark L l=M at *
 obtain⟨i0,hi0,hz0,hz1,hz2⟩:=info_parts zdG
 go_enter Tryz.func295,Tryz.ntmps295
 go_wp2_with fail
 rw [<- hw1]
 clear hw1
 refine(za HOP).mono ?_
 rintro e w2 ⟨a2,c2,rfl,hb2,hbel2⟩
 obtain⟨n,B,E⟩:=O
 dsimp only at *
 have HBEL:=zb ((za HB1).trans (hbel2.mono (za HB1).size))
 have hg2:=(hbel2.block _ (by omega)).trans (za HG1)
 have hm2:=(hbel2.block _ (by omega)).trans (za HM1)
 have hs2:=hbel2.size
 have r0:w2.cell? ⟨w.heap.size+1,0,none⟩=some (.int .i64 0):=by rw [cell_of_row _ _ _ _ _ _ hm2];rfl
 have r1:w2.cell? ⟨w.heap.size+1,1,none⟩=some (.slice none 0 0):=by rw [cell_of_row _ _ _ _ _ _ hm2];rfl
 have f0:=frozen_of_row _ _ 0 _ _ hm2
 have f1:=frozen_of_row _ _ 1 _ _ hm2
 have HG2:=zb hg2
 have HM2:=zb hm2
 have HB2:=zb hb2
 clear hbel2 hg2 hm2 hb2 HOP HB1 HG1 HM1
 by_cases hE:E=0
 ·subst hE
  rw [zf]
  have hB:=za HL rfl
  obtain⟨b,off,rfl,hc0⟩:=(za HB2).cell0 0 (by omega)
  rw [Nat.add_zero] at hc0
  obtain⟨z0,z1⟩:=(za HB2).1.getD 0
  by_cases hz:B.getD 0 0<=23
  ·obtain⟨a3,hlo,hb3⟩:=slice_lo (P:=Tryz.prog) (t:=29) Tryz.underlying29 zx (za HB2) 1 (by omega)
   obtain⟨k,hk⟩:∃ k:Nat,B.getD 0 0=k:=⟨(B.getD 0 0).toNat,by omega⟩
   have hl3:(B.drop 1).length=23:=by simp;omega
   obtain⟨a4,hhi,hb4⟩:=zqw (P:=Tryz.prog) (t:=29) Tryz.underlying29 zx hb3 k (by omega)
   have hnum:numsOf B=(B.drop 1).take k:=by unfold numsOf;rw [hk,Int.toNat_natCast]
   have hnl:((B.drop 1).take k).length=k:=by simp;omega
   rw [<- hnum] at hb4 hnl
   rw [hl3] at hhi
   rw [hB] at hlo ⊢
   rw [hk] at hc0 hz z0 z1
   rw [show((1:Nat):Int)=1 from rfl] at hlo
   have hgc:w2.cell? ⟨w.heap.size,0,none⟩=some (.int .i64 (L:Int)):=by rw [cell_of_row _ _ _ _ _ _ (za HG2)];rfl
   have hcon:∀ n,Calls Tryz.prog 195 #[.slice a4 k (c2-1),.func (.func 328) #[] #[.pointer (some ⟨w.heap.size,0,none⟩)]] (w2.drewN n) fun e w'=>e=.returned (.bool (decide (0<=zcO L (numsOf B) 0)))/\w2.drewN n=w':=fun n=>by
    have:=zhV (w:=w2.drewN n) w.heap.size L a4 (c2-1) (numsOf B) (ze7 hb4 n) hgc
    rwa [hnl] at this
   have HBN:=zb hb4
   have HNL:=zb hnl
   have M4':=zb (za M4 rfl (by rw [hk];omega))
   clear hb3 hb4 hnl hl3 hnum hB HB2 HL M1 M2 M4 hk
   have hk23:k<=23:=by omega
   clear hgc
   by_cases hbad:0<=zcO (L:Int) (numsOf B) 0
   ·rw [decide_eq_true hbad] at hcon
    have HCON:=zb hcon
    have hM:=za M3 hbad
    subst hM
    clear hcon M3 M4' hbad
    go_wp2_with fail
    go_quiet (fail)
    go_wp2_with fail
    refine(za HCON _).mono ?_
    rintro e w3 ⟨rfl,rfl⟩
    go_wp2
    have hbel:=za HBEL
    refine bodyPost_ret (zay Tryz.results295 _ _ (w.heap.size+1) _ rfl (zeW (W:=w2.drewN nq) (za HM2) _ _) rfl) rfl ?_
    exact⟨_,rfl,rfl,((below_drewN hbel nq).setCell (by exact Nat.le_succ _) _).setCell (by exact Nat.le_succ _) _⟩
   ·have hM:=za M4' (by omega)
    subst hM
    rw [decide_eq_false hbad] at hcon
    have HCON:=zb hcon
    clear hcon M3 M4' hbad
    obtain⟨nums,hnums⟩:∃ nums,numsOf B=nums:=⟨_,rfl⟩
    rw [hnums] at HBN HNL
    have HNU:=zb hnums
    clear hnums
    go_wp2_with fail
    go_quiet (fail)
    go_wp2_with fail
    refine(za HCON _).mono ?_
    rintro e w3 ⟨rfl,hw3⟩
    have hm3:w3.heap[w.heap.size+1]?=some (.cells #[.int .i64 0,.slice none 0 0] 207 (0,0)):=by rw [<- hw3];exact za HM2
    have hb3:Bs w3 a4 (c2-1) nums:=by rw [<- hw3];exact za HBN
    have hbel3:Below w.heap.size w w3:=by rw [<- hw3];exact below_drewN (za HBEL) nq
    have hs3:w.heap.size+2<=w3.heap.size:=by rw [<- hw3];show _<=w2.heap.size;omega
    have HM3:=zb hm3
    have HB3:=zb hb3
    have HBEL3:=zb hbel3
    clear hw3 hm3 hb3 hbel3 HCON HM2 HBN HBEL HG2 hlo hhi hc0 r0 r1 f0 f1
    go_wp2_with fail
    have hgm:=heap_alloc_new w3 (.cells #[.int .i64 n,.slice none 0 0] 207)
    have HGM:=zb hgm
    clear hgm
    have hnl:=za HNL
    go_loopw [42] (fun v wr=>∃ (j:Nat) (nv:Value),j<=k/\v=.int .i64 j/\wr.heap[w3.heap.size]?=some (.cells #[.int .i64 n,nv] 207 (0,0))/\wr.ownsRow w3.heap.size 3 1 nv j (zzG nums j)/\Below w3.heap.size w3 wr) (fun v _=>k-(intOf v).toNat)
    case atStart=>exact⟨0,_,Nat.zero_le _,rfl,za HGM,World.ownsRow_nil _ _ _ _,(Below.refl _ _).alloc (Nat.le_refl _) _⟩
    case round =>
     obtain⟨j,nv,hj,rfl,hgm,hown,hbel⟩:=hrel
     obtain⟨na,nl,nc,rfl⟩:=zfH hown
     have m1:wr.cell? ⟨w3.heap.size,1,none⟩=some (.slice na nl nc):=by rw [cell_of_row _ _ _ _ _ _ hgm];rfl
     by_cases hlt:j<k
     ·have hb4:=(za HB3).below hbel
      obtain⟨bb,ob,rfl,hcj⟩:=hb4.cell0 j (by omega)
      obtain⟨z0,z1⟩:=hb4.1.getD j
      have hsz:=hbel.size
      have hne:=zrk hown hgm (by decide)
      have HO:=zb (World.ownsRow.alloc hown (.cells #[.int .i64 (nums.getD j 0)] 3))
      have HB5:=zb (hbel.alloc hsz (.cells #[.int .i64 (nums.getD j 0)] 3))
      have HBK:=zb (zdx hown)
      have HTK:=zb (zrr (l:=nums) (j:=j) (by omega))
      have HGM2:=zb (show(wr.alloc (.cells #[.int .i64 (nums.getD j 0)] 3)).heap[w3.heap.size]?=_ from(heap_alloc_old _ _ ((Array.getElem?_eq_some_iff.1 hgm).1)).trans hgm)
      have HNE:=zb hne
      have hgl:w3.heap.size<wr.heap.size:=(Array.getElem?_eq_some_iff.1 hgm).1
      clear hb4 hown hbel hgm HGM hne
      generalize nums.getD j 0=z at *
      go_wp2_with (at_builtin;refine wpList_append_own_at _ rfl _ _ 90 rfl w3.heap.size 3 i0 (.int .i64 0) 1 8 Tryz.underlying90 hi0 hz0 hz1 hz2 rfl (by decide) _ _ _ rfl (za HO) ⟨wr.heap.size,0,none⟩ 1 1 [.int .i64 z] rfl rfl (zgm _ _ _) (zlv _) (by unfold maxLen;omega) (by omega) (by simp;omega) ?_)
      intro v9 w9 hown9 hgrow9 _ _
      have hgm9:=(hgrow9.block w3.heap.size (by simp;omega) (fun e=>za HNE e.symm)).trans (za HGM2)
      have m19:w9.cell? ⟨w3.heap.size,1,none⟩=some (.slice na nl nc):=by rw [cell_of_row _ _ _ _ _ _ hgm9];rfl
      have fr9:=frozen_of_row _ _ 1 _ _ hgm9
      obtain⟨va,vl,vc,rfl⟩:=zfH hown9
      have HGM9:Hid ((w9.setCell ⟨w3.heap.size,1,none⟩ (.slice va vl vc)).heap[w3.heap.size]?=some (.cells #[.int .i64 n,.slice va vl vc] 207 (0,0))):=zb (by rw [heap_setCell_same _ _ _ _ _ _ hgm9];rfl)
      have HO9:=zb (zcY hown9 (a:=⟨w3.heap.size,1,none⟩) (zrk hown9 hgm9 (by decide)) (.slice va vl vc))
      rw [<- za HTK] at HO9
      have hb9:=(za HB5).grown hgrow9 (by simp;omega) (za HBK)
      have HB9:Hid (Below w3.heap.size w3 (w9.setCell ⟨w3.heap.size,1,none⟩ (.slice va vl vc))):=zb (hb9.setCell (Nat.le_refl _) _)
      clear hb9
      clear hown9 hgrow9 hgm9 HO HB5 HBK HGM2 HNE HTK
      go_wp2
      go_roundw
      case rel=>exact⟨j+1,_,by omega,by go_num,za HGM9,za HO9,za HB9⟩
      case measure=>simp [intOf];omega
     ·obtain rfl:j=k:=by omega
      have hall:=zuN nums
      rw [hnl] at hall
      rw [hall] at hown
      have m0:wr.cell? ⟨w3.heap.size,0,none⟩=some (.int .i64 n):=by rw [cell_of_row _ _ _ _ _ _ hgm];rfl
      have hm:=(hbel.block _ (by omega)).trans (za HM3)
      have r0:wr.cell? ⟨w.heap.size+1,0,none⟩=some (.int .i64 0):=by rw [cell_of_row _ _ _ _ _ _ hm];rfl
      have r1:wr.cell? ⟨w.heap.size+1,1,none⟩=some (.slice none 0 0):=by rw [cell_of_row _ _ _ _ _ _ hm];rfl
      have f0:=frozen_of_row _ _ 0 _ _ hm
      have f1:=frozen_of_row _ _ 1 _ _ hm
      have HM:=zb hm
      have HO:=zb hown
      have HBW:=zb ((za HBEL3).trans (hbel.mono (by omega)))
      have HNE:=zb (zrk hown hm (by decide))
      clear hm hown hbel hgm HGM
      go_wp2
      refine bodyPost_ret (zay Tryz.results295 _ _ (w.heap.size+1) _ rfl (zeW (W:=wr) (za HM) _ _) rfl) rfl ?_
      refine⟨_,rfl,⟨_,rfl,?_⟩,((za HBW).setCell (by exact Nat.le_succ _) _).setCell (by exact Nat.le_succ _) _⟩
      have:=zcY (zcY (zm2 (za HO) (by omega:w.heap.size<=w3.heap.size)) (a:=⟨w.heap.size+1,0,none⟩) (za HNE) (.int .i64 n)) (a:=⟨w.heap.size+1,1,none⟩) (za HNE) (.slice na nl nc)
      unfold zDu
      rw [za HNU,hnl]
      exact this
  ·have hM:=za M2 (by omega)
   subst hM
   generalize B.getD 0 0=z at *
   rw [hB]
   have hz':23<z:=by omega
   clear M1 M2 M3 M4 HL hB hz
   go_wp2
   have hbel:=za HBEL
   refine bodyPost_ret (zay Tryz.results295 _ _ (w.heap.size+1) _ rfl (zeW (W:=w2) (za HM2) _ _) rfl) rfl ?_
   exact⟨_,rfl,rfl,(hbel.setCell (by exact Nat.le_succ _) _).setCell (by exact Nat.le_succ _) _⟩
 ·have hM:=za M1 hE
  subst hM
  rw [zh _ hE]
  clear M1 M2 M3 M4 HL
  generalize B.length=bl at *
  go_wp2
  have hbel:=za HBEL
  refine bodyPost_ret (zay Tryz.results295 _ _ (w.heap.size+1) _ rfl (zeW (W:=w2) (za HM2) _ _) rfl) rfl ?_
  exact⟨_,rfl,rfl,(hbel.setCell (by exact Nat.le_succ _) _).setCell (by exact Nat.le_succ _) _⟩
end
end Go.Proofs.YtchmlnmhbfaclaaGreatDoor
namespace Go.Proofs.YtchmlnmhbfaclaaGreatDoor
open Go.RowKit Go.MapKept Go.ChangeMaps
open Go.Maps (Keyed)
set_option linter.unusedVariables false
def zib(n:Int):DataW Unit:=.lit (.int .i64 n)
def zjT:Value->Option (DataW Unit×List MemPlace)
 | .agg cs=>match cs.toList with
  | [.int .i64 s,.slice none n c]=>some (.agg [zib s,zib n,zib c],[])
  | [.int .i64 s,.slice (some ⟨b,off,none⟩) n c]=>some (.agg [zib s,zib n,zib c,zib b,zib off],[])
  | _=>none
 | _=>none
theorem zjS{v v':Value}{d:DataW Unit}{ps ps':List MemPlace}(h:zjT v=some (d,ps))(h':zjT v'=some (d,ps')):v=v':=by
 unfold zjT at h h'
 split at h
 ·rename_i cs
  split at h
  ·rename_i s n c e
   split at h'
   ·rename_i cs'
    split at h'
    ·rename_i s' n' c' e'
     simp only [Option.some.injEq,Prod.mk.injEq] at h h'
     have:=h.1.trans h'.1.symm
     simp [zib] at this
     obtain⟨rfl,h1,h2⟩:=this
     obtain rfl:n=n':=by omega
     obtain rfl:c=c':=by omega
     rw [<- e'] at e
     congr 1
     exact Array.ext' e
    ·rename_i s' b' o' n' c' e'
     simp only [Option.some.injEq,Prod.mk.injEq] at h h'
     have:=h.1.trans h'.1.symm
     simp at this
    ·cases h'
   ·cases h'
  ·rename_i s b o n c e
   split at h'
   ·rename_i cs'
    split at h'
    ·rename_i s' n' c' e'
     simp only [Option.some.injEq,Prod.mk.injEq] at h h'
     have:=h.1.trans h'.1.symm
     simp at this
    ·rename_i s' b' o' n' c' e'
     simp only [Option.some.injEq,Prod.mk.injEq] at h h'
     have:=h.1.trans h'.1.symm
     simp [zib] at this
     obtain⟨rfl,h1,h2,h3,h4⟩:=this
     obtain rfl:n=n':=by omega
     obtain rfl:c=c':=by omega
     obtain rfl:b=b':=by omega
     obtain rfl:o=o':=by omega
     rw [<- e'] at e
     congr 1
     exact Array.ext' e
    ·cases h'
   ·cases h'
  ·cases h
 ·cases h
def zjU:Value:=.agg #[.int .i64 0,.slice none 0 0]
theorem zef:zjT zjU=some (.agg [zib 0,zib 0,zib 0],[]):=rfl
theorem ziV(w:World):(zeroValue 207).run Tryz.prog w=.ok zjU w:=by
 have h:(Tryz.prog.info? 207).map (fun i=>i.zero)=some (some zjU):=by kernel_rfl
 cases hi:Tryz.prog.info? 207 with
 | none=>rw [hi] at h;cases h
 | some i =>
  rw [hi] at h
  simp at h
  simp [zeroValue,typeInfo,hi,h]
def Okv(v:Value):Prop:=∃ d ps,zjT v=some (d,ps)
theorem zro(s:Int){w:World}{base e size:Nat}{v:Value}{n:Nat}{xs:List Value}(h:w.ownsRow base e size v n xs):Okv (.agg #[.int .i64 s,v]):=by
 rcases h.2 with ⟨rfl,_⟩ | ⟨g,cap,cur,rfl,_⟩
 ·exact⟨_,_,rfl⟩
 ·exact⟨_,_,rfl⟩
def RM(w:World)(m n:Nat)(f:Nat->Option Value):Prop :=
 ∃ Dm,w.ownsMap Tryz.prog 3 zjT m n Dm/\∀ i:Nat,i<2->Maps.has Dm (.int .i64 i)=(f i).isSome/\∀ v,f i=some v->∃ d ps,zjT v=some (d,ps)/\Dm.atKey (.int .i64 i) (.agg [zib 0,zib 0,zib 0])=d
theorem RM.lt{w:World}{m n:Nat}{f:Nat->Option Value}(h:RM w m n f):m<w.heap.size:=by
 obtain⟨Dm,h1,_⟩:=h
 exact h1.lt
theorem RM.same{w w':World}{m n:Nat}{f:Nat->Option Value}(h:RM w m n f)(hs:w'.heap[m]?=w.heap[m]?):RM w' m n f:=by
 obtain⟨Dm,⟨es,clock,hb,r⟩,h2⟩:=h
 exact⟨Dm,⟨es,clock,hs.trans hb,r⟩,h2⟩
theorem RM.below{w w':World}{m n:Nat}{f:Nat->Option Value}(h:RM w m n f)(hb:Below w.heap.size w w'):RM w' m n f:=h.same (hb.block m h.lt)
theorem RM.made(w:World):RM (w.alloc (.map #[] 0)) w.heap.size 0 (fun _=>none):=⟨.map [],World.ownsMap_made w _ _ _,fun i _=>⟨rfl,fun v hv=>by cases hv⟩⟩
theorem RM.look{w:World}{m n:Nat}{f:Nat->Option Value}(h:RM w m n f)(c:Bool){i:Nat}(hi:i<2) :
  (Instr.lookup 343 (.map (some m)) (.int .i64 i) c).run Tryz.prog w=.ok (if c then .tuple #[(f i).getD zjU,.bool (f i).isSome] else (f i).getD zjU) w:=by
 obtain⟨Dm,hown,hD⟩:=h
 have hkey:=Maps.keyOf_int_mk (P:=Tryz.prog) Tryz.underlying3 (zdk i (by omega))
 have hval:∀ v ps,zjT v=some (Dm.atKey (.int .i64 i) (.agg [zib 0,zib 0,zib 0]),ps)->v=(f i).getD zjU:=by
  intro v ps hv
  cases hm:f i with
  | none =>
   have hno:Maps.has Dm (.int .i64 i)=false:=by rw [(hD i hi).1,hm];rfl
   rw [Maps.atKey_of_not_has hno] at hv
   exact zjS hv zef
  | some b =>
   obtain⟨d,ps',h1,h2⟩:=(hD i hi).2 b hm
   rw [h2] at hv
   exact zjS hv h1
 cases c with
 | true =>
  obtain⟨v,ps,hrun,hv⟩:=hown.look_ok (Maps.int_keyed Tryz.underlying3) Tryz.underlying343 (ziV w) zef hkey
  rw [hrun,hval v ps hv,(hD i hi).1];rfl
 | false =>
  obtain⟨v,ps,hrun,hv⟩:=hown.lookup (Maps.int_keyed Tryz.underlying3) Tryz.underlying343 (ziV w) zef hkey
  rw [hrun,hval v ps hv];rfl
def setF(f:Nat->Option Value)(i:Nat)(v:Value):Nat->Option Value:=fun j=>if j=i then some v else f j
theorem RM.store{w:World}{m n:Nat}{f:Nat->Option Value}(h:RM w m n f){i:Nat}(hi:i<2){v:Value}(hv:Okv v)(hn:n<=300) :
  ∃ w',(Instr.mapUpdate 343 (.map (some m)) (.int .i64 i) v).run Tryz.prog w=.ok () w'/\RM w' m (n+1) (setF f i v)/\w.mapTurned w' m:=by
 obtain⟨Dm,hown,hD⟩:=h
 obtain⟨d,ps,hv⟩:=hv
 have hkey:=Maps.keyOf_int_mk (P:=Tryz.prog) Tryz.underlying3 (zdk i (by omega))
 obtain⟨w',hrun,hown',ht⟩:=hown.store (Maps.int_keyed Tryz.underlying3) Tryz.underlying343 (by unfold maxLen;omega) hkey hv
 have hlit:WideAt.IsKeyLit (.int .i64 (i:Int)):=(Maps.int_keyed Tryz.underlying3).key hkey
 refine⟨w',hrun,⟨_,hown',fun j hj=>?_⟩,ht⟩
 unfold setF
 by_cases e:j=i
 ·subst e
  rw [if_pos rfl]
  refine⟨by rw [Maps.has_put_same hown.isMap hlit];rfl,fun u hu=>?_⟩
  obtain rfl:=Option.some.inj hu
  exact⟨d,ps,hv,Maps.atKey_put_same hown.isMap hlit _ _⟩
 ·have hne:Lit.int .i64 (j:Int)≠Lit.int .i64 (i:Int):=by
   intro e2;simp only [Lit.int.injEq,true_and] at e2;omega
  rw [if_neg e,Maps.has_put_other hne,Maps.atKey_put_other hne]
  exact hD j hj
theorem zlB(x:Int)(w:World):Calls Tryz.prog 329 #[.int .i64 x] w fun e w'=>e=.returned (.bool false)/\w=w':=by
 go_enter Tryz.func329,Tryz.ntmps329
 go_wp2
 go_ret
 exact⟨by simp,rfl⟩
def zxa(x y:Int):Int:=if x<y then -1 else if y<x then 1 else 0
theorem zmb(x y:Int)(w:World):Calls Tryz.prog 298 #[.int .i64 x,.int .i64 y] w fun e w'=>e=.returned (.int .i64 (zxa x y))/\w=w':=by
 unfold zxa
 by_cases h1:x<y
 ·rw [if_pos h1]
  go_enter Tryz.func298,Tryz.ntmps298
  go_wp2_with (go_at_call 329;refine(zlB _ _).mono ?_;rintro e w' ⟨rfl,rfl⟩)
  go_ret
  exact⟨rfl,rfl⟩
 ·rw [if_neg h1]
  by_cases h2:y<x
  ·rw [if_pos h2]
   go_enter Tryz.func298,Tryz.ntmps298
   go_wp2_with (go_at_call 329;refine(zlB _ _).mono ?_;rintro e w' ⟨rfl,rfl⟩)
   go_ret
   exact⟨rfl,rfl⟩
  ·rw [if_neg h2]
   go_enter Tryz.func298,Tryz.ntmps298
   go_wp2_with (go_at_call 329;refine(zlB _ _).mono ?_;rintro e w' ⟨rfl,rfl⟩)
   go_ret
   exact⟨rfl,rfl⟩
def Stp(f:Nat->Option Value)(i:Nat)(s:Int):Prop:=∃ nv,(f i).getD zjU=.agg #[.int .i64 s,nv]
theorem zl0(x:Int)(nv:Value)(w:World):(Instr.field 207 (.agg #[.int .i64 x,nv]) 0).run Tryz.prog w=.ok (.int .i64 x) w:=by
 simp [Instr.field,run_underlying Tryz.underlying207,run_underlying Tryz.underlying3,part,isAgg,asAgg,go_sem]
set_option maxRecDepth 100000 in
theorem zlA{w:World}{m n g:Nat}{f:Nat->Option Value}(h:RM w m n f)(hg:w.cell? ⟨g,0,none⟩=some (.map (some m))){i j:Nat}(hi:i<2)(hj:j<2){x y:Int}(hx:Stp f i x)(hy:Stp f j y) :
  Calls Tryz.prog 297 #[.int .i64 i,.int .i64 j,.pointer (some ⟨g,0,none⟩)] w fun e w'=>e=.returned (.int .i64 (zxa x y))/\w=w':=by
 obtain⟨nx,hx⟩:=hx
 obtain⟨ny,hy⟩:=hy
 have l1:=h.look false hi
 have l2:=h.look false hj
 rw [hx] at l1
 rw [hy] at l2
 simp only [Bool.false_eq_true,if_false] at l1 l2
 have hf:=zl0
 clear h hx hy
 go_enter Tryz.func297,Tryz.ntmps297
 go_wp2_with fail
 refine(zmb x y w).mono ?_
 rintro e w' ⟨rfl,rfl⟩
 go_wp2
 go_ret
 exact⟨rfl,rfl⟩
set_option maxRecDepth 100000 in
theorem zyz{w:World}{m n g b:Nat}{f:Nat->Option Value}(h:RM w m n f)(hg:w.cell? ⟨g,0,none⟩=some (.map (some m))){x y:Int}(hx:Stp f 0 x)(hy:Stp f 1 y)(hb:w.heap[b]?=some (.cells #[.int .i64 0,.int .i64 1] 3 (0,0))) :
  Calls Tryz.prog 296 #[.slice (some ⟨b,0,none⟩) 2 2,.func (.func 297) #[] #[.pointer (some ⟨g,0,none⟩)]] w fun e w'=>e=.returned (.int .i64 (if x<y then 1 else 0))/\w=w':=by
 have HN:=zb (zlA h hg (i:=1) (j:=0) (by decide) (by decide) hy hx)
 have b0:w.cell? ⟨b,0,none⟩=some (.int .i64 0):=by rw [cell_of_row _ _ _ _ _ _ hb];rfl
 have b1:w.cell? ⟨b,1,none⟩=some (.int .i64 1):=by rw [cell_of_row _ _ _ _ _ _ hb];rfl
 rw [show((1:Nat):Int)=1 from rfl,show((0:Nat):Int)=0 from rfl] at HN
 clear h hg hx hy hb
 obtain⟨r,hr⟩:∃ r:Int,r=if x<y then 1 else 0:=⟨_,rfl⟩
 rw [<- hr]
 have HR:=zb hr
 clear hr
 go_enter Tryz.func296,Tryz.ntmps296
 go_wp2_with fail
 go_loop [5,6] (fun v i=>(i=.int .i64 1/\v=.int .i64 0)\/(i=.int .i64 2/\v=.int .i64 r)) (fun _ i=>2-(intOf i).toNat)
 case atStart=>exact .inl ⟨rfl,rfl⟩
 case round =>
  rcases hrel with ⟨rfl,rfl⟩ | ⟨rfl,rfl⟩
  ·by_cases hxy:x<y
   ·have hc:zxa y x=1:=by unfold zxa;rw [if_neg (by omega),if_pos hxy]
    rw [hc] at HN
    rw [if_pos hxy] at HR
    clear hc hxy
    go_wp2_with (go_at_call 297;refine(za HN).mono ?_;rintro e w' ⟨rfl,rfl⟩)
    go_round
    case rel=>exact .inr ⟨rfl,by rw [za HR]⟩
    case measure=>simp [intOf]
   ·have hc:zxa y x<=0:=by unfold zxa;split <;> (try split) <;> omega
    rw [if_neg hxy] at HR
    generalize zxa y x=c at *
    clear hxy
    go_wp2_with (go_at_call 297;refine(za HN).mono ?_;rintro e w' ⟨rfl,rfl⟩)
    go_round
    case rel=>exact .inr ⟨rfl,by rw [za HR]⟩
    case measure=>simp [intOf]
  ·go_wp2
   go_ret
   exact⟨rfl,rfl⟩
theorem zoO{w:World}{m n:Nat}{f:Nat->Option Value}(h:RM w m n f){x y:Int}(hx:Stp f 0 x)(hy:Stp f 1 y) :
  Calls Tryz.prog 244 #[.map (some m)] w fun e w'=>e=.returned (.int .i64 (if x<y then 1 else 0))/\Below w.heap.size w w':=by
 have hb:Below w.heap.size w ((w.alloc (.cells #[.map (some m)] 343)).alloc (.cells #[.int .i64 0,.int .i64 1] 3)):=((Below.refl _ _).alloc (Nat.le_refl _) _).alloc (by simp) _
 have hg:((w.alloc (.cells #[.map (some m)] 343)).alloc (.cells #[.int .i64 0,.int .i64 1] 3)).cell? ⟨w.heap.size,0,none⟩=some (.map (some m)):=by
  have e:((w.alloc (.cells #[.map (some m)] 343)).alloc (.cells #[.int .i64 0,.int .i64 1] 3)).heap[w.heap.size]?=_:=(heap_alloc_old _ _ (by simp)).trans (heap_alloc_new _ _)
  rw [cell_of_row _ _ _ _ _ _ e];rfl
 have HM:=zb (zyz (h.below hb) hg hx hy (b:=w.heap.size+1) (heap_alloc2_new w _ _))
 generalize (if x<y then (1:Int) else 0)=r at *
 have HB:=zb hb
 clear h hx hy hb hg
 go_enter Tryz.func244,Tryz.ntmps244
 go_wp2_with fail
 refine(za HM).mono ?_
 rintro e w' ⟨rfl,rfl⟩
 go_wp2
 go_ret
 exact⟨rfl,za HB⟩
end Go.Proofs.YtchmlnmhbfaclaaGreatDoor
namespace Go.Proofs.YtchmlnmhbfaclaaGreatDoor
open Go.RowKit
set_option linter.unusedVariables false
theorem own_below{w w':World}{base e size:Nat}{v:Value}{n:Nat}{xs:List Value}(h:w.ownsRow base e size v n xs)(hb:Below w.heap.size w w'):w'.ownsRow base e size v n xs :=
 qC h (fun g hg=>hb.block g (zwL h g hg))
def GoodM(w:World)(base:Nat)(mk:Option (Int×List Int))(fv:Option Value):Prop :=
 match mk with
 | none=>fv=none
 | some (s,l)=>∃ nv,fv=some (.agg #[.int .i64 s,nv])/\zDu w base nv l
theorem GoodM.below{w w':World}{base:Nat}{mk:Option (Int×List Int)}{fv:Option Value}(h:GoodM w base mk fv)(hb:Below w.heap.size w w'):GoodM w' base mk fv:=by
 cases mk with
 | none=>exact h
 | some q =>
  obtain⟨s,l⟩:=q
  obtain⟨nv,h1,h2⟩:=h
  exact⟨nv,h1,own_below h2 hb⟩
section
variable {w0 w:World} {p:Nat} {S:Nat->Prop} {D:DS}
set_option maxRecDepth 100000 in
set_option maxHeartbeats 400000 in
theorem zoz(F g n:Nat)(f:Nat->Nat)(h:Live w0 w p S D)(hd:D.down=false)(hn:n<=300)(hr:∀ k,k<n->f k<D.secs.length)
  (hF:∀ args w',(callFunc F args).run Tryz.prog w'=.ok (.enter F args) w')
  (hf:∀ w',Below w.heap.size w w'->∀ k:Nat,k<n->Calls Tryz.prog F #[.int .i64 k,.pointer (some ⟨g,0,none⟩)] w' fun e w''=>e=.returned (.int .i64 (f k))/\w'=w'') :
  Calls Tryz.prog 245 #[.pointer (some ⟨p,0,none⟩),.int .i64 n,.func (.func F) #[] #[.pointer (some ⟨g,0,none⟩)]] w fun e w' =>
   ∃ t,e=.returned (.tuple #[.slice (some ⟨t,0,none⟩) n n,.nilIface])/\Bods w' S t n (fun k=>D.rd (f k))/\t<w'.heap.size/\Below w.heap.size w w':=by
 obtain⟨i1,hi1,hy0,hy1,hy2⟩:=info_parts zhc
 have hS:∀ k,w.heap.size<=k->¬ S k:=fun k hk hs=>by have:=h.dev.lt k hs;omega
 have H:=zb h
 have HF:=zb hf
 have HFF:=zb hF
 have HR:=zb hr
 have hok:=h.dev.ok
 clear h hf hF hr
 go_enter Tryz.func245,Tryz.ntmps245
 go_wp2_with (at_make;refine zfe rfl _ _ 60 rfl i1 Tryz.underlying60 hi1 hy0 hy1 hy2 _ _ _ _ n rfl rfl rfl rfl (by omega) ?_)
 intro w1 htab hb1
 have HT1:=zb (htab S (fun k=>D.rd (f k)) (hS _ (Nat.le_refl _)))
 have HB1:=zb hb1
 clear htab hb1
 go_wp2_with fail
 go_loopw [16] (fun v wr=>∃ k:Nat,k<=n/\v=.int .i64 k/\Tab wr S w.heap.size n (fun k=>D.rd (f k)) k/\Below w.heap.size w wr) (fun v _=>n-(intOf v).toNat)
 case atStart=>exact⟨0,Nat.zero_le _,rfl,za HT1,za HB1⟩
 case round =>
  obtain⟨k,hk,rfl,htab,hbel⟩:=hrel
  by_cases hlt:k<n
  ·have HC:=zb (za HF wr hbel k hlt)
   have hrd:=((za H).below hbel).read (f k) (za HR k hlt) hd
   have HRD:=zb hrd
   have HTAB:=zb htab
   have HBEL:=zb hbel
   have hsz:=hbel.size
   clear hrd htab hbel
   generalize hfk:f k=fk at *
   have HFK:=zb hfk
   clear hfk
   go_wp2_with fail
   rw [za HFF,Oper.upon_enter]
   refine(za HC).mono ?_
   rintro e w2 ⟨rfl,rfl⟩
   go_wp2_with fail
   refine(za HRD).mono ?_
   rintro e w3 ⟨g3,rfl,hg3,hk3,hb3⟩
   have htab3:=(za HTAB).below hb3
   obtain⟨rv,hroom⟩:=htab3.room k hlt
   have hfr:=htab3.fr k
   have HP:Hid (Tab (w3.setCell ⟨w.heap.size,k,none⟩ (.slice (some ⟨g3,0,none⟩) 32 32)) S w.heap.size n (fun k=>D.rd (f k)) (k+1)):=zb (htab3.put hlt (by show Blk w3 g3 (D.rd (f k));rw [za HFK];exact hk3) (hS g3 (by omega)))
   have HB3:Hid (Below w.heap.size w (w3.setCell ⟨w.heap.size,k,none⟩ (.slice (some ⟨g3,0,none⟩) 32 32))):=zb (((za HBEL).trans (hb3.mono hsz)).setCell (Nat.le_refl _) _)
   clear htab3 hk3 hb3 HTAB HBEL HRD HC
   go_wp2
   go_roundw
   case rel=>exact⟨k+1,by omega,by go_num,za HP,za HB3⟩
   case measure=>simp [intOf];omega
  ·obtain rfl:k=n:=by omega
   go_wp2
   go_ret2
   refine⟨_,rfl,⟨hS _ (Nat.le_refl _),fun j hj=>?_⟩,htab.lt,hbel⟩
   obtain⟨cur,h1,h2,h3,h4⟩:=htab
   obtain⟨g',h5,h6,h7⟩:=h4 j hj
   have hsec:Sec (D.rd (f j)):=hok.rd (za HR j hj)
   refine⟨some ⟨g',0,none⟩,32,?_,zdW h6 hsec,fun _ x hx=>?_⟩
   ·rw [cell_of_row _ _ _ _ _ _ h1,h5,hsec.1]
   ·obtain rfl:=Option.some.inj hx
    exact h7
theorem zoX(h:Live w0 w p S D)(hd:D.down=true)(hl:2<=D.secs.length) :
  Calls Tryz.prog 243 #[.pointer (some ⟨p,0,none⟩)] w fun e w'=>e=.returned (.tuple #[.map none,zK 9])/\Below w.heap.size w w':=by
 have hE:D.readE 0=9:=by unfold DS.readE;rw [if_neg (by omega),if_pos hd]
 have hmm:=@run_makeMap Tryz.prog
 have hb1:Below w.heap.size w (w.alloc (.map #[] 0)):=(Below.refl _ _).alloc (Nat.le_refl _) _
 have hr:=zq0 0 (h.below hb1).dev (by rw [hE];decide)
 rw [hE] at hr
 have HR:=zb hr
 have HB:=zb hb1
 clear hr hb1 h hE
 go_enter Tryz.func243,Tryz.ntmps243
 go_wp2_with fail
 go_loopw [11] (fun v wr=>v=.int .i64 0/\wr=w.alloc (.map #[] 0)) (fun _ _=>0)
 case atStart=>exact⟨rfl,rfl⟩
 case round =>
  obtain⟨rfl,rfl⟩:=hrel
  go_wp2_with fail
  refine(za HR).mono ?_
  rintro e w2 ⟨rfl,rfl⟩
  rw [zh 9 (by decide)]
  go_wp2
  go_ret2
  exact⟨rfl,za HB⟩
set_option maxRecDepth 100000 in
set_option maxHeartbeats 400000 in
theorem zu5{L:Nat}(h:Live w0 w p S D)(hd:D.down=false)(hl:2<=D.secs.length)(hL:Zk D.secs.length=L)(hL2:L<=200) :
  Calls Tryz.prog 243 #[.pointer (some ⟨p,0,none⟩)] w fun e w'=>∃ m n f,e=.returned (.tuple #[.map (some m),.nilIface])/\RM w' m n f/\(∀ i,i<2->GoodM w' w.heap.size (mark L (D.rd i)) (f i))/\Below w.heap.size w w':=by
 have hmm:=@run_makeMap Tryz.prog
 have H:=zb h
 have hok:=h.dev.ok
 clear h
 go_enter Tryz.func243,Tryz.ntmps243
 go_wp2_with fail
 go_loopw [11] (fun v wr=>∃ (k:Nat) (f:Nat->Option Value),k<=2/\v=.int .i64 k/\(∃ n,n<=k/\RM wr w.heap.size n f)/\(∀ i,i<k->GoodM wr w.heap.size (mark L (D.rd i)) (f i))/\(∀ i,k<=i->f i=none)/\Below w.heap.size w wr) (fun v _=>2-(intOf v).toNat)
 case atStart=>exact⟨0,_,by omega,rfl,⟨0,Nat.le_refl _,RM.made w⟩,fun i hi=>absurd hi (Nat.not_lt_zero i),fun i _=>rfl,(Below.refl _ _).alloc (Nat.le_refl _) _⟩
 case round =>
  obtain⟨k,f,hk,rfl,⟨n,hn,hrm⟩,hgood,hnone,hbel⟩:=hrel
  by_cases hlt:k<2
  ·have hlv:=(za H).below hbel
   have hrd:=hlv.read k (by omega) hd
   have hsec:Sec (D.rd k):=hok.rd (by omega)
   have HRD:=zb hrd
   have HLV:=zb hlv
   have HRM:=zb hrm
   have HGOOD:=zb hgood
   have HNONE:=zb hnone
   have HBEL:=zb hbel
   have hsz:=hbel.size
   clear hrd hlv hrm hgood hnone hbel
   go_wp2_with fail
   refine(za HRD).mono ?_
   rintro e w2 ⟨g2,rfl,hg2,hk2,hb2⟩
   have hcnt:=zar ((za HLV).below hb2).dev
   rw [hL] at hcnt
   have hom:=zjJ L (some ⟨g2,0,none⟩) 32 (D.rd k) (zdW hk2 hsec) hL2
   rw [hsec.1] at hom
   have HCNT:=zb hcnt
   have HOM:=zb hom
   have HB2:=zb hb2
   have hs2:=hb2.size
   clear hcnt hom hb2 hk2 HRD HLV
   go_wp2_with fail
   refine(za HCNT).mono ?_
   rintro e w3 ⟨rfl,rfl⟩
   go_wp2_with fail
   refine(za HOM).mono ?_
   rintro e w3 ⟨v,rfl,hmk,hb3⟩
   have hs3:=hb3.size
   have hb13:Below wr.heap.size wr w3:=(za HB2).trans (hb3.mono hs2)
   cases hM:mark L (D.rd k) with
   | none =>
    rw [hM] at hmk
    have hv:v=.agg #[.int .i64 0,.slice none 0 0]:=hmk
    subst hv
    have hb14:Below wr.heap.size wr (w3.alloc (.cells #[.int .i64 0,.slice none 0 0] 207)):=hb13.alloc hb13.size _
    have HE:Hid (∃ n,n<=k+1/\RM (w3.alloc (.cells #[.int .i64 0,.slice none 0 0] 207)) w.heap.size n f):=zb ⟨n,by omega,(za HRM).below hb14⟩
    have HG:Hid (∀ i,i<k+1->GoodM (w3.alloc (.cells #[.int .i64 0,.slice none 0 0] 207)) w.heap.size (mark L (D.rd i)) (f i)):=zb (fun i hi=>by
     by_cases e:i=k
     ·subst e;rw [hM];exact za HNONE i (Nat.le_refl _)
     ·exact(za HGOOD i (by omega)).below hb14)
    have HN:Hid (∀ i,k+1<=i->f i=none):=zb (fun i hi=>za HNONE i (by omega))
    have HBB:=zb ((za HBEL).trans (hb14.mono hsz))
    clear hmk hb13 hb14 hb3 HOM HCNT HB2 HRM HGOOD HNONE hM HBEL
    simp only [Option.isSome_none]
    go_wp2
    go_roundw
    case rel=>exact⟨k+1,f,by omega,by go_num,za HE,za HG,za HN,za HBB⟩
    case measure=>simp [intOf];omega
   | some q =>
    obtain⟨s,l⟩:=q
    rw [hM] at hmk
    obtain⟨nv,rfl,hnum⟩:=hmk
    obtain⟨na,nl,nc,rfl⟩:=zfH hnum
    have hb14:Below wr.heap.size wr (w3.alloc (.cells #[.int .i64 s,.slice na nl nc] 207)):=hb13.alloc hb13.size _
    have hr4:=(za HRM).below hb14
    obtain⟨w5,hst,hr5,ht5⟩:=hr4.store (i:=k) hlt (zro s hnum) (by omega)
    have hbW:Below w3.heap.size w3 (w3.alloc (.cells #[.int .i64 s,.slice na nl nc] 207)):=(Below.refl _ _).alloc (Nat.le_refl _) _
    have hn5:=zeS (zm2 (own_below hnum hbW) (by omega:w.heap.size<=w2.heap.size)) ht5.grown (fun g hg e=>by
     have e2:=Option.some.inj e
     subst e2
     obtain⟨cur,hc⟩:=qI (own_below hnum hbW) hg
     obtain⟨Dm,⟨es,clock,hbm,_⟩,_⟩:=hr4
     rw [hc] at hbm
     cases hbm)
    have HE:Hid (∃ n,n<=k+1/\RM w5 w.heap.size n (setF f k (.agg #[.int .i64 s,.slice na nl nc]))):=zb ⟨n+1,by omega,hr5⟩
    have HG:Hid (∀ i,i<k+1->GoodM w5 w.heap.size (mark L (D.rd i)) (setF f k (.agg #[.int .i64 s,.slice na nl nc]) i)):=zb (fun i hi=>by
     unfold setF
     by_cases e:i=k
     ·subst e
      rw [hM,if_pos rfl]
      exact⟨_,rfl,hn5⟩
     ·rw [if_neg e]
      have hg4:=(za HGOOD i (by omega)).below hb14
      cases hMi:mark L (D.rd i) with
      | none=>rw [hMi] at hg4;exact hg4
      | some q =>
       obtain⟨s',l'⟩:=q
       rw [hMi] at hg4
       obtain⟨nv',h1,h2⟩:=hg4
       refine⟨nv',h1,zeS h2 ht5.grown (fun g hg e=>?_)⟩
       have e2:=Option.some.inj e
       subst e2
       obtain⟨cur,hc⟩:=qI h2 hg
       obtain⟨Dm,⟨es,clock,hbm,_⟩,_⟩:=hr4
       rw [hc] at hbm
       cases hbm)
    have HN:Hid (∀ i,k+1<=i->setF f k (.agg #[.int .i64 s,.slice na nl nc]) i=none):=zb (fun i hi=>by unfold setF;rw [if_neg (by omega)];exact za HNONE i (by omega))
    have hb24:=(za HBEL).trans (hb14.mono hsz)
    have HBB:=zb (hb24.grown ht5.grown hb24.size (fun j hj=>by cases hj;exact Nat.le_refl _))
    clear hb13 hb14 hb3 HOM HCNT HB2 HRM HGOOD HNONE hM hr4 hr5 ht5 hn5 hb24 hbW hnum HBEL
    simp only [Option.isSome_some]
    go_wp2
    go_roundw
    case rel=>exact⟨k+1,_,by omega,by go_num,za HE,za HG,za HN,za HBB⟩
    case measure=>simp [intOf];omega
  ·obtain rfl:k=2:=by omega
   go_wp2
   go_ret2
   exact⟨_,_,_,rfl,hrm,hgood,hbel⟩
end
def zkW(m:Option (Int×List Int)):Int:=match m with | some (s,_)=>s | none=>0
theorem GoodM.stp{w:World}{base:Nat}{mk:Option (Int×List Int)}{f:Nat->Option Value}{i:Nat}(h:GoodM w base mk (f i)):Stp f i (zkW mk):=by
 cases mk with
 | none=>exact⟨.slice none 0 0,by rw [show f i=none from h];rfl⟩
 | some q =>
  obtain⟨s,l⟩:=q
  obtain⟨nv,h1,_⟩:=h
  exact⟨nv,by rw [h1];rfl⟩
theorem ztl{L:Nat}{v:Nat->List Int}(hp:∀ i s l,mark L (v i)=some (s,l)->0<s) :
  ∃ a:Nat,a<2/\(if zkW (mark L (v 0))<zkW (mark L (v 1)) then (1:Int) else 0)=a/\best L (v 0) (v 1)=(match mark L (v a) with | some (s,l)=>(s,a,l) | none=>(0,0,[])):=by
 have h0:=hp 0
 have h1:=hp 1
 unfold best
 cases e0:mark L (v 0) with
 | none =>
  cases e1:mark L (v 1) with
  | none=>exact⟨0,by decide,rfl,by rw [e0];rfl⟩
  | some q =>
   obtain⟨s,l⟩:=q
   have:=h1 s l e1
   refine⟨1,by decide,by show(if (0:Int)<s then (1:Int) else 0)=_;rw [if_pos this];rfl,?_⟩
   rw [e1]
   show(if (0:Int)<s then (s,1,l) else (0,0,[]))=_
   rw [if_pos this]
 | some q0 =>
  obtain⟨s0,l0⟩:=q0
  have hs0:=h0 s0 l0 e0
  have ep:pick (0,0,[]) 0 (some (s0,l0))=(s0,0,l0):=by
   show(if (0:Int)<s0 then (s0,0,l0) else (0,0,[]))=_
   rw [if_pos hs0]
  rw [ep]
  cases e1:mark L (v 1) with
  | none =>
   refine⟨0,by decide,by show(if s0<(0:Int) then (1:Int) else 0)=_;rw [if_neg (by omega)];rfl,?_⟩
   rw [e0];rfl
  | some q =>
   obtain⟨s,l⟩:=q
   by_cases hlt:s0<s
   ·refine⟨1,by decide,by show(if s0<s then (1:Int) else 0)=_;rw [if_pos hlt];rfl,?_⟩
    rw [e1]
    show(if s0<s then (s,1,l) else (s0,0,l0))=_
    rw [if_pos hlt]
   ·refine⟨0,by decide,by show(if s0<s then (1:Int) else 0)=_;rw [if_neg hlt];rfl,?_⟩
    rw [e0]
    show(if s0<s then (s,1,l) else (s0,0,l0))=_
    rw [if_neg hlt]
theorem zoJ{w:World}{base e size:Nat}{v:Value}{n:Nat}{xs:List Value}(h:w.ownsRow base e size v n xs):∃ a c,v=.slice a n c:=by
 rcases h.2 with ⟨rfl,rfl⟩ | ⟨g,cap,cur,rfl,_⟩
 ·exact⟨_,_,rfl⟩
 ·exact⟨_,_,rfl⟩
section
variable {w0 w:World} {p:Nat} {S:Nat->Prop} {D:DS}
theorem zrm(h:Live w0 w p S D)(hc:¬ Zk D.secs.length<1)(hd:D.down=true) :
  Calls Tryz.prog 205 #[.pointer (some ⟨p,0,none⟩)] w fun e w'=>e=.returned (.tuple #[.pointer none,zK 9])/\Below w.heap.size w w':=by
 have HC:=zb (zar h.dev)
 have HM:=zb (zoX h hd (by unfold Zk at hc;split at hc <;> omega))
 generalize Zk D.secs.length=L at *
 rw [zh 9 (by decide)] at *
 clear h
 go_enter Tryz.func205,Tryz.ntmps205
 go_wp2_with fail
 refine(za HC).mono ?_
 rintro e w1 ⟨rfl,rfl⟩
 go_wp2_with fail
 refine(za HM).mono ?_
 rintro e w1 ⟨rfl,hb⟩
 go_wp2
 go_ret2
 exact⟨rfl,hb⟩
set_option maxRecDepth 100000 in
set_option maxHeartbeats 1000000 in
theorem zhX{L:Nat}(h:Live w0 w p S D)(hL:Zk D.secs.length=L)(hL1:1<=L)(hd:D.down=false) :
  Calls Tryz.prog 205 #[.pointer (some ⟨p,0,none⟩)] w fun e w'=>∃ v,e=.returned (.tuple #[v,zK (qs D L).2.2])/\∃ S',Live w0 w' p S' (qs D L).1/\Turn S S' w w' /\
   ((qs D L).2.2=0->∃ q,v=.pointer (some ⟨q,0,none⟩)/\PgAt w' q p (qs D L).2.1/\w.heap.size<=q/\¬ S' q)/\((qs D L).2.2≠0->v=.pointer none):=by
 have hL2:L<=200/\48+L<=D.secs.length:=by
  unfold Zk at hL
  split at hL <;> omega
 have hok:=h.dev.ok
 have HC:=zb (zar h.dev)
 rw [hL] at HC
 have HM:=zb (zu5 h hd (by omega) hL hL2.1)
 have hS:∀ k,w.heap.size<=k->¬ S k:=fun k hk hs=>by have:=h.dev.lt k hs;omega
 obtain⟨a,ha,hai,hbest⟩:=ztl (L:=L) (v:=fun i=>D.rd i) (fun i s l hm=>by
  rcases Nat.lt_or_ge i D.secs.length with h1 | h1
  ·exact(qg (hok.rd h1).2 hm).1
  ·exfalso
   have hb:Byt (D.rd i):=by
    unfold DS.rd
    cases e:D.mem.lookup i with
    | none =>
     intro z hz
     simp [List.getD,List.getElem?_eq_none h1] at hz
    | some b=>exact(hok.mem _ (Qw e)).2.2
   have:=(qg hb hm).2.2.2.2.2
   unfold DS.rd at this
   cases e:D.mem.lookup i with
   | none=>rw [e] at this;simp [List.getD,List.getElem?_eq_none h1] at this
   | some b=>have:=(hok.mem _ (Qw e)).1;omega)
 have HF:Hid (∀ s l,mark L (D.rd a)=some (s,l)->l.length<=23/\∀ z∈l,0<=z/\z<L):=zb (fun s l hm=>by
  have:=qg (hok.rd (show a<D.secs.length by omega)).2 hm
  exact⟨this.2.1,this.2.2.1⟩)
 have HP0:Hid (∀ s l,mark L (D.rd a)=some (s,l)->qs D L=((qc D a l).1,if (qc D a l).2=0 then s else 0,(qc D a l).2)):=zb (fun s l hm=>by
  rw [hm] at hbest
  dsimp only at hbest
  have hpos:=(qg (hok.rd (show a<D.secs.length by omega)).2 hm).1
  unfold qs
  rw [hbest,if_neg (by rw [hd];exact Bool.false_ne_true),if_neg (show ¬ s=0 by omega)])
 have HP1:Hid (mark L (D.rd a)=none->qs D L=(D,0,5)):=zb (fun hm=>by
  rw [hm] at hbest
  dsimp only at hbest
  unfold qs
  rw [hbest,if_neg (by rw [hd];exact Bool.false_ne_true),if_pos rfl])
 have H:=zb h
 generalize hR:qs D L=R at *
 clear hR h hbest hL
 go_enter Tryz.func205,Tryz.ntmps205
 go_wp2_with fail
 refine(za HC).mono ?_
 rintro e w1 ⟨rfl,rfl⟩
 go_wp2_with fail
 refine(za HM).mono ?_
 rintro e w1 ⟨m,n,f,rfl,hrm,hgood,hb1⟩
 have hnew:=zoO hrm (hgood 0 (by decide)).stp (hgood 1 (by decide)).stp
 rw [hai] at hnew
 have HNEW:=zb hnew
 have HRM:=zb hrm
 have HGOOD:=zb (hgood a ha)
 have HB1:=zb hb1
 have hs1:=hb1.size
 clear hnew hrm hgood hb1 HC HM hai
 go_wp2_with fail
 refine(za HNEW).mono ?_
 rintro e w2 ⟨rfl,hb2⟩
 have hlook:=((za HRM).below hb2).look true ha
 rw [if_pos rfl] at hlook
 have hgood:=(za HGOOD).below hb2
 have HB2:=zb ((za HB1).trans (hb2.mono hs1))
 have hs2:=hb2.size
 clear hb2 HRM HGOOD HNEW HB1
 cases hM:mark L (D.rd a) with
 | none =>
  rw [hM] at hgood
  rw [show f a=none from hgood] at hlook
  unfold zjU at hlook
  simp only [Option.getD_none,Option.isSome_none] at hlook
  have HRR:=zb (za HP1 hM)
  clear hM HP0 HP1 HF hgood
  go_wp2
  go_ret2
  rw [za HRR]
  exact⟨_,rfl,S,(za H).below ((za HB2).alloc (za HB2).size _),Turn.of_below ((za HB2).alloc (za HB2).size _),fun h=>absurd (show(5:Int)=0 from h) (by decide),fun _=>rfl⟩
 | some q =>
  obtain⟨s,l⟩:=q
  rw [hM] at hgood
  obtain⟨nv,hfa,hnum⟩:=hgood
  obtain⟨na,nc,rfl⟩:=zoJ hnum
  rw [hfa] at hlook
  simp only [Option.getD_some,Option.isSome_some] at hlook
  have hRR:=za HP0 s l hM
  obtain⟨hl23,hlz⟩:=za HF s l hM
  obtain⟨X,hX⟩:∃ X,X=qc D a l:=⟨_,rfl⟩
  rw [<- hX] at hRR
  have HRR:=zb hRR
  have HX:=zb hX
  have HNUM:=zb hnum
  have HLZ:=zb hlz
  clear hM HP0 HP1 HF hnum hfa hX hlz hRR
  go_wp2_with fail
  have hb3:Below w.heap.size w (w2.alloc (.cells #[.int .i64 s,.slice na l.length nc] 207)):=(za HB2).alloc (za HB2).size _
  have hm3:=heap_alloc_new w2 (.cells #[.int .i64 s,.slice na l.length nc] 207)
  have hn3:=own_below (za HNUM) (w':=w2.alloc (.cells #[.int .i64 s,.slice na l.length nc] 207)) ((Below.refl _ _).alloc (Nat.le_refl _) _)
  have hs3:w2.heap.size<(w2.alloc (.cells #[.int .i64 s,.slice na l.length nc] 207)).heap.size:=by simp
  generalize w2.alloc (.cells #[.int .i64 s,.slice na l.length nc] 207)=w3 at *
  have c1:w3.cell? ⟨w2.heap.size,1,none⟩=some (.slice na l.length nc):=by rw [cell_of_row _ _ _ _ _ _ hm3];rfl
  have HLV:=zb ((za H).below hb3)
  have HRD:Hid (∀ wx g,Below w3.heap.size w3 wx->w3.heap.size<=g->wx.cell? ⟨g,0,none⟩=some (.int .i64 (a:Int))->Calls Tryz.prog 245 #[.pointer (some ⟨p,0,none⟩),.int .i64 (l.length:Nat),.func (.func 299) #[] #[.pointer (some ⟨g,0,none⟩)]] wx fun e w'=>∃ t,e=.returned (.tuple #[.slice (some ⟨t,0,none⟩) l.length l.length,.nilIface])/\Bods w' S t l.length (fun k=>D.rd (2+23 * a+k))/\t<w'.heap.size/\Below w3.heap.size w3 w'):=zb (fun wx g hbx hg hc=>by
   have hgl:=block_lt_of_cell hc
   have:=zoz 299 g l.length (fun k=>2+23 * a+k) ((za HLV).below hbx) hd (by omega) (fun k hk=>by omega) Tryz.call299 (fun w' hb' k hk=>by
    have:=zgS g a k w' (by omega) (by omega) ((hb'.cell hgl).trans hc)
    rw [show(2+23 * (a:Int)+(k:Int))=((2+23 * a+k:Nat):Int) by omega] at this
    exact this)
   exact this.mono fun e w' ⟨t,he,hbo,htl,hb⟩=>⟨t,he,hbo,htl,hbx.trans (hb.mono hbx.size)⟩)
  have HM3:=zb hm3
  have HN3:=zb hn3
  have HB3:=zb hb3
  clear hm3 hn3 hb3 HNUM HB2 hlook
  go_region_held3 (fun w'=>w'.cell? ⟨w2.heap.size,1,none⟩=some (.slice na l.length nc)) (go_keep)
   (first
    | (go_at_call 246;refine(zji _ _).mono ?_;rintro e wa ⟨rfl,hwa⟩;have hba:Below w3.heap.size w3 wa:=(by rw [hwa];exact(below_drewN (Below.refl _ _) _).alloc (Nat.le_refl _) _);have hca:wa.cell? ⟨w3.heap.size,0,none⟩=some (.int .i64 (a:Int)):=(by rw [hwa];exact cell_of_row _ _ _ _ _ _ (heap_alloc_new _ _));clear hwa;have ra1:wa.cell? ⟨w2.heap.size,1,none⟩=some (.slice na l.length nc):=(hba.cell (by show w2.heap.size<w3.heap.size;omega)).trans c1)
    | (go_at_call 245;refine(za HRD _ _ (by exact⟨hba.os,hba.tape,hba.output,hba.size,hba.block⟩) (by exact Nat.le_refl _) (by exact hca)).mono ?_;rintro e wb ⟨tb,rfl,hbo,htl,hbb⟩;have rb1:wb.cell? ⟨w2.heap.size,1,none⟩=some (.slice na l.length nc):=(hbb.cell (by show w2.heap.size<w3.heap.size;omega)).trans c1))
  all_goals
   have hbA:Below w.heap.size w wb:=(za HB3).trans (hbb.mono (za HB3).size)
   have hm4:=(hbb.block _ hs3).trans (za HM3)
   have m0:wb.cell? ⟨w2.heap.size,0,none⟩=some (.int .i64 s):=by rw [cell_of_row _ _ _ _ _ _ hm4];rfl
   have hn4:=own_below (za HN3) hbb
   have hbs4:Below wb.heap.size wb (wb.alloc (.cells #[.slice na l.length nc] 90)):=(Below.refl _ _).alloc (Nat.le_refl _) _
   have hgs:¬ S wb.heap.size:=hS _ hbA.size
   have hn5:=own_below hn4 hbs4
   have hml:w2.heap.size<wb.heap.size:=(Array.getElem?_eq_some_iff.1 hm4).1
   have hwr:=zbh 300 wb.heap.size tb l.length l.length (fun k=>D.rd (2+23 * a+k)) (fun k=>48+l.getD k 0) (((za H).below hbA).below hbs4) (hbo.turn (Turn.of_below hbs4) htl) (Nat.lt_of_lt_of_le htl hbs4.size) (by omega) (Nat.le_refl _) Tryz.call300 (fun w' S' ht k hk=>by
    obtain⟨gn,cn,e,hgb,_,hgl,hcell⟩:=zfG hn5 (by omega)
    simp only [Value.slice.injEq] at e
    obtain⟨rfl,_,rfl⟩:=e
    have hz:=za HLZ _ (ZT hk)
    have hck:(wb.alloc (.cells #[.slice (some ⟨gn,0,none⟩) l.length nc] 90)).cell? ⟨gn,k,none⟩=some (.int .i64 (l.getD k 0)):=by
     rw [hcell k hk]
     simp [List.getD,hk]
    have hnS:¬ S gn:=hS _ hgb
    refine zj7 wb.heap.size gn nc l.length k (l.getD k 0) w' hk (by omega) (by omega) ((World.cell?_of_block (a:=⟨wb.heap.size,0,none⟩) (ht.block _ (by simp) hgs)).trans ?_) ((World.cell?_of_block (a:=⟨gn,k,none⟩) (ht.block _ hgl hnS)).trans hck)
    rw [cell_of_row _ _ _ _ _ _ (heap_alloc_new _ _)];rfl)
   have hXe:Qr (wsF (D,0) (fun i=>(48+l.getD i 0,D.rd (2+23 * a+i))) l.length)=X:=(za HX).symm
   rw [hXe] at hwr
   have HWR:=zb hwr
   have HM4:Hid (∀ w' S',Turn S S' (wb.alloc (.cells #[.slice na l.length nc] 90)) w'->w'.cell? ⟨w2.heap.size,0,none⟩=some (.int .i64 s)):=zb (fun w' S' ht=>by
    have e1:(wb.alloc (.cells #[.slice na l.length nc] 90)).heap[w2.heap.size]?=_:=(hbs4.block _ hml).trans hm4
    have e2:=(ht.block _ (Nat.lt_of_lt_of_le hml hbs4.size) (hS _ (by omega))).trans e1
    rw [cell_of_row _ _ _ _ _ _ e2];rfl)
   have HTA:=zb ((Turn.of_below (S:=S) hbA).trans (Turn.of_below hbs4))
   clear hwr hXe hn5 hn4 hm4 hbb hbo hbA hbs4 HRD HLV HM3 HN3 HB3 hba hca ra1 m0
   go_wp2_with fail
   refine(zny _ _ _ _).mono ?_
   rintro e wc ⟨rfl,rfl⟩
   go_wp2_with fail
   refine(za HWR).mono ?_
   rintro e w6 ⟨rfl,S6,hl6,ht6⟩
   have m0:=za HM4 w6 S6 ht6
   have HL6:=zb hl6
   have HT6:=zb ((za HTA).trans ht6)
   clear hl6 ht6 HWR HM4 HTA
   by_cases hE:X.2=0
   ·rw [hE,zf]
    go_wp2
    go_ret2
    have hq:=heap_alloc_new w6 (.cells #[.pointer (some ⟨p,0,none⟩),.int .i64 s] 212)
    rw [za HRR,if_pos hE,hE]
    refine⟨_,rfl,S6,(za HL6).below ((Below.refl _ _).alloc (Nat.le_refl _) _),(za HT6).trans (Turn.alloc S6 _ _),fun _=>⟨w6.heap.size,rfl,hq,(za HT6).size,fun hs=>?_⟩,fun h=>absurd rfl h⟩
    have:=(za HL6).dev.lt _ hs
    omega
   ·rw [zh _ hE]
    go_wp2
    go_ret2
    rw [za HRR,if_neg hE]
    exact⟨_,by rw [zh _ hE];rfl,S6,za HL6,za HT6,fun h=>absurd h hE,fun _=>rfl⟩
end
theorem zc5(n:Nat):(zD (DS.new n)).1.left<0:=by
 have h0:Ever (DS.new n,0):=⟨by show(-1:Int)<0;decide,fun _=>rfl,by show(0:Int)≠9;decide⟩
 exact((h0.w _ _).w _ _).f.1
section
variable {w w':World} {S S':Nat->Prop} {t n:Nat} {F:Nat->List Int}
end
structure Bsd (w0 w:World) (p q:Nat) (S:Nat->Prop) (D:DS) (s:Int) (T:Nat->Prop):Prop where
 live:Live w0 w p S D
 pg:PgAt w q p s
 out:¬ S q
 base:w0.heap.size<=q
 apart:∀ k,T k->¬ plus S q k
 tlt:∀ k,T k->k<w.heap.size
 tb:∀ k,T k->w0.heap.size<=k
section
variable {w0 w w':World} {p q:Nat} {S S':Nat->Prop} {D D':DS} {s s':Int} {T T' U:Nat->Prop}
theorem Bsd.plt(h:Bsd w0 w p q S D s T):∀ k,plus S q k->k<w.heap.size:=fun k hk=>by
 rcases hk with hk | rfl
 ·exact h.live.dev.lt k hk
 ·exact h.pg.lt
theorem Bsd.pge(h:Bsd w0 w p q S D s T):∀ k,plus S q k->w0.heap.size<=k:=fun k hk=>by
 rcases hk with hk | rfl
 ·exact h.live.base k hk
 ·exact h.base
theorem Bsd.size(h:Bsd w0 w p q S D s T):w0.heap.size<=w.heap.size:=h.live.bel.size
theorem Bsd.below(h:Bsd w0 w p q S D s T)(hb:Below w.heap.size w w'):Bsd w0 w' p q S D s T :=
 ⟨h.live.below hb,h.pg.below hb,h.out,h.base,h.apart,fun k hk=>Nat.lt_of_lt_of_le (h.tlt k hk) hb.size,h.tb⟩
theorem Bsd.other(h:Bsd w0 w p q S D s T){U U':Nat->Prop}(ht:Turn U U' w w')(hU:∀ k,U k->T k)(hT:∀ k,T' k->k<w'.heap.size/\(k<w.heap.size->T k)):Bsd w0 w' p q S D s T':=by
 have hn:∀ k,plus S q k->¬ U k:=fun k hk hu=>h.apart k (hU k hu) hk
 have hge:∀ k,U k->w0.heap.size<=k:=fun k hk=>h.tb k (hU k hk)
 refine⟨⟨h.live.dev.turn ht (fun k hk=>hn k (.inl hk)),h.live.bel.trans (ht.below hge h.size),h.live.base⟩,(h.pg.turn ht (hn q (.inr rfl))).1,h.out,h.base,fun k hk hs=>?_,fun k hk=>(hT k hk).1,fun k hk=>?_⟩
 ·exact h.apart k ((hT k hk).2 (h.plt k hs)) hs
 ·rcases Nat.lt_or_ge k w.heap.size with h1 | h1
  ·exact h.tb k ((hT k hk).2 h1)
  ·exact Nat.le_trans h.size h1
theorem Bsd.pages(h:Bsd w0 w p q S D s T)(hl:Live w0 w' p S' D')(hp:PgAt w' q p s')(ho:¬ S' q)(ht:Turn (plus S q) (plus S' q) w w'):Bsd w0 w' p q S' D' s' T :=
 ⟨hl,hp,ho,h.base,fun k hk hs=>h.apart k hk (ht.foot k (h.tlt k hk) hs),fun k hk=>Nat.lt_of_lt_of_le (h.tlt k hk) ht.size,h.tb⟩
theorem Bsd.keep(h:Bsd w0 w p q S D s T)(ht:Turn (plus S q) (plus S' q) w w')(k:Nat)(hk:T k):w'.heap[k]?=w.heap[k]?:=ht.block k (h.tlt k hk) (h.apart k hk)
end
end Go.Proofs.YtchmlnmhbfaclaaGreatDoor
