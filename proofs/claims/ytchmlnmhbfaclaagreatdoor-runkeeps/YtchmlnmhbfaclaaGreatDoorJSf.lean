/-
  Parts of the proofs, joined by program.
-/
import Derived.Test.YtchmlnmhbfaclaaGreatDoorJEy
import Derived.Laws.ResultCell
import Derived.Test.YtchmlnmhbfaclaaGreatDoorJMvp
import Derived.Test.YtchmlnmhbfaclaaGreatDoorJWy
import Derived.Test.YtchmlnmhbfaclaaGreatDoorJRtp
import Derived.Test.YtchmlnmhbfaclaaGreatDoorJHq
import Derived.Test.YtchmlnmhbfaclaaGreatDoorJHp
namespace Go.Proofs.YtchmlnmhbfaclaaGreatDoor
open Go.RowKit Go.Sort Go.Shelf
set_option linter.unusedVariables false
theorem zfT:∀ {l:List (Int×Int)},(∀ e∈l,0<=e.2/\e.2<=6400)->0<=zv l/\zv l<=6400 * l.length
 | [],_=>by simp [zv]
 | e :: r,h=>by
  have h1:=h e (by simp)
  have h2:=zfT (l:=r) (fun x hx=>h x (by simp [hx]))
  rw [QJ,List.length_cons]
  omega
theorem zfR{l:List (Int×Int)}{k:Nat}(hk:k<l.length):zv (l.take (k+1))=zv (l.take k)+(l.getD k (0,0)).2:=by
 have e:l.getD k (0,0)=l[k]:=by simp [List.getD,hk]
 rw [List.take_succ_eq_append_getElem hk,ZX,e]
 simp [zv]
theorem zrE{l:List (Int×Int)}{k:Nat}(hk:k<l.length):qp 0 (l.take (k+1))=max (qp 0 (l.take k)) (l.getD k (0,0)).2:=by
 have e:l.getD k (0,0)=l[k]:=by simp [List.getD,hk]
 unfold qp
 rw [List.take_succ_eq_append_getElem hk,List.foldl_append,e]
 rfl
def StB(w:World)(g:Nat)(o u f m r:Int):Prop:=w.heap[g]?=some (.cells #[.int .i64 o,.int .i64 u,.int .i64 f,.int .i64 m,.int .i64 r] 94 (0,0))
section
variable {w:World} {g:Nat} {o u f m r:Int}
theorem StB.lt(h:StB w g o u f m r):g<w.heap.size:=(Array.getElem?_eq_some_iff.1 h).1
theorem StB.cells(h:StB w g o u f m r):w.cell? ⟨g,0,none⟩=some (.int .i64 o)/\w.cell? ⟨g,1,none⟩=some (.int .i64 u)/\w.cell? ⟨g,2,none⟩=some (.int .i64 f)/\w.cell? ⟨g,3,none⟩=some (.int .i64 m)/\w.cell? ⟨g,4,none⟩=some (.int .i64 r):=by
 simp only [cell_of_row _ _ _ _ _ _ h]
 exact⟨rfl,rfl,rfl,rfl,rfl⟩
theorem StB.fr(h:StB w g o u f m r)(i:Nat):w.frozen? ⟨g,i,none⟩=false:=frozen_of_row w g i _ _ h
theorem StB.alloc(h:StB w g o u f m r)(x:Obj):StB (w.alloc x) g o u f m r:=(heap_alloc_old w x h.lt).trans h
theorem StB.setU(h:StB w g o u f m r)(z:Int):StB (w.setCell ⟨g,1,none⟩ (.int .i64 z)) g o z f m r:=heap_setCell_same w g 1 _ _ (.int .i64 z) h
theorem StB.setF(h:StB w g o u f m r)(z:Int):StB (w.setCell ⟨g,2,none⟩ (.int .i64 z)) g o u z m r:=heap_setCell_same w g 2 _ _ (.int .i64 z) h
theorem StB.setM(h:StB w g o u f m r)(z:Int):StB (w.setCell ⟨g,3,none⟩ (.int .i64 z)) g o u f z r:=heap_setCell_same w g 3 _ _ (.int .i64 z) h
theorem StB.setAll(h:StB w g o u f m r)(o' u' f' m' r':Int):StB (((((w.setCell ⟨g,0,none⟩ (.int .i64 o')).setCell ⟨g,1,none⟩ (.int .i64 u')).setCell ⟨g,2,none⟩ (.int .i64 f')).setCell ⟨g,3,none⟩ (.int .i64 m')).setCell ⟨g,4,none⟩ (.int .i64 r')) g o' u' f' m' r':=by
 have h1:=heap_setCell_same w g 0 _ _ (.int .i64 o') h
 have h2:=heap_setCell_same _ g 1 _ _ (.int .i64 u') h1
 have h3:=heap_setCell_same _ g 2 _ _ (.int .i64 f') h2
 have h4:=heap_setCell_same _ g 3 _ _ (.int .i64 m') h3
 exact heap_setCell_same _ g 4 _ _ (.int .i64 r') h4
theorem StB.below{w':World}{B:Nat}(h:StB w g o u f m r)(hb:Below B w w')(hg:g<B):StB w' g o u f m r:=(hb.block g hg).trans h
end
theorem StB.new(w:World)(o u f m r:Int):StB (w.alloc (.cells #[.int .i64 o,.int .i64 u,.int .i64 f,.int .i64 m,.int .i64 r] 94)) w.heap.size o u f m r:=heap_alloc_new w _
theorem zqx:(Tryz.prog.info? 94).map (·.size)=some 5:=by kernel_rfl
theorem zb0{fn:Func}{p q:Tmp}(h:fn.results=#[.cell p 94,.tmp q])(tmps:Array Value)(w:World)(g:Nat)(o u f m r:Int)
  (hp:tmps.getD p undef=.pointer (some ⟨g,0,none⟩)) (hg:StB w g o u f m r) :
  (results fn tmps).run Tryz.prog w=.ok (.tuple #[.agg #[.int .i64 o,.int .i64 u,.int .i64 f,.int .i64 m,.int .i64 r],tmps.getD q undef]) w:=by
 rw [results_cell_tmp h,hp]
 have:=run_loadVar_row (P:=Tryz.prog) w g 94 94 _ (0,0) _ hg Tryz.underlying94 rfl (by rw [zqx];rfl)
 simp [asAddr,this,Result.andThen]
def stT(n:Int)(l:List (Int×Int)):Int×Int×Int×Int×Int:=if chk n l=0 then ((l.length:Int),zv l,zv (zy n l),qp 0 (zy n l),((zy n l).length:Int)) else (0,0,0,0,0)
theorem ztY(n:Int)(a:Option Addr)(cap:Nat)(l:List (Int×Int))(w:World)(hl:Exs w a cap l)(hc:chk n l≠0) :
  Calls Tryz.prog 163 #[.int .i64 n,.slice a l.length cap] w fun e w'=>e=.returned (.tuple #[.agg #[.int .i64 0,.int .i64 0,.int .i64 0,.int .i64 0,.int .i64 0],zK (chk n l)])/\Below w.heap.size w w':=by
 have hb0:Below w.heap.size w (w.alloc (.cells #[.int .i64 0,.int .i64 0,.int .i64 0,.int .i64 0,.int .i64 0] 94)):=(Below.refl _ _).alloc (Nat.le_refl _) _
 have HC:=zb (za9 n a cap l _ (hl.below hb0))
 have HS:=zb (StB.new w 0 0 0 0 0)
 have HB0:=zb hb0
 rw [zh _ hc] at HC ⊢
 generalize chk n l=c at *
 generalize zy n l=h at *
 generalize l.length=N at *
 clear hl hc hb0
 go_enter Tryz.func163,Tryz.ntmps163
 go_wp2_with fail
 refine(za HC).mono ?_
 rintro e w1 ⟨v,rfl,_,hb⟩
 have hs:=(za HS).below hb (by simp)
 obtain⟨c0,c1,c2,c3,c4⟩:=hs.cells
 have f0:=hs.fr 0
 have f1:=hs.fr 1
 have f2:=hs.fr 2
 have f3:=hs.fr 3
 have f4:=hs.fr 4
 have HS1:=zb hs
 have HB1:=zb ((za HB0).trans (hb.mono (by simp)))
 clear hs hb HC HS
 go_wp2
 refine bodyPost_ret (zb0 Tryz.results163 _ _ w.heap.size _ _ _ _ _ rfl ((za HS1).setAll 0 0 0 0 0)) rfl ?_
 exact⟨rfl,(((((za HB1).setCell (Nat.le_refl _) _).setCell (Nat.le_refl _) _).setCell (Nat.le_refl _) _).setCell (Nat.le_refl _) _).setCell (Nat.le_refl _) _⟩
set_option maxHeartbeats 2000000 in
theorem zxC(n:Int)(a:Option Addr)(cap:Nat)(l:List (Int×Int))(w:World)(hl:Exs w a cap l)(hc:chk n l=0)(U F M:Int)(hU:U=zv l)(hF:F=zv (zy n l))(hM:M=qp 0 (zy n l)) :
  Calls Tryz.prog 163 #[.int .i64 n,.slice a l.length cap] w fun e w'=>e=.returned (.tuple #[.agg #[.int .i64 l.length,.int .i64 U,.int .i64 F,.int .i64 M,.int .i64 (zy n l).length],.nilIface])/\Below w.heap.size w w':=by
 obtain⟨hsm,hlen⟩:=QK hc
 obtain⟨k0,k1,k2,hg⟩:=zaa.1 hc
 have hb0:Below w.heap.size w (w.alloc (.cells #[.int .i64 0,.int .i64 0,.int .i64 0,.int .i64 0,.int .i64 0] 94)):=(Below.refl _ _).alloc (Nat.le_refl _) _
 have HC:=zb (za9 n a cap l _ (hl.below hb0))
 rw [hc,zf] at HC
 have HS:=zb (StB.new w 0 0 0 0 0)
 have HB0:=zb hb0
 have HL:=zb hl
 have HU:=zb hU
 have HF:=zb hF
 have HM:=zb hM
 generalize zy n l=fr at *
 have HSM:=zb hsm
 have HG:=zb hg
 clear hl hc hb0 hU hF hM hsm hg
 go_enter Tryz.func163,Tryz.ntmps163
 go_wp2_with fail
 refine(za HC).mono ?_
 rintro e w1 ⟨v,rfl,ho,hb⟩
 obtain⟨ah,ch,rfl,hx⟩:=ho.exs (fun e he=>by have:=za HSM e he;unfold InI;omega) (by omega)
 have HX:=zb hx
 have hs0:=(za HS).below hb (by simp)
 have hlt0:=hs0.lt
 have HS1:=zb hs0
 have HB1:=zb ((za HB0).trans (hb.mono (by simp)))
 have HL1:=zb ((za HL).below (za HB1))
 clear hs0 hb HC HS hx ho HL HB0
 go_wp2_with fail
 go_loopw [30] (fun cv wr=>∃ k:Nat,k<=l.length/\cv=.int .i64 k/\StB wr w1.heap.size l.length (zv (l.take k)) 0 0 fr.length/\Below w1.heap.size w1 wr) (fun cv _=>l.length-(intOf cv).toNat)
 case atStart=>exact⟨0,Nat.zero_le _,rfl,StB.new _ _ _ _ _ _,(Below.refl _ _).alloc (Nat.le_refl _) _⟩
 case round =>
  obtain⟨k,hk,rfl,hB,hbel⟩:=hrel
  by_cases hlt:k<l.length
  ·have hne:l≠[]:=by intro e;rw [e] at hlt;simp at hlt
   obtain⟨b,off,rfl,hcell⟩:=(za HL1).2.2.2 hne
   obtain⟨c0,c1⟩:=hcell k hlt
   rw [<- hbel.cell (block_lt_of_cell c0)] at c0
   rw [<- hbel.cell (block_lt_of_cell c1)] at c1
   have hst:=zfR hlt
   have hbd:=zfT (l:=l.take k) (fun e he=>by have:=(za HG).all e (List.mem_of_mem_take he);omega)
   have hbl:(l.take k).length<=200:=by simp;omega
   have hin:l.getD k (0,0)∈l:=by
    have:l.getD k (0,0)=l[k]:=by simp [List.getD,hlt]
    rw [this];exact List.getElem_mem hlt
   have hgk:=(za HG).all _ hin
   generalize l.getD k (0,0)=r at *
   obtain⟨d0,d1,d2,d3,d4⟩:=hB.cells
   have f1:=hB.fr 1
   have hblt:=hB.lt
   have HBW:=zb hB
   have HBE:=zb hbel
   have HST:=zb hst
   generalize hq:zv (l.take k)=q at *
   obtain⟨x,y⟩:=r
   dsimp only at *
   clear hB hbel hst hcell hne hin hq
   go_wp2
   go_roundw
   case rel=>exact⟨k+1,by omega,by go_num,by rw [za HST];exact((za HBW).setU _).alloc _,((za HBE).setCell (Nat.le_refl _) _).alloc (by have:=(za HBE).size;simp;omega) _⟩
   case measure=>simp [intOf];omega
  ·obtain rfl:k=l.length:=by omega
   rw [List.take_length,<- za HU] at hB
   have HB:=zb hB
   have HBEL:=zb hbel
   clear hB hbel
   go_wp2_with fail
   go_loopw [43] (fun cv wr=>∃ k:Nat,k<=fr.length/\cv=.int .i64 k/\StB wr w1.heap.size l.length U (zv (fr.take k)) (qp 0 (fr.take k)) fr.length/\Below w1.heap.size w1 wr) (fun cv _=>fr.length-(intOf cv).toNat)
   case atStart=>exact⟨0,Nat.zero_le _,rfl,za HB,za HBEL⟩
   case round =>
    obtain⟨k,hk,rfl,hB,hbel⟩:=hrel
    by_cases hlt:k<fr.length
    ·have hne:fr≠[]:=by intro e;rw [e] at hlt;simp at hlt
     obtain⟨b,off,rfl,hcell⟩:=(za HX).2.2.2 hne
     obtain⟨c0,c1⟩:=hcell k hlt
     rw [<- hbel.cell (block_lt_of_cell c0)] at c0
     rw [<- hbel.cell (block_lt_of_cell c1)] at c1
     have hst:=zfR hlt
     have hmt:=zrE hlt
     have hbd:=zfT (l:=fr.take k) (fun e he=>by have:=za HSM e (List.mem_of_mem_take he);omega)
     have hbl:(fr.take k).length<=201:=by simp;omega
     have hin:fr.getD k (0,0)∈fr:=by
      have:fr.getD k (0,0)=fr[k]:=by simp [List.getD,hlt]
      rw [this];exact List.getElem_mem hlt
     have hgk:=za HSM _ hin
     generalize fr.getD k (0,0)=r at *
     obtain⟨d0,d1,d2,d3,d4⟩:=hB.cells
     have f2:=hB.fr 2
     have f3:=hB.fr 3
     have hblt:=hB.lt
     have HBW:=zb hB
     have HBE:=zb hbel
     have HST:=zb hst
     generalize hq:zv (fr.take k)=q at *
     generalize hq2:qp 0 (fr.take k)=q2 at *
     obtain⟨x,y⟩:=r
     dsimp only at *
     have HMT:=zb hmt
     clear hB hbel hst hcell hne hin hq hq2 hmt
     by_cases hxy:y > q2
     ·have HM2:Hid (max q2 y=y):=zb (by omega)
      go_wp2
      go_roundw
      case rel=>exact⟨k+1,by omega,by go_num,by rw [za HST,za HMT,za HM2];exact(((za HBW).setF _).setM _).alloc _,(((za HBE).setCell (Nat.le_refl _) _).setCell (Nat.le_refl _) _).alloc (by have:=(za HBE).size;simp;omega) _⟩
      case measure=>simp [intOf];omega
     ·have HM2:Hid (max q2 y=q2):=zb (by omega)
      go_wp2
      go_roundw
      case rel=>exact⟨k+1,by omega,by go_num,by rw [za HST,za HMT,za HM2];exact(((za HBW).setF _).setM _).alloc _,(((za HBE).setCell (Nat.le_refl _) _).setCell (Nat.le_refl _) _).alloc (by have:=(za HBE).size;simp;omega) _⟩
      case measure=>simp [intOf];omega
    ·obtain rfl:k=fr.length:=by omega
     rw [List.take_length,<- za HF,<- za HM] at hB
     obtain⟨d0,d1,d2,d3,d4⟩:=hB.cells
     have hs:=(za HS1).below hbel hlt0
     obtain⟨e0,e1,e2,e3,e4⟩:=hs.cells
     have f0:=hs.fr 0
     have f1:=hs.fr 1
     have f2:=hs.fr 2
     have f3:=hs.fr 3
     have f4:=hs.fr 4
     have HSF:=zb hs
     have HBF:=zb ((za HB1).trans (hbel.mono (za HB1).size))
     clear hB hbel hs
     go_wp2
     refine bodyPost_ret (zb0 Tryz.results163 _ _ w.heap.size _ _ _ _ _ rfl ((za HSF).setAll _ _ _ _ _)) rfl ?_
     exact⟨rfl,(((((za HBF).setCell (Nat.le_refl _) _).setCell (Nat.le_refl _) _).setCell (Nat.le_refl _) _).setCell (Nat.le_refl _) _).setCell (Nat.le_refl _) _⟩
theorem ztZ(n:Int)(a:Option Addr)(cap:Nat)(l:List (Int×Int))(w:World)(hl:Exs w a cap l)(O U F M R:Int)(h:stT n l=(O,U,F,M,R)) :
  Calls Tryz.prog 163 #[.int .i64 n,.slice a l.length cap] w fun e w'=>e=.returned (.tuple #[.agg #[.int .i64 O,.int .i64 U,.int .i64 F,.int .i64 M,.int .i64 R],zK (chk n l)])/\Below w.heap.size w w':=by
 unfold stT at h
 by_cases hc:chk n l=0
 ·rw [if_pos hc] at h
  simp only [Prod.mk.injEq] at h
  obtain⟨rfl,h2,h3,h4,rfl⟩:=h
  refine(zxC n a cap l w hl hc U F M h2.symm h3.symm h4.symm).mono ?_
  rintro e w' ⟨rfl,hb⟩
  exact⟨by rw [hc];rfl,hb⟩
 ·rw [if_neg hc] at h
  simp only [Prod.mk.injEq] at h
  obtain⟨rfl,rfl,rfl,rfl,rfl⟩:=h
  exact ztY n a cap l w hl hc
end Go.Proofs.YtchmlnmhbfaclaaGreatDoor
namespace Go.Proofs.YtchmlnmhbfaclaaGreatDoor
open Go.RowKit
set_option linter.unusedVariables false
section
variable {L c:List Int}
theorem zfg(hf:Fine L):zv (zn L)+zv (zy ((L.length:Int)-288) (zn L))=(L.length:Int)-288:=by
 rw [zcq hf,zcL hf]
 omega
theorem zdK(hf:Fine L):(zy ((L.length:Int)-288) (zn L)).length<=(zn L).length+1/\(∀ r∈zy ((L.length:Int)-288) (zn L),1<=r.2)/\(zv (zy ((L.length:Int)-288) (zn L))=0 ↔ zy ((L.length:Int)-288) (zn L)=[]):=by
 have hc:=zbm hf
 have hin:=(QK hc).1
 have hge:=zb9 (fun r hr=>(hin r hr).2.1)
 refine⟨?_,fun r hr=>(hin r hr).2.1,⟨fun h=>?_,fun h=>by rw [h];rfl⟩⟩
 ·unfold zy qo
  rw [if_pos hc]
  have h1:=zeQ 0 (srtL (zn L)++[((L.length:Int)-288,0)])
  have h2:=(zhC hf).1.length_eq
  rw [List.length_append,List.length_singleton] at h1
  omega
 ·refine List.eq_nil_iff_forall_not_mem.2 (fun r hr=>?_)
  have:=hge.2 r hr
  have:=(hin r hr).2.1
  omega
theorem zrF(hf:Fine L):0<=qp 0 (zy ((L.length:Int)-288) (zn L))/\qp 0 (zy ((L.length:Int)-288) (zn L))<=zv (zy ((L.length:Int)-288) (zn L))/\(0<zv (zy ((L.length:Int)-288) (zn L))->1<=qp 0 (zy ((L.length:Int)-288) (zn L))):=by
 obtain⟨r1,r2,r3⟩:=zdK hf
 generalize zy ((L.length:Int)-288) (zn L)=F at *
 have hge:=zb9 r2
 have hm:=(zlE (h:=F) (m:=0) (M:=qp 0 F)).1 (Int.le_refl _)
 refine⟨hm.1,zlE.2 ⟨hge.1,hge.2⟩,fun hpos=>?_⟩
 cases F with
 | nil=>exact absurd hpos (by simp [zv])
 | cons r F =>
  have h1:=hm.2 r (by simp)
  have h2:=r2 r (by simp)
  omega
end
theorem ziu{L:List Int}(hno:∀ k,1<=k->k<=40->zg L k=0):∀ k:Nat,k<=40->zo L k=[]
 | 0,_=>rfl
 | k+1,hk=>by
  have e:zo L (k+1)=zo L k++if zg L ((k:Int)+1)=0 then [] else [ze L ((k:Int)+1)]:=rfl
  rw [e,ziu hno k (by omega),if_pos (hno _ (by omega) (by omega))];rfl
theorem zwk{L:List Int}(hf:Fine L){n t f m:Int}{i:Nat}(hlow:QH L=i)(hi:i<40)(n1:1<=n)(n2:n<=1000)(t1:0<=t)(t2:t<=15)(hfr:qo ((L.length:Int)-288) (srtL (zn L))=[(f,m)])(hnm:n<=m) :
  alE L n t=0/\alH L n t=(i:Int)+1/\Fine (alB L n t)/\(alB L n t).length=L.length/\ze (alB L n t) ((i:Int)+1)=((i:Int)+1,288+f,n,t)/\zg (alB L n t) ((i:Int)+1)≠0/\(∀ k,1<=k->k<=40->k≠(i:Int)+1->zg (alB L n t) k=zg L k/\ze (alB L n t) k=ze L k)/\∀ j,j<8->rowAt (alB L n t) j=rowAt L j:=by
 have hfit:zaR n [(f,m)]=(f,m):=by
  unfold zaR
  simp only [List.foldl,Zt]
  rw [if_pos ⟨hnm,.inl trivial⟩]
 have hE:zc7 ((L.length:Int)-288) (zn L) n=0:=by
  rw [zf6 hf n1 (by omega),hfr,hfit,if_neg (by dsimp only;omega)]
 have h0:alE L n t=0:=by
  unfold alE
  rw [if_neg (by omega),if_neg (by omega),hE]
 have hA:zau ((L.length:Int)-288) (zn L) n=f:=by
  rw [zhi hf n1 (by omega) hE,hfr,hfit]
 obtain⟨x,M,hk⟩:=zep hf h0
 have hx:(x:Int)=288+f:=by rw [<- hk.eqx,hA]
 have hM:(M:Int)=n:=hk.eqn.symm
 obtain⟨k1,k2,k3,k4,k5,k6⟩:=hk.keep hf h0
 rw [hlow,hx,hM] at k4
 rw [hlow] at k5 k6
 exact⟨h0,by unfold alH;rw [if_pos h0,hlow],k1,k2,k4,k5,fun k a b c=>(k6 k a b c).2,fun j hj=>zgw hf h0 hj⟩
theorem zhJ:srtL []=[]:=by unfold srtL;simp
section
variable {N:Nat} {X:List Int}
structure Sta (X:List Int) (O U F M R:Int):Prop where
 o:((zn X).length:Int)=O
 u:zv (zn X)=U
 f:zv (zy ((X.length:Int)-288) (zn X))=F
 m:qp 0 (zy ((X.length:Int)-288) (zn X))=M
 r:((zy ((X.length:Int)-288) (zn X)).length:Int)=R
theorem Sta.of(X:List Int):Sta X ((zn X).length:Int) (zv (zn X)) (zv (zy ((X.length:Int)-288) (zn X))) (qp 0 (zy ((X.length:Int)-288) (zn X))) ((zy ((X.length:Int)-288) (zn X)).length:Int):=⟨rfl,rfl,rfl,rfl,rfl⟩
theorem Sta.sums{O U F M R:Int}(s:Sta X O U F M R)(hf:Fine X):U+F=(X.length:Int)-288/\0<=U/\0<=M/\M<=F/\R<=O+1/\0<=O/\O<=40/\0<=R/\(F=0 ↔ R=0)/\(0<F->1<=M):=by
 obtain⟨r1,r2,r3⟩:=zdK hf
 obtain⟨m1,m2,m3⟩:=zrF hf
 have u0:=zfg hf
 have htl:=zaY X
 have hu:=(zb9 (h:=zn X) (fun e he=>by
  obtain⟨h,h1,h2,h3,rfl⟩:=Zd.1 he
  have:=hf.ent h1 h2 h3
  unfold shE
  dsimp only
  omega)).1
 obtain⟨rfl,rfl,rfl,rfl,rfl⟩:=s
 generalize zy ((X.length:Int)-288) (zn X)=FL at *
 refine⟨u0,hu,m1,m2,by omega,by omega,by omega,by omega,⟨fun h=>?_,fun h=>?_⟩,m3⟩
 ·rw [r3.1 h];rfl
 ·exact r3.2 (List.eq_nil_of_length_eq_zero (by omega))
end
end Go.Proofs.YtchmlnmhbfaclaaGreatDoor
namespace Go.Proofs.YtchmlnmhbfaclaaGreatDoor
open Go.RowKit Go.Sort
set_option linter.unusedVariables false
set_option maxHeartbeats 2000000 in
theorem zk5(a:Option Addr)(cap:Nat)(l:List (Int×Int×Int×Int))(w:World)(hs:Sls enC 4 w a cap l)(hl:l.length<=40)(hin:∀ e∈l,0<=e.2.1/\e.2.1<=65535/\0<=e.2.2.1/\e.2.2.1<=65535) :
  Calls Tryz.prog 164 #[.slice a l.length cap] w fun e w'=>∃ v,e=.returned v/\Lst exC 2 124 w' w.heap.size v (l.map shE)/\Below w.heap.size w w':=by
 obtain⟨i0,hi0,hz0,hz1,hz2⟩:=info_parts zih
 have hcap:=hs.2.2.1
 have HS:=zb hs
 have HIN:=zb hin
 clear hs hin
 go_enter Tryz.func164,Tryz.ntmps164
 go_wp2_with fail
 go_loopw [3,8] (fun v iv wr=>∃ k:Nat,k<=l.length/\iv=.int .i64 k/\Lst exC 2 124 wr w.heap.size v ((l.map shE).take k)/\Below w.heap.size w wr) (fun _ iv _=>l.length-(intOf iv).toNat)
 case atStart=>exact⟨0,Nat.zero_le _,rfl,Lst.nil _ _,Below.refl _ _⟩
 case round =>
  obtain⟨k,hk,rfl,hown,hbel⟩:=hrel
  obtain⟨va,vm,vc,rfl⟩:=hown.shape
  by_cases hlt:k<l.length
  ·have hne:l≠[]:=by intro e;rw [e] at hlt;simp at hlt
   obtain⟨b1,o1,rfl,hc1⟩:=((za HS).below hbel).2.2.2 hne
   obtain⟨f,hf⟩:∃ f,l[k]?=some f:=⟨l[k],List.getElem?_eq_getElem hlt⟩
   obtain⟨q0,q1,q2,q3⟩:=Sls.ent (cap:=0) hc1 hf
   have HT:=zb (zqA hf)
   have hfi:=za HIN f (List.mem_of_getElem? hf)
   have hml:((l.map shE).take k).length<=40:=by simp;omega
   obtain⟨x,y,z,t⟩:=f
   dsimp only at *
   have hB1:=hbel.alloc hbel.size (.cells #[.int .i64 x,.int .i64 y,.int .i64 z,.int .i64 t] 126)
   have HB3:=zb (hB1.alloc hB1.size (.cells #[.int .i64 (y-288),.int .i64 z] 124))
   have HO3:=zb ((hown.below ((Below.refl _ _).alloc (Nat.le_refl _) (.cells #[.int .i64 x,.int .i64 y,.int .i64 z,.int .i64 t] 126))).below ((Below.refl _ _).alloc (Nat.le_refl _) (.cells #[.int .i64 (y-288),.int .i64 z] 124)))
   have HGN:Hid (((wr.alloc (.cells #[.int .i64 x,.int .i64 y,.int .i64 z,.int .i64 t] 126)).alloc (.cells #[.int .i64 (y-288),.int .i64 z] 124)).heap[wr.heap.size+1]?=some (.cells (exC (y-288,z)).toArray 124 (0,0))):=zb (by
    have:=heap_alloc_new (wr.alloc (.cells #[.int .i64 x,.int .i64 y,.int .i64 z,.int .i64 t] 126)) (.cells #[.int .i64 (y-288),.int .i64 z] 124)
    rw [qF] at this
    exact this)
   have hsz:=hbel.size
   clear hc1 hf hne hbel hB1 hown
   go_wp2_with (at_builtin;refine zr rfl _ _ 96 rfl w.heap.size i0 (.agg #[.int .i64 0,.int .i64 0]) 16 Tryz.underlying96 hi0 hz0 hz1 hz2 rfl (by decide) (by decide) _ _ rfl (za HO3) (wr.heap.size+1) (y-288,z) rfl (za HGN) rfl (zl3 _) (by omega) (by simp;omega) ?_)
   intro v9 w9 hown9 hbel9
   rw [<- za HT] at hown9
   have HO9:=zb hown9
   have HB9:=zb ((za HB3).trans hbel9)
   obtain⟨a9,m9,c9,rfl⟩:=hown9.shape
   clear hown9 hbel9 HO3 HB3 HGN q0 q1 q2 q3
   go_wp2
   go_roundw
   case rel=>exact⟨k+1,by omega,by go_num,za HO9,za HB9⟩
   case measure=>simp [intOf];omega
  ·obtain rfl:k=l.length:=by omega
   rw [List.take_of_length_le (by simp)] at hown
   have HO:=zb hown
   have HB:=zb hbel
   clear hown hbel
   go_wp2
   go_ret
   exact⟨_,rfl,za HO,za HB⟩
theorem zCJ{L:List Int}(hf:Fine L):∀ e∈zn L,InI e:=fun e he=>by
 have hl:=hf.len
 obtain⟨h,h1,h2,h3,rfl⟩:=Zd.1 he
 have:=hf.ent h1 h2 h3
 unfold InI shE
 dsimp only
 omega
section
variable {w:World} {B p g c:Nat} {L:List Int} {O U F M R:Int}
set_option maxRecDepth 100000 in
set_option maxHeartbeats 1000000 in
theorem zof(h:Hp w B p g c L)(s:Sta L O U F M R) :
  Calls Tryz.prog 108 #[.pointer (some ⟨p,0,none⟩)] w fun e w'=>e=.returned (.tuple #[.agg #[.int .i64 O,.int .i64 U,.int .i64 F,.int .i64 M,.int .i64 R],.nilIface])/\Below w.heap.size w w':=by
 have hb0:Below w.heap.size w (w.alloc (.cells #[.int .i64 0,.int .i64 0,.int .i64 0,.int .i64 0,.int .i64 0] 94)):=(Below.refl _ _).alloc (Nat.le_refl _) _
 have HB:=zb (qu p g c B L _ (h.below hb0))
 have HS0:=zb (StB.new w 0 0 0 0 0)
 have HB0:=zb hb0
 have hf:=h.fine
 have hbyt:=h.byt
 have hlen:=h.len
 have hel:=qj L 40
 have htl:=zaY L
 have hch:=zbm hf
 have HE:=zb (fun(W:World) (a:Option Addr) (cap:Nat) (hbs:Bs W a cap L)=>zan a cap L W hbs hf.len0)
 have HT:=zb (fun(W:World) (a:Option Addr) (cap:Nat) (hs:Sls enC 4 W a cap (zo L 40))=>zk5 a cap (zo L 40) W hs hel (zl4 hf))
 have HIN:=zb (zCJ hf)
 have hst:stT ((L.length:Int)-288) (zn L)=(O,U,F,M,R):=by unfold stT;rw [if_pos hch,s.o,s.u,s.f,s.m,s.r]
 have HS:=zb (fun(W:World) (a:Option Addr) (cap:Nat) (hx:Exs W a cap (zn L))=>ztZ ((L.length:Int)-288) a cap (zn L) W hx _ _ _ _ _ hst)
 rw [hch,zf] at HS
 change Hid (∀ (W:World) (a:Option Addr) (cap:Nat),Sls enC 4 W a cap (zo L 40)->Calls Tryz.prog 164 #[.slice a (zo L 40).length cap] W fun e w'=>∃ v,e=.returned v/\Lst exC 2 124 w' W.heap.size v (zn L)/\Below W.heap.size W w') at HT
 have HBY:=zb hbyt
 clear h hf hbyt hch hst s hb0
 generalize zo L 40=EN at *
 generalize zn L=TL at *
 generalize hN:L.length=N at *
 have HN:=zb hN
 clear hN
 go_enter Tryz.func108,Tryz.ntmps108
 go_wp2_with fail
 refine(za HB).mono ?_
 rintro e w1 ⟨a1,c1,rfl,ho1,hb1⟩
 obtain⟨a1',c1',e1,hbs1⟩:=ho1.bs (za HBY) (by rw [za HN];omega)
 rw [za HN] at e1
 simp only [Value.slice.injEq,true_and] at e1
 obtain⟨rfl,rfl⟩:=e1
 have HE1:=zb (za HE w1 a1 c1 hbs1)
 have HS1:=zb ((za HS0).below hb1 (by simp))
 have HB1:=zb ((za HB0).trans (hb1.mono (by simp)))
 clear ho1 hb1 hbs1 HB HE HS0 HB0
 go_wp2_with fail
 refine(za HE1).mono ?_
 rintro e w2 ⟨v2,rfl,ho2,hb2⟩
 obtain⟨a2,c2,rfl,hs2⟩:=ho2.sls zda (by omega)
 have HT2:=zb (za HT w2 a2 c2 hs2)
 have HS2:=zb ((za HS1).below hb2 (za HS1).lt)
 have HB2:=zb ((za HB1).trans (hb2.mono (za HB1).size))
 clear ho2 hs2 hb2 HE1 HT HB1 HS1
 go_wp2_with fail
 refine(za HT2).mono ?_
 rintro e w3 ⟨v3,rfl,ho3,hb3⟩
 have ho3':ExO w3 w2.heap.size v3 TL:=ho3
 obtain⟨a3,c3,rfl,hx3⟩:=ho3'.exs (za HIN) (by omega)
 have HC3:=zb (za HS w3 a3 c3 hx3)
 have HS3:=zb ((za HS2).below hb3 (za HS2).lt)
 have HB3:=zb ((za HB2).trans (hb3.mono (za HB2).size))
 clear ho3 ho3' hx3 hb3 HT2 HS HB2 HIN HS2
 go_wp2_with fail
 refine(za HC3).mono ?_
 rintro e w4 ⟨rfl,hb4⟩
 have hs4:=(za HS3).below hb4 (za HS3).lt
 obtain⟨c0,c1,c2,c3,c4⟩:=hs4.cells
 have f0:=hs4.fr 0
 have f1:=hs4.fr 1
 have f2:=hs4.fr 2
 have f3:=hs4.fr 3
 have f4:=hs4.fr 4
 have HS4:=zb hs4
 have HB4:=zb ((za HB3).trans (hb4.mono (za HB3).size))
 clear hb4 hs4 HC3 HS3 HB3
 go_wp2
 refine bodyPost_ret (zb0 Tryz.results108 _ _ w.heap.size _ _ _ _ _ rfl ((za HS4).setAll O U F M R)) rfl ?_
 exact⟨rfl,(((((za HB4).setCell (Nat.le_refl _) _).setCell (Nat.le_refl _) _).setCell (Nat.le_refl _) _).setCell (Nat.le_refl _) _).setCell (Nat.le_refl _) _⟩
end
end Go.Proofs.YtchmlnmhbfaclaaGreatDoor
