/-
  Parts of the proofs.
-/
import Derived.Test.YtcimhnnendlblaaGreatJPg
set_option maxRecDepth 100000
set_option maxHeartbeats 16000000
set_option linter.all false
namespace Go.Proofs.YtcimhnnendlblaaGreat
open Go.RowKit
def zft(w:World)(base:Nat)(v:Value)(l:List Int):Prop:=w.ownsRow base 3 1 v l.length (l.map (Value.int .i64))
def MkV(w:World)(base:Nat)(m:Option (Int×List Int))(v:Value):Prop :=
 match m with
 | some (s,l)=>∃ nv,v=.agg #[.int .i64 s,nv]/\zft w base nv l
 | none=>v=.agg #[.int .i64 0,.slice none 0 0]
def RP(l:List Int)(j:Nat):List Value:=(l.take j).map (Value.int .i64)
theorem RO{l:List Int}{j:Nat}(h:j<l.length):RP l (j+1)=RP l j++[.int .i64 (l.getD j 0)]:=by
 have e:l.getD j 0=l[j]:=by simp [List.getD,h]
 unfold RP;rw [List.take_succ_eq_append_getElem h,List.map_append,e];rfl
theorem V6(l:List Int):RP l l.length=l.map (Value.int .i64):=by unfold RP;rw [List.take_of_length_le zNr]
theorem Wu{L:Nat}{b:List Int}(h:(cg b).2.2≠0):mark L b=none:=by unfold mark;rw [if_neg];rintro ⟨h1,_⟩;exact h h1
theorem R7{L:Nat}{b:List Int}(h:¬ (cg b).2.1.getD 0 0<=23):mark L b=none:=by unfold mark;rw [if_neg];rintro ⟨_,h1,_⟩;exact h h1
theorem R6{L:Nat}{b:List Int}(h:0<=badAt L (gT (cg b).2.1) 0):mark L b=none:=by unfold mark;rw [if_neg];rintro ⟨_,_,h1⟩;obtain⟨z,hz,dz⟩:=(xm (Int.le_refl 0)).1 h;have:=h1 z hz;omega
theorem MI{L:Nat}{b:List Int}(h0:(cg b).2.2=0)(h1:(cg b).2.1.getD 0 0<=23)(h2:¬ 0<=badAt L (gT (cg b).2.1) 0):mark L b=some ((cg b).1,gT (cg b).2.1):=by
 unfold mark;rw [if_pos];refine⟨h0,h1,fun z hz=>?_⟩;rcases Int.lt_or_le z L with h | h
 ·exact h
 ·exact absurd ((xm (Int.le_refl 0)).2 ⟨z,hz,h⟩) h2
theorem IW{b:List Int}(h:(cg b).2.2=0):(cg b).2.1.length=24:=by
 unfold cg at h ⊢;by_cases h1:b.length≠32
 ·rw [if_pos h1] at h;cases h
 ·rw [if_neg h1] at h ⊢;by_cases h2:bz b 0 4≠bz b 28 4
  ·rw [if_pos h2] at h;cases h
  ·rw [if_neg h2] at h ⊢;by_cases h3:bz b 0 4=0
   ·rw [if_pos h3] at h;cases h
   ·rw [if_neg h3];simp;omega
theorem Q5{P:Program}{t:TypeId}(hu:P.underlying t=some (.slice 5))(cL:(P.info? 5).map (·.size)=some 1){w:World}{a:Option Addr}{cap:Nat}{l:List Int}(hb:Bs w a cap l)(i:Nat)(hi:i<=l.length) :
  ∃ a',(∀ w',(Instr.slice t (.slice a l.length cap) none (some (.int .u8 i)) none).run P w'=.ok (.slice a' i cap) w')/\Bs w a' cap (l.take i):=by
 have he:=kx hu;have py:=hb.2.1;refine⟨a,fun w'=>?_,hb.take i⟩;rw [run_slice_h (P:=P) (w:=w') t a l.length cap (by rw [he];exact hu) .u8 i (by omega) (by omega),he,eK w' cL];simp only [Result.andThen,sliced];by_cases h0:cap=0
 ·simp [h0]
 ·rw [if_neg h0];cases a with
  | none=>exact absurd (hb.2.2.2.1 rfl) h0
  | some x=>simp [Addr.add]
theorem Bs.cell0{w:World}{a:Option Addr}{cap:Nat}{l:List Int}(hb:Bs w a cap l)(i:Nat)(hi:i<l.length):∃ b off,a=some ⟨b,off,none⟩/\w.cell? ⟨b,off+i,none⟩=some (.int .u8 (l.getD i 0)):=by obtain⟨b,off,rfl,hc⟩:=hb.2.2.2.2 (by intro h;subst h;simp at hi);exact⟨b,off,rfl,hc i hi⟩
theorem Q7:(Tryz.prog.info? 207).map (·.size)=some 2:=by kernel_rfl
theorem lB{fn:Func}{p u:Tmp}(h:fn.results=#[.cell p 207,.tmp u])(tmps:Array Value)(w:World)(g:Nat)(cs:Array Value)
  (hp:tmps.getD p undef=.pointer (some ⟨g,0,none⟩)) (hg:w.heap[g]?=some (.cells cs 207 (0,0))) (jS:cs.size=2) :
  (results fn tmps).run Tryz.prog w=.ok (.tuple #[.agg cs,tmps.getD u undef]) w:=by
 rw [results_cell_tmp h,hp];have:=run_loadVar_row (P:=Tryz.prog) w g 207 207 cs (0,0) _ hg Tryz.underlying207 rfl (by rw [Q7,jS]);simp [asAddr,this,Result.andThen]
theorem uv{W:World}{g:Nat}{x y:Value}(h:W.heap[g]?=some (.cells #[x,y] 207 (0,0)))(a b:Value):((W.setCell ⟨g,0,none⟩ a).setCell ⟨g,1,none⟩ b).heap[g]?=some (.cells #[a,b] 207 (0,0)):=by rw [heap_setCell_same _ _ _ _ _ _ (heap_setCell_same _ _ _ _ _ _ h)];rfl
theorem vW{w:World}{base e size:Nat}{v:Value}{n:Nat}{xs:List Value}(h:w.ownsRow base e size v n xs):∃ a m c,v=.slice a m c:=by
 rcases h.2 with ⟨rfl,_⟩ | ⟨g,cap,cur,rfl,_⟩
 ·exact⟨_,_,_,rfl⟩
 ·exact⟨_,_,_,rfl⟩
theorem IT{w:World}{base base' e size:Nat}{v:Value}{n:Nat}{xs:List Value}(h:w.ownsRow base e size v n xs)(hb:base'<=base):w.ownsRow base' e size v n xs:=by
 refine⟨h.1,?_⟩;rcases h.2 with h0 | ⟨g,cap,cur,h1,h2,h3⟩
 ·exact .inl h0
 ·exact .inr ⟨g,cap,cur,h1,Nat.le_trans hb h2,h3⟩
theorem qD{w:World}{base e size:Nat}{v:Value}{n:Nat}{xs:List Value}(h:w.ownsRow base e size v n xs){a:Addr}(hn:v.ownBlock≠some a.block)(x:Value):(w.setCell a x).ownsRow base e size v n xs :=ed h (fun g hg=>heap_setCell_other _ _ _ _ (fun e=>hn (by rw [hg,e])))
theorem Me{w:World}{base e size:Nat}{v:Value}{n:Nat}{xs:List Value}(h:w.ownsRow base e size v n xs){g t:Nat}{cs:Array Value}(hg:w.heap[g]?=some (.cells cs t (0,0)))(ht:e≠t):v.ownBlock≠some g:=by intro e2;obtain⟨cur,h1⟩:=eM h e2;rw [hg] at h1;simp at h1;exact ht h1.2.symm
section
variable {w:World}
theorem FI(L:Nat)(a:Option Addr)(cap:Nat)(l:List Int)(hb:Bs w a cap l)(hL:L<=200) :
  Calls Tryz.prog 208 #[.slice a l.length cap,.int .i64 L] w fun e w'=>∃ v,e=.returned (.tuple #[v,.bool (mark L l).isSome])/\MkV w' w.heap.size (mark L l) v/\Below w.heap.size w w':=by
 have hl:=hb.2.2.1;obtain⟨w1,fR⟩:∃ w1,w1=(w.alloc (.cells #[.int .i64 (L:Int)] 3)).alloc (.cells #[.int .i64 0,.slice none 0 0] 207):=⟨_,rfl⟩;have ay:Below w.heap.size w w1:=by rw [fR];exact(zBr.alloc zNr _).alloc (by simp) _
 have gP:w1.heap.size=w.heap.size+2:=by rw [fR];simp
 have JO:w1.heap[w.heap.size]?=some (.cells #[.int .i64 (L:Int)] 3 (0,0)):=by rw [fR,heap_alloc_old _ _ (by simp)];exact heap_alloc_new _ _
 have uO:w1.heap[w.heap.size+1]?=some (.cells #[.int .i64 0,.slice none 0 0] 207 (0,0)):=by rw [fR];have:=heap_alloc_new (w.alloc (.cells #[.int .i64 (L:Int)] 3)) (.cells #[.int .i64 0,.slice none 0 0] 207);rw [size_alloc] at this;exact this
 have PF:=VO a cap l w1 (hb.below ay);have HOP:=af PF;have aL:=af ay;have HG1:=af JO;have KS:=af uO;have HL:=af (@IW l);have M1:=af (@Wu L l);have M2:=af (@R7 L l);have M3:=af (@R6 L l);have M4:=af (@MI L l);clear PF ay JO uO hb;generalize cg l=O at *;generalize mark L l=M at *;obtain⟨i0,eP,cY,dw,dz⟩:=info_parts uD;go_enter Tryz.func208,Tryz.ntmps208
 go_wp2_with fail
 rw [<- fR];clear fR;refine(ae HOP).mono ?_;rintro e w2 ⟨a2,c2,rfl,aK,lr⟩;obtain⟨n,B,E⟩:=O;dsimp only at *;have aQ:=zTr aL lr;have qg:=(lr.block _ (by omega)).trans (ae HG1);have iP:=(lr.block _ (by omega)).trans (ae KS);have gM:=lr.size;have r0:w2.cell? ⟨w.heap.size+1,0,none⟩=some (.int .i64 0):=by rw [cell_of_row _ _ _ _ _ _ iP];rfl
 have r1:w2.cell? ⟨w.heap.size+1,1,none⟩=some (.slice none 0 0):=by rw [cell_of_row _ _ _ _ _ _ iP];rfl
 have f0:=frozen_of_row _ _ 0 _ _ iP;have f1:=frozen_of_row _ _ 1 _ _ iP;have HG2:=af qg;have EH:=af iP;have br:=af aK;clear lr qg iP aK HOP aL HG1 KS;by_cases hE:E=0
 ·subst hE;rw [aA];have hB:=ae HL rfl;obtain⟨b,off,rfl,Cm⟩:=(ae br).cell0 0 (by omega);rw [Nat.add_zero] at Cm;obtain⟨z0,z1⟩:=(ae br).1.getD 0;by_cases hz:B.getD 0 0<=23
  ·obtain⟨a3,BP,bR⟩:=db (P:=Tryz.prog) (t:=30) zu30 aN (ae br) 1 (by omega);obtain⟨k,hk⟩:∃ k:Nat,B.getD 0 0=k:=⟨(B.getD 0 0).toNat,by omega⟩;have lQ:(B.drop 1).length=23:=by simp;omega
   obtain⟨a4,hhi,dO⟩:=Q5 (P:=Tryz.prog) (t:=30) zu30 aN bR k (by omega);have ou:gT B=(B.drop 1).take k:=by unfold gT;rw [hk,zTn]
   have wH:((B.drop 1).take k).length=k:=by simp;omega
   rw [<- ou] at dO wH;rw [lQ] at hhi;rw [hB] at BP ⊢;rw [hk] at Cm hz z0 z1;rw [show((1:Nat):Int)=1 from rfl] at BP;have hgc:w2.cell? ⟨w.heap.size,0,none⟩=some (.int .i64 (L:Int)):=by rw [cell_of_row _ _ _ _ _ _ (ae HG2)];rfl
   have kK:∀ n,Calls Tryz.prog 99 #[.slice a4 k (c2-1),.func (.func 242) #[] #[.pointer (some ⟨w.heap.size,0,none⟩)]] (w2.drewN n) fun e w'=>e=.returned (.bool (decide (0<=badAt L (gT B) 0)))/\w2.drewN n=w':=fun n=>by have:=B6 (w:=w2.drewN n) w.heap.size L a4 (c2-1) (gT B) (vj dO n) hgc;rwa [wH] at this
   have HBN:=af dO;have HNL:=af wH;have M4':=af (ae M4 rfl (by rw [hk];omega));clear bR dO wH lQ ou hB br HL M1 M2 M4 hk;have zmy:k<=23:=by omega
   clear hgc;by_cases hZ:0<=badAt (L:Int) (gT B) 0
   ·rw [decide_eq_true hZ] at kK;have OE:=af kK;have hM:=ae M3 hZ;subst hM;clear kK M3 M4' hZ;go_wp2_with fail
    go_quiet (fail)
    go_wp2_with fail
    refine(ae OE _).mono ?_;rintro e w3 ⟨rfl,rfl⟩;go_wp2;have ao:=ae aQ;refine bodyPost_ret (lB Tryz.results208 _ _ (w.heap.size+1) _ rfl (uv (W:=w2.drewN nq) (ae EH) _ _) rfl) rfl ?_;exact⟨_,rfl,rfl,((below_drewN ao nq).setCell (by exact Nat.le_succ _) _).setCell (by exact Nat.le_succ _) _⟩
   ·have hM:=ae M4' (by omega);subst hM;rw [decide_eq_false hZ] at kK;have OE:=af kK;clear kK M3 M4' hZ;obtain⟨vX,DZ⟩:∃ vX,gT B=vX:=⟨_,rfl⟩;rw [DZ] at HBN HNL;have HNU:=af DZ;clear DZ;go_wp2_with fail
    go_quiet (fail)
    go_wp2_with fail
    refine(ae OE _).mono ?_;rintro e w3 ⟨rfl,nE⟩;have qO:w3.heap[w.heap.size+1]?=some (.cells #[.int .i64 0,.slice none 0 0] 207 (0,0)):=by rw [<- nE];exact ae EH
    have bR:Bs w3 a4 (c2-1) vX:=by rw [<- nE];exact ae HBN
    have zc3:Below w.heap.size w w3:=by rw [<- nE];exact below_drewN (ae aQ) nq
    have oq:w.heap.size+2<=w3.heap.size:=by rw [<- nE];show _<=w2.heap.size;omega
    have HM3:=af qO;have cT:=af bR;have zjL:=af zc3;clear nE qO bR zc3 OE EH HBN aQ HG2 BP hhi Cm r0 r1 f0 f1;go_wp2_with fail
    have JN:=heap_alloc_new w3 (.cells #[.int .i64 n,.slice none 0 0] 207);have HGM:=af JN;clear JN;have wH:=ae HNL;go_loopw [42] (fun v wr=>∃ (j:Nat) (nv:Value),j<=k/\v=.int .i64 j/\wr.heap[w3.heap.size]?=some (.cells #[.int .i64 n,nv] 207 (0,0))/\wr.ownsRow w3.heap.size 3 1 nv j (RP vX j)/\Below w3.heap.size w3 wr) (fun v _=>k-(intOf v).toNat)
    case atStart=>exact⟨0,_,Nat.zero_le _,rfl,ae HGM,World.ownsRow_nil _ _ _ _,zBr.alloc zNr _⟩
    case round =>
     obtain⟨j,nv,hj,rfl,JN,az,ao⟩:=hrel;obtain⟨na,nl,nc,rfl⟩:=vW az;have m1:wr.cell? ⟨w3.heap.size,1,none⟩=some (.slice na nl nc):=by rw [cell_of_row _ _ _ _ _ _ JN];rfl
     by_cases aM:j<k
     ·have dO:=(ae cT).below ao;obtain⟨bb,ob,rfl,hcj⟩:=dO.cell0 j (by omega);obtain⟨z0,z1⟩:=dO.1.getD j;have cL:=ao.size;have aO:=Me az JN (by decide);have HO:=af (World.ownsRow.alloc az (.cells #[.int .i64 (vX.getD j 0)] 3));have lj:=af (ao.alloc cL (.cells #[.int .i64 (vX.getD j 0)] 3));have KW:=af (rF az);have nK:=af (RO (l:=vX) (j:=j) (by omega));have zjy:=af (show(wr.alloc (.cells #[.int .i64 (vX.getD j 0)] 3)).heap[w3.heap.size]?=_ from(heap_alloc_old _ _ ((zAg JN).1)).trans JN);have T8:=af aO;have xZ:w3.heap.size<wr.heap.size:=(zAg JN).1;clear dO az ao JN HGM aO;generalize vX.getD j 0=z at *;go_wp2_with (at_builtin;refine wpList_append_own_at _ rfl _ _ 44 rfl w3.heap.size 3 i0 (.int .i64 0) 1 8 zu44 eP cY dw dz rfl (by decide) _ _ _ rfl (ae HO) ⟨wr.heap.size,0,none⟩ 1 1 [.int .i64 z] rfl rfl (xk _ _ _) (FJ _) (by unfold maxLen;omega) (by omega) (by simp;omega) ?_)
      intro v9 w9 aZ mq _ _;have XH:=(mq.block w3.heap.size (by simp;omega) (fun e=>ae T8 e.symm)).trans (ae zjy);have m19:w9.cell? ⟨w3.heap.size,1,none⟩=some (.slice na nl nc):=by rw [cell_of_row _ _ _ _ _ _ XH];rfl
      have fr9:=frozen_of_row _ _ 1 _ _ XH;obtain⟨va,vl,vc,rfl⟩:=vW aZ;have zlV:Hid ((w9.setCell ⟨w3.heap.size,1,none⟩ (.slice va vl vc)).heap[w3.heap.size]?=some (.cells #[.int .i64 n,.slice va vl vc] 207 (0,0))):=af (by rw [heap_setCell_same _ _ _ _ _ _ XH];rfl);have pS:=af (qD aZ (a:=⟨w3.heap.size,1,none⟩) (Me aZ XH (by decide)) (.slice va vl vc));rw [<- ae nK] at pS;have mr:=(ae lj).grown mq (by simp;omega) (ae KW);have jI:Hid (Below w3.heap.size w3 (w9.setCell ⟨w3.heap.size,1,none⟩ (.slice va vl vc))):=af (mr.setCell zNr _);clear mr;clear aZ mq XH HO lj KW zjy T8 nK;go_wp2;go_roundw
      case rel=>exact⟨j+1,_,by omega,by go_num,ae zlV,ae pS,ae jI⟩
      case measure=>simp [intOf];omega
     ·obtain rfl:j=k:=by omega
      have bB:=V6 vX;rw [wH] at bB;rw [bB] at az;have m0:wr.cell? ⟨w3.heap.size,0,none⟩=some (.int .i64 n):=by rw [cell_of_row _ _ _ _ _ _ JN];rfl
      have hm:=(ao.block _ (by omega)).trans (ae HM3);have r0:wr.cell? ⟨w.heap.size+1,0,none⟩=some (.int .i64 0):=by rw [cell_of_row _ _ _ _ _ _ hm];rfl
      have r1:wr.cell? ⟨w.heap.size+1,1,none⟩=some (.slice none 0 0):=by rw [cell_of_row _ _ _ _ _ _ hm];rfl
      have f0:=frozen_of_row _ _ 0 _ _ hm;have f1:=frozen_of_row _ _ 1 _ _ hm;have HM:=af hm;have HO:=af az;have BF:=af ((ae zjL).trans (ao.mono (by omega)));have T8:=af (Me az hm (by decide));clear hm az ao JN HGM;go_wp2;refine bodyPost_ret (lB Tryz.results208 _ _ (w.heap.size+1) _ rfl (uv (W:=wr) (ae HM) _ _) rfl) rfl ?_;refine⟨_,rfl,⟨_,rfl,?_⟩,((ae BF).setCell (by exact Nat.le_succ _) _).setCell (by exact Nat.le_succ _) _⟩;have:=qD (qD (IT (ae HO) (by omega:w.heap.size<=w3.heap.size)) (a:=⟨w.heap.size+1,0,none⟩) (ae T8) (.int .i64 n)) (a:=⟨w.heap.size+1,1,none⟩) (ae T8) (.slice na nl nc);unfold zft;rw [ae HNU,wH];exact this
  ·have hM:=ae M2 (by omega);subst hM;generalize B.getD 0 0=z at *;rw [hB];have hz':23<z:=by omega
   clear M1 M2 M3 M4 HL hB hz;go_wp2;have ao:=ae aQ;refine bodyPost_ret (lB Tryz.results208 _ _ (w.heap.size+1) _ rfl (uv (W:=w2) (ae EH) _ _) rfl) rfl ?_;exact⟨_,rfl,rfl,(ao.setCell (by exact Nat.le_succ _) _).setCell (by exact Nat.le_succ _) _⟩
 ·have hM:=ae M1 hE;subst hM;rw [aC _ hE];clear M1 M2 M3 M4 HL;generalize B.length=bl at *;go_wp2;have ao:=ae aQ;refine bodyPost_ret (lB Tryz.results208 _ _ (w.heap.size+1) _ rfl (uv (W:=w2) (ae EH) _ _) rfl) rfl ?_;exact⟨_,rfl,rfl,(ao.setCell (by exact Nat.le_succ _) _).setCell (by exact Nat.le_succ _) _⟩
end
section
open Go.MapKept
open Go.ChangeMaps
open Go.Maps (Keyed)
def o8(n:Int):DataW Unit:=.lit (.int .i64 n)
def markR:Value->Option (DataW Unit×List MemPlace)
 | .agg cs=>match cs.toList with
  | [.int .i64 s,.slice none n c]=>some (.agg [o8 s,o8 n,o8 c],[])
  | [.int .i64 s,.slice (some ⟨b,off,none⟩) n c]=>some (.agg [o8 s,o8 n,o8 c,o8 b,o8 off],[])
  | _=>none
 | _=>none
theorem Dt{v v':Value}{d:DataW Unit}{ps ps':List MemPlace}(h:markR v=some (d,ps))(h':markR v'=some (d,ps')):v=v':=by
 unfold markR at h h';split at h
 ·rename_i cs
  split at h
  ·rename_i s n c e
   split at h'
   ·rename_i cs'
    split at h'
    ·rename_i s' n' c' e'
     simp only [Option.some.injEq,Prod.mk.injEq] at h h';have:=h.1.trans h'.1.symm;simp [o8] at this;obtain⟨rfl,h1,h2⟩:=this;obtain rfl:n=n':=by omega
     obtain rfl:c=c':=by omega
     rw [<- e'] at e
     congr 1
     exact Array.ext' e
    ·rename_i s' b' o' n' c' e'
     simp only [Option.some.injEq,Prod.mk.injEq] at h h';have:=h.1.trans h'.1.symm;simp at this
    ·cases h'
   ·cases h'
  ·rename_i s b o n c e
   split at h'
   ·rename_i cs'
    split at h'
    ·rename_i s' n' c' e'
     simp only [Option.some.injEq,Prod.mk.injEq] at h h';have:=h.1.trans h'.1.symm;simp at this
    ·rename_i s' b' o' n' c' e'
     simp only [Option.some.injEq,Prod.mk.injEq] at h h';have:=h.1.trans h'.1.symm;simp [o8] at this;obtain⟨rfl,h1,h2,h3,h4⟩:=this;obtain rfl:n=n':=by omega
     obtain rfl:c=c':=by omega
     obtain rfl:b=b':=by omega
     obtain rfl:o=o':=by omega
     rw [<- e'] at e
     congr 1
     exact Array.ext' e
    ·cases h'
   ·cases h'
  ·cases h
 ·cases h
def xS:Value:=.agg #[.int .i64 0,.slice none 0 0]
theorem th:markR xS=some (.agg [o8 0,o8 0,o8 0],[]):=rfl
theorem CE(w:World):(zeroValue 207).run Tryz.prog w=.ok xS w:=by
 have h:(Tryz.prog.info? 207).map (fun i=>i.zero)=some (some xS):=by kernel_rfl
 cases hi:Tryz.prog.info? 207 with
 | none=>rw [hi] at h;cases h
 | some i =>rw [hi] at h;simp at h;simp [zeroValue,typeInfo,hi,h]
def Okv(v:Value):Prop:=∃ d ps,markR v=some (d,ps)
theorem RB(s:Int){w:World}{base e size:Nat}{v:Value}{n:Nat}{xs:List Value}(h:w.ownsRow base e size v n xs):Okv (.agg #[.int .i64 s,v]):=by
 rcases h.2 with ⟨rfl,_⟩ | ⟨g,cap,cur,rfl,_⟩
 ·exact⟨_,_,rfl⟩
 ·exact⟨_,_,rfl⟩
def RM(w:World)(m n:Nat)(f:Nat->Option Value):Prop :=∃ Dm,w.ownsMap Tryz.prog 3 markR m n Dm/\∀ i:Nat,i<2->Maps.has Dm (.int .i64 i)=(f i).isSome/\∀ v,f i=some v->∃ d ps,markR v=some (d,ps)/\Dm.atKey (.int .i64 i) (.agg [o8 0,o8 0,o8 0])=d
theorem RM.lt{w:World}{m n:Nat}{f:Nat->Option Value}(h:RM w m n f):m<w.heap.size:=by obtain⟨Dm,h1,_⟩:=h;exact h1.lt
theorem RM.same{w w':World}{m n:Nat}{f:Nat->Option Value}(h:RM w m n f)(hs:w'.heap[m]?=w.heap[m]?):RM w' m n f:=by obtain⟨Dm,⟨es,clock,hb,r⟩,h2⟩:=h;exact⟨Dm,⟨es,clock,hs.trans hb,r⟩,h2⟩
theorem RM.below{w w':World}{m n:Nat}{f:Nat->Option Value}(h:RM w m n f)(hb:Below w.heap.size w w'):RM w' m n f:=h.same (hb.block m h.lt)
theorem RM.made(w:World):RM (w.alloc (.map #[] 0)) w.heap.size 0 (fun _=>none):=⟨.map [],World.ownsMap_made w _ _ _,fun i _=>⟨rfl,fun v hv=>by cases hv⟩⟩
theorem RM.look{w:World}{m n:Nat}{f:Nat->Option Value}(h:RM w m n f)(c:Bool){i:Nat}(hi:i<2) :
  (Instr.lookup 227 (.map (some m)) (.int .i64 i) c).run Tryz.prog w=.ok (if c then .tuple #[(f i).getD xS,.bool (f i).isSome] else (f i).getD xS) w:=by
 obtain⟨Dm,az,hD⟩:=h;have dt:=Maps.keyOf_int_mk (P:=Tryz.prog) zu3 (qm i (by omega));have lG:∀ v ps,markR v=some (Dm.atKey (.int .i64 i) (.agg [o8 0,o8 0,o8 0]),ps)->v=(f i).getD xS:=by
  intro v ps hv;cases hm:f i with
  | none =>
   have gI:Maps.has Dm (.int .i64 i)=false:=by rw [(hD i hi).1,hm];rfl
   rw [Maps.atKey_of_not_has gI] at hv;exact Dt hv th
  | some b =>obtain⟨d,ps',h1,h2⟩:=(hD i hi).2 b hm;rw [h2] at hv;exact Dt hv h1
 cases c with
 | true =>obtain⟨v,ps,bw,hv⟩:=az.look_ok (Maps.int_keyed zu3) Tryz.underlying227 (CE w) th dt;rw [bw,lG v ps hv,(hD i hi).1];rfl
 | false =>obtain⟨v,ps,bw,hv⟩:=az.lookup (Maps.int_keyed zu3) Tryz.underlying227 (CE w) th dt;rw [bw,lG v ps hv];rfl
def LO(f:Nat->Option Value)(i:Nat)(v:Value):Nat->Option Value:=fun j=>if j=i then some v else f j
theorem RM.store{w:World}{m n:Nat}{f:Nat->Option Value}(h:RM w m n f){i:Nat}(hi:i<2){v:Value}(hv:Okv v)(hn:n<=300) :
  ∃ w',(Instr.mapUpdate 227 (.map (some m)) (.int .i64 i) v).run Tryz.prog w=.ok () w'/\RM w' m (n+1) (LO f i v)/\w.mapTurned w' m:=by
 obtain⟨Dm,az,hD⟩:=h;obtain⟨d,ps,hv⟩:=hv;have dt:=Maps.keyOf_int_mk (P:=Tryz.prog) zu3 (qm i (by omega));obtain⟨w',bw,ew,ht⟩:=az.store (Maps.int_keyed zu3) Tryz.underlying227 (by unfold maxLen;omega) dt hv;have jM:WideAt.IsKeyLit (.int .i64 (i:Int)):=(Maps.int_keyed zu3).key dt;refine⟨w',bw,⟨_,ew,fun j hj=>?_⟩,ht⟩;unfold LO;by_cases e:j=i
 ·subst e;rw [if_pos rfl];refine⟨by rw [Maps.has_put_same az.isMap jM];rfl,fun u hu=>?_⟩;obtain rfl:=zOi hu;exact⟨d,ps,hv,Maps.atKey_put_same az.isMap jM _ _⟩
 ·have aO:Lit.int .i64 (j:Int)≠Lit.int .i64 (i:Int):=by intro e2;simp only [Lit.int.injEq,true_and] at e2;omega
  rw [if_neg e,Maps.has_put_other aO,Maps.atKey_put_other aO];exact hD j hj
theorem FU(x:Int)(w:World):Calls Tryz.prog 243 #[.int .i64 x] w fun e w'=>e=.returned (.bool false)/\w=w':=by
 go_enter Tryz.func243,Tryz.ntmps243
 go_wp2;go_ret;exact⟨by simp,rfl⟩
def Kn(x y:Int):Int:=if x<y then -1 else if y<x then 1 else 0
theorem Kh(x y:Int)(w:World):Calls Tryz.prog 211 #[.int .i64 x,.int .i64 y] w fun e w'=>e=.returned (.int .i64 (Kn x y))/\w=w':=by
 unfold Kn;by_cases h1:x<y
 ·rw [if_pos h1];go_enter Tryz.func211,Tryz.ntmps211
  go_wp2_with (go_at_call 243;refine(FU _ _).mono ?_;rintro e w' ⟨rfl,rfl⟩)
  go_ret;exact⟨rfl,rfl⟩
 ·rw [if_neg h1];by_cases h2:y<x
  ·rw [if_pos h2];go_enter Tryz.func211,Tryz.ntmps211
   go_wp2_with (go_at_call 243;refine(FU _ _).mono ?_;rintro e w' ⟨rfl,rfl⟩)
   go_ret;exact⟨rfl,rfl⟩
  ·rw [if_neg h2];go_enter Tryz.func211,Tryz.ntmps211
   go_wp2_with (go_at_call 243;refine(FU _ _).mono ?_;rintro e w' ⟨rfl,rfl⟩)
   go_ret;exact⟨rfl,rfl⟩
def Stp(f:Nat->Option Value)(i:Nat)(s:Int):Prop:=∃ nv,(f i).getD xS=.agg #[.int .i64 s,nv]
theorem J8(x:Int)(nv:Value)(w:World):(Instr.field 207 (.agg #[.int .i64 x,nv]) 0).run Tryz.prog w=.ok (.int .i64 x) w:=by simp [Instr.field,run_underlying Tryz.underlying207,run_underlying Tryz.underlying3,part,isAgg,asAgg,go_sem]
theorem I1{w:World}{m n g:Nat}{f:Nat->Option Value}(h:RM w m n f)(hg:w.cell? ⟨g,0,none⟩=some (.map (some m))){i j:Nat}(hi:i<2)(hj:j<2){x y:Int}(hx:Stp f i x)(hy:Stp f j y) :
  Calls Tryz.prog 210 #[.int .i64 i,.int .i64 j,.pointer (some ⟨g,0,none⟩)] w fun e w'=>e=.returned (.int .i64 (Kn x y))/\w=w':=by
 obtain⟨nx,hx⟩:=hx;obtain⟨ny,hy⟩:=hy;have l1:=h.look false hi;have l2:=h.look false hj;rw [hx] at l1;rw [hy] at l2;simp only [Bool.false_eq_true,if_false] at l1 l2;have hf:=J8;clear h hx hy;go_enter Tryz.func210,Tryz.ntmps210
 go_wp2_with fail
 refine(Kh x y w).mono ?_;rintro e w' ⟨rfl,rfl⟩;go_wp2;go_ret;exact⟨rfl,rfl⟩
theorem zbm{w:World}{m n g b:Nat}{f:Nat->Option Value}(h:RM w m n f)(hg:w.cell? ⟨g,0,none⟩=some (.map (some m))){x y:Int}(hx:Stp f 0 x)(hy:Stp f 1 y)(hb:w.heap[b]?=some (.cells #[.int .i64 0,.int .i64 1] 3 (0,0))) :
  Calls Tryz.prog 209 #[.slice (some ⟨b,0,none⟩) 2 2,.func (.func 210) #[] #[.pointer (some ⟨g,0,none⟩)]] w fun e w'=>e=.returned (.int .i64 (if x<y then 1 else 0))/\w=w':=by
 have HN:=af (I1 h hg (i:=1) (j:=0) (by decide) (by decide) hy hx);have b0:w.cell? ⟨b,0,none⟩=some (.int .i64 0):=by rw [cell_of_row _ _ _ _ _ _ hb];rfl
 have b1:w.cell? ⟨b,1,none⟩=some (.int .i64 1):=by rw [cell_of_row _ _ _ _ _ _ hb];rfl
 rw [show((1:Nat):Int)=1 from rfl,show((0:Nat):Int)=0 from rfl] at HN;clear h hg hx hy hb;obtain⟨r,hr⟩:∃ r:Int,r=if x<y then 1 else 0:=⟨_,rfl⟩
 rw [<- hr];have HR:=af hr;clear hr;go_enter Tryz.func209,Tryz.ntmps209
 go_wp2_with fail
 go_loop [5,6] (fun v i=>(i=.int .i64 1/\v=.int .i64 0)\/(i=.int .i64 2/\v=.int .i64 r)) (fun _ i=>2-(intOf i).toNat)
 case atStart=>exact .inl ⟨rfl,rfl⟩
 case round =>
  rcases hrel with ⟨rfl,rfl⟩ | ⟨rfl,rfl⟩
  ·by_cases DN:x<y
   ·have hc:Kn y x=1:=by unfold Kn;rw [if_neg (by omega),if_pos DN]
    rw [hc] at HN;rw [if_pos DN] at HR;clear hc DN;go_wp2_with (go_at_call 210;refine(ae HN).mono ?_;rintro e w' ⟨rfl,rfl⟩)
    go_round
    case rel=>exact .inr ⟨rfl,by rw [ae HR]⟩
    case measure=>simp [intOf]
   ·have hc:Kn y x<=0:=by unfold Kn;split <;> (try split) <;> omega
    rw [if_neg DN] at HR;generalize Kn y x=c at *;clear DN;go_wp2_with (go_at_call 210;refine(ae HN).mono ?_;rintro e w' ⟨rfl,rfl⟩)
    go_round
    case rel=>exact .inr ⟨rfl,by rw [ae HR]⟩
    case measure=>simp [intOf]
  ·go_wp2;go_ret;exact⟨rfl,rfl⟩
theorem Mo{w:World}{m n:Nat}{f:Nat->Option Value}(h:RM w m n f){x y:Int}(hx:Stp f 0 x)(hy:Stp f 1 y) :
  Calls Tryz.prog 144 #[.map (some m)] w fun e w'=>e=.returned (.int .i64 (if x<y then 1 else 0))/\Below w.heap.size w w':=by
 have hb:Below w.heap.size w ((w.alloc (.cells #[.map (some m)] 227)).alloc (.cells #[.int .i64 0,.int .i64 1] 3)):=(zBr.alloc zNr _).alloc (by simp) _;have hg:((w.alloc (.cells #[.map (some m)] 227)).alloc (.cells #[.int .i64 0,.int .i64 1] 3)).cell? ⟨w.heap.size,0,none⟩=some (.map (some m)):=by have e:((w.alloc (.cells #[.map (some m)] 227)).alloc (.cells #[.int .i64 0,.int .i64 1] 3)).heap[w.heap.size]?=_:=(heap_alloc_old _ _ (by simp)).trans (heap_alloc_new _ _);rw [cell_of_row _ _ _ _ _ _ e];rfl
 have HM:=af (zbm (h.below hb) hg hx hy (b:=w.heap.size+1) (heap_alloc2_new w _ _));generalize (if x<y then (1:Int) else 0)=r at *;have HB:=af hb;clear h hx hy hb hg;go_enter Tryz.func144,Tryz.ntmps144
 go_wp2_with fail
 refine(ae HM).mono ?_;rintro e w' ⟨rfl,rfl⟩;go_wp2;go_ret;exact⟨rfl,ae HB⟩
end
theorem lN{w w':World}{base e size:Nat}{v:Value}{n:Nat}{xs:List Value}(h:w.ownsRow base e size v n xs)(hb:Below w.heap.size w w'):w'.ownsRow base e size v n xs :=ed h (fun g hg=>hb.block g (VI h g hg))
def vu(w:World)(base:Nat)(mk:Option (Int×List Int))(fv:Option Value):Prop :=
 match mk with
 | none=>fv=none
 | some (s,l)=>∃ nv,fv=some (.agg #[.int .i64 s,nv])/\zft w base nv l
theorem vu.below{w w':World}{base:Nat}{mk:Option (Int×List Int)}{fv:Option Value}(h:vu w base mk fv)(hb:Below w.heap.size w w'):vu w' base mk fv:=by
 cases mk with
 | none=>exact h
 | some q =>obtain⟨s,l⟩:=q;obtain⟨nv,h1,h2⟩:=h;exact⟨nv,h1,lN h2 hb⟩
section
variable {w0 w:World} {p:Nat} {S:Nat->Prop} {D:DS}
theorem L4(F g n:Nat)(f:Nat->Nat)(h:Live w0 w p S D)(hd:D.down=false)(hn:n<=300)(hr:∀ k,k<n->f k<D.secs.length)
  (hF:∀ args w',(callFunc F args).run Tryz.prog w'=.ok (.enter F args) w')
  (hf:∀ w',Below w.heap.size w w'->∀ k:Nat,k<n->Calls Tryz.prog F #[.int .i64 k,.pointer (some ⟨g,0,none⟩)] w' fun e w''=>e=.returned (.int .i64 (f k))/\w'=w'') :
  Calls Tryz.prog 145 #[.pointer (some ⟨p,0,none⟩),.int .i64 n,.func (.func F) #[] #[.pointer (some ⟨g,0,none⟩)]] w fun e w' =>∃ t,e=.returned (.tuple #[.slice (some ⟨t,0,none⟩) n n,.nilIface])/\BG w' S t n (fun k=>D.rd (f k))/\t<w'.heap.size/\Below w.heap.size w w':=by
 obtain⟨i1,hi1,hy0,Sv,hy2⟩:=info_parts Ax;have hS:∀ k,w.heap.size<=k->¬ S k:=fun k hk hs=>by have:=h.dev.lt k hs;omega
 have H:=af h;have HF:=af hf;have HFF:=af hF;have HR:=af hr;have dy:=h.dev.ok;clear h hf hF hr;go_enter Tryz.func145,Tryz.ntmps145
 go_wp2_with (at_make;refine yz rfl _ _ 182 rfl i1 Tryz.underlying182 hi1 hy0 Sv hy2 _ _ _ _ n rfl rfl rfl rfl (by omega) ?_)
 intro w1 M5 ay;have EG:=af (M5 S (fun k=>D.rd (f k)) (hS _ zNr));have aL:=af ay;clear M5 ay;go_wp2_with fail
 go_loopw [16] (fun v wr=>∃ k:Nat,k<=n/\v=.int .i64 k/\vF wr S w.heap.size n (fun k=>D.rd (f k)) k/\Below w.heap.size w wr) (fun v _=>n-(intOf v).toNat)
 case atStart=>exact⟨0,Nat.zero_le _,rfl,ae EG,ae aL⟩
 case round =>
  obtain⟨k,hk,rfl,M5,ao⟩:=hrel;by_cases aM:k<n
  ·have HC:=af (ae HF wr ao k aM);have sw:=((ae H).below ao).read (f k) (ae HR k aM) hd;have xx:=af sw;have zjn:=af M5;have aQ:=af ao;have cL:=ao.size;clear sw M5 ao;generalize hfk:f k=fk at *;have HFK:=af hfk;clear hfk;go_wp2_with fail
   rw [ae HFF,Oper.upon_enter];refine(ae HC).mono ?_;rintro e w2 ⟨rfl,rfl⟩;go_wp2_with fail
   refine(ae xx).mono ?_;rintro e w3 ⟨g3,rfl,hg3,GR,bR⟩;have PB:=(ae zjn).below bR;obtain⟨rv,su⟩:=PB.room k aM;have Ci:=PB.fr k;have HP:Hid (vF (w3.setCell ⟨w.heap.size,k,none⟩ (.slice (some ⟨g3,0,none⟩) 32 32)) S w.heap.size n (fun k=>D.rd (f k)) (k+1)):=af (PB.put aM (by show fH w3 g3 (D.rd (f k));rw [ae HFK];exact GR) (hS g3 (by omega)));have cT:Hid (Below w.heap.size w (w3.setCell ⟨w.heap.size,k,none⟩ (.slice (some ⟨g3,0,none⟩) 32 32))):=af (((ae aQ).trans (bR.mono cL)).setCell zNr _);clear PB GR bR zjn aQ xx HC;go_wp2;go_roundw
   case rel=>exact⟨k+1,by omega,by go_num,ae HP,ae cT⟩
   case measure=>simp [intOf];omega
  ·obtain rfl:k=n:=by omega
   go_wp2;go_ret2;refine⟨_,rfl,⟨hS _ zNr,fun j hj=>?_⟩,M5.lt,ao⟩;obtain⟨cur,h1,h2,h3,h4⟩:=M5;obtain⟨g',h5,h6,h7⟩:=h4 j hj;have gN:kS (D.rd (f j)):=dy.rd (ae HR j hj);refine⟨some ⟨g',0,none⟩,32,?_,pI h6 gN,fun _ x hx=>?_⟩
   ·rw [cell_of_row _ _ _ _ _ _ h1,h5,gN.1]
   ·obtain rfl:=zOi hx;exact h7
theorem Ws{L:Nat}(h:Live w0 w p S D)(hd:D.down=false)(hl:2<=D.secs.length)(hL:e9 D.secs.length=L)(JX:L<=200) :
  Calls Tryz.prog 143 #[.pointer (some ⟨p,0,none⟩)] w fun e w'=>∃ m n f,e=.returned (.tuple #[.map (some m),.nilIface])/\RM w' m n f/\(∀ i,i<2->vu w' w.heap.size (mark L (D.rd i)) (f i))/\Below w.heap.size w w':=by
 have D1:=@run_makeMap Tryz.prog;have H:=af h;have dy:=h.dev.ok;clear h;go_enter Tryz.func143,Tryz.ntmps143
 go_wp2_with fail
 go_loopw [11] (fun v wr=>∃ (k:Nat) (f:Nat->Option Value),k<=2/\v=.int .i64 k/\(∃ n,n<=k/\RM wr w.heap.size n f)/\(∀ i,i<k->vu wr w.heap.size (mark L (D.rd i)) (f i))/\(∀ i,k<=i->f i=none)/\Below w.heap.size w wr) (fun v _=>2-(intOf v).toNat)
 case atStart=>exact⟨0,_,by omega,rfl,⟨0,zNr,RM.made w⟩,fun i hi=>absurd hi (Nat.not_lt_zero i),fun i _=>rfl,zBr.alloc zNr _⟩
 case round =>
  obtain⟨k,f,hk,rfl,⟨n,hn,JC⟩,kJ,AF,ao⟩:=hrel;by_cases aM:k<2
  ·have SK:=(ae H).below ao;have sw:=SK.read k (by omega) hd;have gN:kS (D.rd k):=dy.rd (by omega);have xx:=af sw;have HLV:=af SK;have BV:=af JC;have BC:=af kJ;have KR:=af AF;have aQ:=af ao;have cL:=ao.size;clear sw SK JC kJ AF ao;go_wp2_with fail
   refine(ae xx).mono ?_;rintro e w2 ⟨g2,rfl,qg,gO,aK⟩;have zeQ:=ke ((ae HLV).below aK).dev;rw [hL] at zeQ;have hom:=FI L (some ⟨g2,0,none⟩) 32 (D.rd k) (pI gO gN) JX;rw [gN.1] at hom;have zfD:=af zeQ;have HOM:=af hom;have br:=af aK;have gM:=aK.size;clear zeQ hom aK gO xx HLV;go_wp2_with fail
   refine(ae zfD).mono ?_;rintro e w3 ⟨rfl,rfl⟩;go_wp2_with fail
   refine(ae HOM).mono ?_;rintro e w3 ⟨v,rfl,Nb,bR⟩;have oq:=bR.size;have yJ:Below wr.heap.size wr w3:=(ae br).trans (bR.mono gM);cases hM:mark L (D.rd k) with
   | none =>
    rw [hM] at Nb;have hv:v=.agg #[.int .i64 0,.slice none 0 0]:=Nb;subst hv;have wM:Below wr.heap.size wr (w3.alloc (.cells #[.int .i64 0,.slice none 0 0] 207)):=yJ.alloc yJ.size _;have HE:Hid (∃ n,n<=k+1/\RM (w3.alloc (.cells #[.int .i64 0,.slice none 0 0] 207)) w.heap.size n f):=af ⟨n,by omega,(ae BV).below wM⟩;have HG:Hid (∀ i,i<k+1->vu (w3.alloc (.cells #[.int .i64 0,.slice none 0 0] 207)) w.heap.size (mark L (D.rd i)) (f i)):=af (fun i hi=>by
     by_cases e:i=k
     ·subst e;rw [hM];exact ae KR i zNr
     ·exact(ae BC i (by omega)).below wM)
    have HN:Hid (∀ i,k+1<=i->f i=none):=af (fun i hi=>ae KR i (by omega));have Ld:=af ((ae aQ).trans (wM.mono cL));clear Nb yJ wM bR HOM zfD br BV BC KR hM aQ;simp only [Option.isSome_none];go_wp2;go_roundw
    case rel=>exact⟨k+1,f,by omega,by go_num,ae HE,ae HG,ae HN,ae Ld⟩
    case measure=>simp [intOf];omega
   | some q =>
    obtain⟨s,l⟩:=q;rw [hM] at Nb;obtain⟨nv,rfl,ou⟩:=Nb;obtain⟨na,nl,nc,rfl⟩:=vW ou;have wM:Below wr.heap.size wr (w3.alloc (.cells #[.int .i64 s,.slice na nl nc] 207)):=yJ.alloc yJ.size _;have tF:=(ae BV).below wM;obtain⟨w5,jw,sh,xV⟩:=tF.store (i:=k) aM (RB s ou) (by omega);have hbW:Below w3.heap.size w3 (w3.alloc (.cells #[.int .i64 s,.slice na nl nc] 207)):=zBr.alloc zNr _;have hn5:=uh (IT (lN ou hbW) (by omega:w.heap.size<=w2.heap.size)) xV.grown (fun g hg e=>by have e2:=zOi e;subst e2;obtain⟨cur,hc⟩:=eM (lN ou hbW) hg;obtain⟨Dm,⟨es,clock,Up,_⟩,_⟩:=tF;rw [hc] at Up;cases Up);have HE:Hid (∃ n,n<=k+1/\RM w5 w.heap.size n (LO f k (.agg #[.int .i64 s,.slice na nl nc]))):=af ⟨n+1,by omega,sh⟩;have HG:Hid (∀ i,i<k+1->vu w5 w.heap.size (mark L (D.rd i)) (LO f k (.agg #[.int .i64 s,.slice na nl nc]) i)):=af (fun i hi=>by
     unfold LO;by_cases e:i=k
     ·subst e;rw [hM,if_pos rfl];exact⟨_,rfl,hn5⟩
     ·rw [if_neg e];have hg4:=(ae BC i (by omega)).below wM;cases hMi:mark L (D.rd i) with
      | none=>rw [hMi] at hg4;exact hg4
      | some q =>obtain⟨s',l'⟩:=q;rw [hMi] at hg4;obtain⟨nv',h1,h2⟩:=hg4;refine⟨nv',h1,uh h2 xV.grown (fun g hg e=>?_)⟩;have e2:=zOi e;subst e2;obtain⟨cur,hc⟩:=eM h2 hg;obtain⟨Dm,⟨es,clock,Up,_⟩,_⟩:=tF;rw [hc] at Up;cases Up)
    have HN:Hid (∀ i,k+1<=i->LO f k (.agg #[.int .i64 s,.slice na nl nc]) i=none):=af (fun i hi=>by unfold LO;rw [if_neg (by omega)];exact ae KR i (by omega));have zeY:=(ae aQ).trans (wM.mono cL);have Ld:=af (zeY.grown xV.grown zeY.size (fun j hj=>by cases hj;exact zNr));clear yJ wM bR HOM zfD br BV BC KR hM tF sh xV hn5 zeY hbW ou aQ;simp only [Option.isSome_some];go_wp2;go_roundw
    case rel=>exact⟨k+1,_,by omega,by go_num,ae HE,ae HG,ae HN,ae Ld⟩
    case measure=>simp [intOf];omega
  ·obtain rfl:k=2:=by omega
   go_wp2;go_ret2;exact⟨_,_,_,rfl,JC,kJ,ao⟩
end
def E7(m:Option (Int×List Int)):Int:=match m with | some (s,_)=>s | none=>0
theorem vu.stp{w:World}{base:Nat}{mk:Option (Int×List Int)}{f:Nat->Option Value}{i:Nat}(h:vu w base mk (f i)):Stp f i (E7 mk):=by
 cases mk with
 | none=>exact⟨.slice none 0 0,by rw [show f i=none from h];rfl⟩
 | some q =>obtain⟨s,l⟩:=q;obtain⟨nv,h1,_⟩:=h;exact⟨nv,by rw [h1];rfl⟩
theorem TS{L:Nat}{v:Nat->List Int}(hp:∀ i s l,mark L (v i)=some (s,l)->0<s) :
  ∃ a:Nat,a<2/\(if E7 (mark L (v 0))<E7 (mark L (v 1)) then (1:Int) else 0)=a/\mK L (v 0) (v 1)=(match mark L (v a) with | some (s,l)=>(s,a,l) | none=>(0,0,[])):=by
 have h0:=hp 0;have h1:=hp 1;unfold mK;cases e0:mark L (v 0) with
 | none =>
  cases e1:mark L (v 1) with
  | none=>exact⟨0,by decide,rfl,by rw [e0];rfl⟩
  | some q =>
   obtain⟨s,l⟩:=q;have:=h1 s l e1;refine⟨1,by decide,by show(if (0:Int)<s then (1:Int) else 0)=_;rw [if_pos this];rfl,?_⟩;rw [e1]
   show(if (0:Int)<s then (s,1,l) else (0,0,[]))=_
   rw [if_pos this]
 | some q0 =>
  obtain⟨s0,l0⟩:=q0;have hs0:=h0 s0 l0 e0;have ep:pick (0,0,[]) 0 (some (s0,l0))=(s0,0,l0):=by
   show(if (0:Int)<s0 then (s0,0,l0) else (0,0,[]))=_
   rw [if_pos hs0]
  rw [ep];cases e1:mark L (v 1) with
  | none =>refine⟨0,by decide,by show(if s0<(0:Int) then (1:Int) else 0)=_;rw [if_neg (by omega)];rfl,?_⟩;rw [e0];rfl
  | some q =>
   obtain⟨s,l⟩:=q;by_cases aM:s0<s
   ·refine⟨1,by decide,by show(if s0<s then (1:Int) else 0)=_;rw [if_pos aM];rfl,?_⟩;rw [e1]
    show(if s0<s then (s,1,l) else (s0,0,l0))=_
    rw [if_pos aM]
   ·refine⟨0,by decide,by show(if s0<s then (1:Int) else 0)=_;rw [if_neg aM];rfl,?_⟩;rw [e0]
    show(if s0<s then (s,1,l) else (s0,0,l0))=_
    rw [if_neg aM]
theorem Md{w:World}{base e size:Nat}{v:Value}{n:Nat}{xs:List Value}(h:w.ownsRow base e size v n xs):∃ a c,v=.slice a n c:=by
 rcases h.2 with ⟨rfl,rfl⟩ | ⟨g,cap,cur,rfl,_⟩
 ·exact⟨_,_,rfl⟩
 ·exact⟨_,_,rfl⟩
section
variable {w0 w:World} {p:Nat} {S:Nat->Prop} {D:DS}
theorem zaY{L:Nat}(h:Live w0 w p S D)(hL:e9 D.secs.length=L)(Yb:1<=L)(hd:D.down=false) :
  Calls Tryz.prog 81 #[.pointer (some ⟨p,0,none⟩)] w fun e w'=>∃ v,e=.returned (.tuple #[v,aR (fO D L).2.2])/\∃ S',Live w0 w' p S' (fO D L).1/\aE S S' w w' /\
   ((fO D L).2.2=0->∃ q,v=.pointer (some ⟨q,0,none⟩)/\dU w' q p (fO D L).2.1/\w.heap.size<=q/\¬ S' q)/\((fO D L).2.2≠0->v=.pointer none):=by
 have JX:L<=200/\48+L<=D.secs.length:=by unfold e9 at hL;split at hL <;> omega
 have dy:=h.dev.ok;have HC:=af (ke h.dev);rw [hL] at HC;have HM:=af (Ws h hd (by omega) hL JX.1);have hS:∀ k,w.heap.size<=k->¬ S k:=fun k hk hs=>by have:=h.dev.lt k hs;omega
 obtain⟨a,ha,hai,AP⟩:=TS (L:=L) (v:=fun i=>D.rd i) (fun i s l hm=>by
  rcases Nat.lt_or_ge i D.secs.length with h1 | h1
  ·exact(fC (dy.rd h1).2 hm).1
  ·exfalso
   have hb:bj (D.rd i):=by
    unfold DS.rd;cases e:D.mem.lookup i with
    | none =>intro z hz;simp [List.getD,List.getElem?_eq_none h1] at hz
    | some b=>exact(dy.mem _ (gw e)).2.2
   have:=(fC hb hm).2.2.2.2.2;unfold DS.rd at this;cases e:D.mem.lookup i with
   | none=>rw [e] at this;simp [List.getD,List.getElem?_eq_none h1] at this
   | some b=>have:=(dy.mem _ (gw e)).1;omega)
 have HF:Hid (∀ s l,mark L (D.rd a)=some (s,l)->l.length<=23/\∀ z∈l,0<=z/\z<L):=af (fun s l hm=>by have:=fC (dy.rd (show a<D.secs.length by omega)).2 hm;exact⟨this.2.1,this.2.2.1⟩);have Zt:Hid (∀ s l,mark L (D.rd a)=some (s,l)->fO D L=((ef D a l).1,if (ef D a l).2=0 then s else 0,(ef D a l).2)):=af (fun s l hm=>by rw [hm] at AP;dsimp only at AP;have jf:=(fC (dy.rd (show a<D.secs.length by omega)).2 hm).1;unfold fO;rw [AP,if_neg (by rw [hd];exact Bool.false_ne_true),if_neg (show ¬ s=0 by omega)]);have lK:Hid (mark L (D.rd a)=none->fO D L=(D,0,5)):=af (fun hm=>by rw [hm] at AP;dsimp only at AP;unfold fO;rw [AP,if_neg (by rw [hd];exact Bool.false_ne_true),if_pos rfl]);have H:=af h;generalize hR:fO D L=R at *;clear hR h AP hL;go_enter Tryz.func81,Tryz.ntmps81
 go_wp2_with fail
 refine(ae HC).mono ?_;rintro e w1 ⟨rfl,rfl⟩;go_wp2_with fail
 refine(ae HM).mono ?_;rintro e w1 ⟨m,n,f,rfl,JC,kJ,ay⟩;have da:=Mo JC (kJ 0 (by decide)).stp (kJ 1 (by decide)).stp;rw [hai] at da;have ji:=af da;have BV:=af JC;have BC:=af (kJ a ha);have aL:=af ay;have gP:=ay.size;clear da JC kJ ay HC HM hai;go_wp2_with fail
 refine(ae ji).mono ?_;rintro e w2 ⟨rfl,aK⟩;have bX:=((ae BV).below aK).look true ha;rw [if_pos rfl] at bX;have kJ:=(ae BC).below aK;have br:=af ((ae aL).trans (aK.mono gP));have gM:=aK.size;clear aK BV BC ji aL;cases hM:mark L (D.rd a) with
 | none =>rw [hM] at kJ;rw [show f a=none from kJ] at bX;unfold xS at bX;simp only [Option.getD_none,Option.isSome_none] at bX;have HRR:=af (ae lK hM);clear hM Zt lK HF kJ;go_wp2;go_ret2;rw [ae HRR];exact⟨_,rfl,S,(ae H).below ((ae br).alloc (ae br).size _),aE.aW ((ae br).alloc (ae br).size _),fun h=>absurd (show(5:Int)=0 from h) (by decide),fun _=>rfl⟩
 | some q =>
  obtain⟨s,l⟩:=q;rw [hM] at kJ;obtain⟨nv,hfa,ou⟩:=kJ;obtain⟨na,nc,rfl⟩:=Md ou;rw [hfa] at bX;simp only [Option.getD_some,Option.isSome_some] at bX;have hRR:=ae Zt s l hM;obtain⟨zmw,hlz⟩:=ae HF s l hM;obtain⟨X,hX⟩:∃ X,X=ef D a l:=⟨_,rfl⟩;rw [<- hX] at hRR;have HRR:=af hRR;have HX:=af hX;have Zx:=af ou;have HLZ:=af hlz;clear hM Zt lK HF ou hfa hX hlz hRR;go_wp2_with fail
  have bR:Below w.heap.size w (w2.alloc (.cells #[.int .i64 s,.slice na l.length nc] 207)):=(ae br).alloc (ae br).size _;have qO:=heap_alloc_new w2 (.cells #[.int .i64 s,.slice na l.length nc] 207);have hn3:=lN (ae Zx) (w':=w2.alloc (.cells #[.int .i64 s,.slice na l.length nc] 207)) (zBr.alloc zNr _);have oq:w2.heap.size<(w2.alloc (.cells #[.int .i64 s,.slice na l.length nc] 207)).heap.size:=by simp
  generalize w2.alloc (.cells #[.int .i64 s,.slice na l.length nc] 207)=w3 at *;have c1:w3.cell? ⟨w2.heap.size,1,none⟩=some (.slice na l.length nc):=by rw [cell_of_row _ _ _ _ _ _ qO];rfl
  have HLV:=af ((ae H).below bR);have xx:Hid (∀ wx g,Below w3.heap.size w3 wx->w3.heap.size<=g->wx.cell? ⟨g,0,none⟩=some (.int .i64 (a:Int))->Calls Tryz.prog 145 #[.pointer (some ⟨p,0,none⟩),.int .i64 (l.length:Nat),.func (.func 212) #[] #[.pointer (some ⟨g,0,none⟩)]] wx fun e w'=>∃ t,e=.returned (.tuple #[.slice (some ⟨t,0,none⟩) l.length l.length,.nilIface])/\BG w' S t l.length (fun k=>D.rd (2+23 * a+k))/\t<w'.heap.size/\Below w3.heap.size w3 w'):=af (fun wx g K7 hg hc=>by have xZ:=block_lt_of_cell hc;have:=L4 212 g l.length (fun k=>2+23 * a+k) ((ae HLV).below K7) hd (by omega) (fun k hk=>by omega) Tryz.call212 (fun w' tp k hk=>by have:=zJ g a k w' (by omega) (by omega) ((tp.cell xZ).trans hc);rw [show(2+23 * (a:Int)+(k:Int))=((2+23 * a+k:Nat):Int) by omega] at this;exact this);exact this.mono fun e w' ⟨t,he,uS,mm,hb⟩=>⟨t,he,uS,mm,K7.trans (hb.mono K7.size)⟩)
  have HM3:=af qO;have HN3:=af hn3;have cT:=af bR;clear qO hn3 bR Zx br bX;go_region_held3 (fun w'=>w'.cell? ⟨w2.heap.size,1,none⟩=some (.slice na l.length nc)) (go_keep)
   (first
    | (go_at_call 146;refine(CT _ _).mono ?_;rintro e wa ⟨rfl,Xa⟩;have nk:Below w3.heap.size w3 wa:=(by rw [Xa];exact(below_drewN zBr _).alloc zNr _);have hca:wa.cell? ⟨w3.heap.size,0,none⟩=some (.int .i64 (a:Int)):=(by rw [Xa];exact cell_of_row _ _ _ _ _ _ (heap_alloc_new _ _));clear Xa;have ra1:wa.cell? ⟨w2.heap.size,1,none⟩=some (.slice na l.length nc):=(nk.cell (by show w2.heap.size<w3.heap.size;omega)).trans c1)
    | (go_at_call 145;refine(ae xx _ _ (by exact⟨nk.os,nk.tape,nk.output,nk.size,nk.block⟩) (by exact zNr) (by exact hca)).mono ?_;rintro e wb ⟨tb,rfl,uS,mm,Cn⟩;have rb1:wb.cell? ⟨w2.heap.size,1,none⟩=some (.slice na l.length nc):=(Cn.cell (by show w2.heap.size<w3.heap.size;omega)).trans c1))
  all_goals
   have fp:Below w.heap.size w wb:=zTs cT Cn;have Nd:=(Cn.block _ oq).trans (ae HM3);have m0:wb.cell? ⟨w2.heap.size,0,none⟩=some (.int .i64 s):=by rw [cell_of_row _ _ _ _ _ _ Nd];rfl
   have hn4:=lN (ae HN3) Cn;have oy:Below wb.heap.size wb (wb.alloc (.cells #[.slice na l.length nc] 44)):=zBr.alloc zNr _;have GS:¬ S wb.heap.size:=hS _ fp.size;have hn5:=lN hn4 oy;have tH:w2.heap.size<wb.heap.size:=(zAg Nd).1;have qM:=mL 213 wb.heap.size tb l.length l.length (fun k=>D.rd (2+23 * a+k)) (fun k=>48+l.getD k 0) (((ae H).below fp).below oy) (uS.dZ (aE.aW oy) mm) (Nat.lt_of_lt_of_le mm oy.size) (by omega) zNr Tryz.call213 (fun w' S' ht k hk=>by
    obtain⟨gn,cn,e,AM,_,xZ,bk⟩:=vV hn5 (by omega);simp only [Value.slice.injEq] at e;obtain⟨rfl,_,rfl⟩:=e;have hz:=ae HLZ _ (nV hk);have Cl:(wb.alloc (.cells #[.slice (some ⟨gn,0,none⟩) l.length nc] 44)).cell? ⟨gn,k,none⟩=some (.int .i64 (l.getD k 0)):=by rw [bk k hk];simp [List.getD,hk]
    have hnS:¬ S gn:=hS _ AM;refine DX wb.heap.size gn nc l.length k (l.getD k 0) w' hk (by omega) (by omega) ((World.cell?_of_block (a:=⟨wb.heap.size,0,none⟩) (ht.block _ (by simp) GS)).trans ?_) ((World.cell?_of_block (a:=⟨gn,k,none⟩) (ht.block _ xZ hnS)).trans Cl);rw [cell_of_row _ _ _ _ _ _ (heap_alloc_new _ _)];rfl)
   have hXe:eD (kT (D,0) (fun i=>(48+l.getD i 0,D.rd (2+23 * a+i))) l.length)=X:=(ae HX).symm;rw [hXe] at qM;have Uv:=af qM;have ZB:Hid (∀ w' S',aE S S' (wb.alloc (.cells #[.slice na l.length nc] 44)) w'->w'.cell? ⟨w2.heap.size,0,none⟩=some (.int .i64 s)):=af (fun w' S' ht=>by have e1:(wb.alloc (.cells #[.slice na l.length nc] 44)).heap[w2.heap.size]?=_:=(oy.block _ tH).trans Nd;have e2:=(ht.block _ (Nat.lt_of_lt_of_le tH oy.size) (hS _ (by omega))).trans e1;rw [cell_of_row _ _ _ _ _ _ e2];rfl);have HTA:=af ((aE.aW (S:=S) fp).trans (aE.aW oy));clear qM hXe hn5 hn4 Nd Cn uS fp oy xx HLV HM3 HN3 cT nk hca ra1 m0;go_wp2_with fail
   refine(JI _ _ _ _).mono ?_;rintro e wc ⟨rfl,rfl⟩;go_wp2_with fail
   refine(ae Uv).mono ?_;rintro e w6 ⟨rfl,S6,hl6,ht6⟩;have m0:=ae ZB w6 S6 ht6;have HL6:=af hl6;have HT6:=af ((ae HTA).trans ht6);clear hl6 ht6 Uv ZB HTA;by_cases hE:X.2=0
   ·rw [hE,aA];go_wp2;go_ret2;have hq:=heap_alloc_new w6 (.cells #[.pointer (some ⟨p,0,none⟩),.int .i64 s] 211);rw [ae HRR,if_pos hE,hE];refine⟨_,rfl,S6,(ae HL6).below (zBr.alloc zNr _),(ae HT6).trans (aE.alloc S6 _ _),fun _=>⟨w6.heap.size,rfl,hq,(ae HT6).size,fun hs=>?_⟩,fun h=>absurd rfl h⟩;have:=(ae HL6).dev.lt _ hs;omega
   ·rw [aC _ hE];go_wp2;go_ret2;rw [ae HRR,if_neg hE];exact⟨_,by rw [aC _ hE];rfl,S6,ae HL6,ae HT6,fun h=>absurd h hE,fun _=>rfl⟩
end
theorem yb(n:Nat):(cI (DS.new n)).1.left<0:=by have h0:lk (DS.new n,0):=⟨by show(-1:Int)<0;decide,fun _=>rfl,by show(0:Int)≠9;decide⟩;exact((h0.w _ _).w _ _).f.1
section
variable {w w':World} {S S':Nat->Prop} {t n:Nat} {F:Nat->List Int}
end
structure oK (w0 w:World) (p q:Nat) (S:Nat->Prop) (D:DS) (s:Int) (T:Nat->Prop):Prop where
 live:Live w0 w p S D
 pg:dU w q p s
 out:¬ S q
 base:w0.heap.size<=q
 apart:∀ k,T k->¬ plus S q k
 GJ:∀ k,T k->k<w.heap.size
 tb:∀ k,T k->w0.heap.size<=k
section
variable {w0 w w':World} {p q:Nat} {S S':Nat->Prop} {D D':DS} {s s':Int} {T T' U:Nat->Prop}
theorem oK.BJ(h:oK w0 w p q S D s T):∀ k,plus S q k->k<w.heap.size:=fun k hk=>by
 rcases hk with hk | rfl
 ·exact h.live.dev.lt k hk
 ·exact h.pg.lt
theorem oK.size(h:oK w0 w p q S D s T):w0.heap.size<=w.heap.size:=h.live.Cv.size
theorem oK.below(h:oK w0 w p q S D s T)(hb:Below w.heap.size w w'):oK w0 w' p q S D s T :=⟨h.live.below hb,h.pg.below hb,h.out,h.base,h.apart,fun k hk=>Nat.lt_of_lt_of_le (h.GJ k hk) hb.size,h.tb⟩
theorem oK.other(h:oK w0 w p q S D s T){U U':Nat->Prop}(ht:aE U U' w w')(hU:∀ k,U k->T k)(hT:∀ k,T' k->k<w'.heap.size/\(k<w.heap.size->T k)):oK w0 w' p q S D s T':=by
 have hn:∀ k,plus S q k->¬ U k:=fun k hk hu=>h.apart k (hU k hu) hk
 have tJ:∀ k,U k->w0.heap.size<=k:=fun k hk=>h.tb k (hU k hk)
 refine⟨⟨h.live.dev.dZ ht (fun k hk=>hn k (.inl hk)),h.live.Cv.trans (ht.below tJ h.size),h.live.base⟩,(h.pg.dZ ht (hn q (.inr rfl))).1,h.out,h.base,fun k hk hs=>?_,fun k hk=>(hT k hk).1,fun k hk=>?_⟩
 ·exact h.apart k ((hT k hk).2 (h.BJ k hs)) hs
 ·rcases Nat.lt_or_ge k w.heap.size with h1 | h1
  ·exact h.tb k ((hT k hk).2 h1)
  ·exact Nat.le_trans h.size h1
theorem oK.iy(h:oK w0 w p q S D s T)(hl:Live w0 w' p S' D')(hp:dU w' q p s')(ho:¬ S' q)(ht:aE (plus S q) (plus S' q) w w'):oK w0 w' p q S' D' s' T :=⟨hl,hp,ho,h.base,fun k hk hs=>h.apart k hk (ht.bA k (h.GJ k hk) hs),fun k hk=>Nat.lt_of_lt_of_le (h.GJ k hk) ht.size,h.tb⟩
theorem oK.keep(h:oK w0 w p q S D s T)(ht:aE (plus S q) (plus S' q) w w')(k:Nat)(hk:T k):w'.heap[k]?=w.heap[k]?:=ht.block k (h.GJ k hk) (h.apart k hk)
end
end Go.Proofs.YtcimhnnendlblaaGreat
