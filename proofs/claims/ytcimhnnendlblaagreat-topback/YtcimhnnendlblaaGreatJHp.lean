/-
  Parts of the proofs.
-/
import Derived.Test.YtcimhnnendlblaaGreatJChp
import Derived.Test.YtcimhnnendlblaaGreatJTn
import Derived.Test.YtcimhnnendlblaaGreatJDfr
import Derived.Laws.AppendOwnNone
set_option maxRecDepth 100000
set_option maxHeartbeats 16000000
set_option linter.all false
namespace Go.Proofs.YtcimhnnendlblaaGreat
open Go.RowKit
section
variable {w w':World} {B B' g c:Nat} {cur:Array Value} {l:List Int}
theorem Row.lt(h:Row w B g c cur l):g<w.heap.size:=(zAg h.2.1).1
theorem Row.below(h:Row w B g c cur l)(hb:Below w.heap.size w w'):Row w' B g c cur l:=⟨h.1,(hb.block g h.lt).trans h.2.1,h.2.2⟩
theorem Row.low(h:Row w B' g c cur l)(hB:B<=B'):Row w B g c cur l:=⟨Nat.le_trans hB h.1,h.2⟩
end
def EJ(w:World)(L:List Int)(x:Value)(e:Ending)(w':World):Prop :=∃ g c cur,e=.returned (.tuple #[.slice (some ⟨g,0,none⟩) L.length c,x])/\Row w' w.heap.size g c cur L/\Below w.heap.size w w'
theorem Ha(a:Option Addr)(cap:Nat)(l:List Int)(p:Nat)(ra:Option Addr)(rc:Nat)(r:List Int)(w:World)(hb:Bs w a cap l)(hr:Bs w ra rc r)(h0:r≠[])(dc:p+r.length<=l.length) :
  Calls Tryz.prog 140 #[.slice a l.length cap,.int .i64 p,.slice ra r.length rc] w fun e w'=>∃ g' c' cur',e=.returned (.slice (some ⟨g',0,none⟩) l.length c')/\Row w' w.heap.size g' c' cur' (splice l p r)/\Below w.heap.size w w':=by
 have uJ:0<r.length:=by
  cases r with
  | nil=>exact absurd rfl h0
  | cons _ _=>simp
 have HC:=af (Ko a cap l w hb (by intro e;rw [e] at dc;simp only [List.length_nil] at dc;omega));have HR:=af hr;have iq:=hb.2.2.1;clear hb hr;go_enter Tryz.func140,Tryz.ntmps140
 go_wp2_with fail
 refine(ae HC).mono ?_;rintro e w1 ⟨g,c,rfl,az,ay⟩;obtain⟨cur,bn⟩:=Row.VT az;have hcut:=rY (P:=Tryz.prog) zu30 aN g c l.length p (by omega) bn.2.2.1 (by have:=bn.2.2.1;omega);have nj:Sem.run Tryz.prog (Builtin.copy_ #[30,30] 3 #[.slice (some ⟨g,p,none⟩) (l.length-p) (c-p),.slice ra r.length rc]) w1=.ok (.int .i64 r.length) (fJ w1 g cur p r) :=fz w1 _ _ _ zu30 aN _ g p _ _ c cur ra rc l r (by omega) h0 dc bn ((ae HR).below ay);have HW:=af (jb bn dc);have HB:=af (gh (cur:=cur) (l:=r) (off:=p) ay bn.1);clear az bn ay HC HR;go_wp2;go_ret;exact⟨g,c,_,rfl,ae HW,ae HB⟩
theorem uH(b:Option Addr)(cap:Nat)(L:List Int)(x a l t:Int)(w:World)(aX:Bs w b cap L)(h0:di L (x,a,l,t)=0) :
  Calls Tryz.prog 72 #[.slice b L.length cap,.agg #[.int .i64 x,.int .i64 a,.int .i64 l,.int .i64 t]] w (EJ w (splice L (cJ x) (dB (x,a,l,t))) .nilIface):=by
 obtain⟨q1,q2,q3⟩:=bS.1 h0;dsimp only at q2 q3;have hlen:=bF.1 q1;have hx:=aF.1 q2;have hp:=cH hx.1 hx.2;have HC:=af (rZ L (x,a,l,t) (w.alloc (.cells #[.int .i64 x,.int .i64 a,.int .i64 l,.int .i64 t] 125)) aX.2.2.1 (by dsimp only;omega));rw [h0,aA] at HC;unfold k8 at HC;dsimp only at HC;have HE:=af (fun W=>uY x a l t W ⟨q3.1,q3.2.1⟩ (by omega) (by omega));have HP:=af (fun W=>ia x W hx.1 hx.2);have uJ:(dB (x,a,l,t)).length=5:=rfl;have HW:=af (fun(W:World) (g:Nat) (h5:Bs W b cap L) (h6:Bs W (some ⟨g,0,none⟩) 5 (dB (x,a,l,t)))=>Ha b cap L (cJ x) (some ⟨g,0,none⟩) 5 (dB (x,a,l,t)) W h5 h6 (by intro e;cases e) (by omega));rw [uJ] at HW;have HN:=af (rf.new w (x,a,l,t));have qc:=af (length_splice (z:=L) (l:=dB (x,a,l,t)) (off:=cJ x) (by omega));have nC:=af aX;have bR:=aX.2.2.1;clear h0 q1 q2 q3 aX uJ;generalize dB (x,a,l,t)=R at *;go_enter Tryz.func72,Tryz.ntmps72
 go_wp2_with fail
 refine(ae HC).mono ?_;rintro e w1 ⟨rfl,ay⟩;have dm:Below w.heap.size w w1:=((Below.refl _ w).alloc zNr _).trans (ay.mono (by simp));have ox:=(ae HN).below ay (by simp);obtain⟨c0,c1,c2,c3⟩:=ox.cells;have OD:=af ox;have aL:=af dm;clear ay dm ox HC HN;go_wp2_with fail
 refine(ae HE _).mono ?_;rintro e w2 ⟨g,rfl,AO,aK⟩;have j6:=(ae OD).below aK (ae OD).lt;obtain⟨d0,d1,d2,d3⟩:=j6.cells;have br:=zTr aL aK;have GZ:=af (ae HW w2 g ((ae nC).below (ae br)) AO);clear aK j6 AO OD aL HW HE c0 c1 c2 c3;go_wp2_with fail
 refine(ae HP _).mono ?_;rintro e w3 ⟨rfl,nE⟩;subst nE;go_wp2_with fail
 refine(ae GZ).mono ?_;rintro e w4 ⟨a4,c4,cur4,rfl,oy,dO⟩;have ez:=zTr br dO;have ZL:=af oy;have zlJ:=af (ae br).size;clear oy dO br GZ d0 d1 d2 d3;go_wp2;go_ret2;exact⟨a4,c4,cur4,by rw [ae qc];rfl,(ae ZL).low (ae zlJ),ae ez⟩
theorem YC(a:Option Addr)(cap:Nat)(l:List Int)(h:Int)(w:World)(hb:Bs w a cap l)(hc:aP l h=0) :
  Calls Tryz.prog 82 #[.slice a l.length cap,.int .i64 h] w (EJ w (cN l h) .nilIface):=by
 have HC:=af (r8 a cap l h w hb);have h3:=hb.2.2.1;unfold cN;obtain⟨tl,XF,ht⟩:=aJ.1 hc;rw [if_pos hc];rw [hc,aA] at HC;have kU:=bF.1 tl;have wK:=aF.1 XF;have hp:=cH wK.1 wK.2;have tj:=aj 5;have aO:ag 5≠[]:=by intro e;rw [e] at tj;simp at tj
 have hd:Below w.heap.size w (Dq w.drew 5):=(show Below w.heap.size w w.drew from⟨rfl,rfl,rfl,zNr,fun _ _=>rfl⟩).trans (rJ w.drew 5);have HW:Hid (Calls Tryz.prog 140 #[.slice a l.length cap,.int .i64 (cJ h),.slice (some ⟨w.heap.size,0,none⟩) 5 5] (Dq w.drew 5) fun e w'=>∃ g' c' cur',e=.returned (.slice (some ⟨g',0,none⟩) l.length c')/\Row w' w.heap.size g' c' cur' (splice l (cJ h) (ag 5))/\Below w.heap.size w w'):=af (by have:=Ha a cap l (cJ h) (some ⟨w.heap.size,0,none⟩) (ag 5).length (ag 5) (Dq w.drew 5) (hb.below hd) ((y8 w.drew 5).bs (bW 5) (by decide)) aO (by omega);rw [tj] at this;exact this.mono fun e w' ⟨a',c',cur',he,aX,ao⟩=>⟨a',c',cur',he,aX.low hd.size,hd.trans (ao.mono hd.size)⟩);have HE:=af (fun w'=>ia h w' wK.1 wK.2);have qc:=af (length_splice (z:=l) (l:=ag 5) (off:=cJ h) (by omega));have Nb:∀ w',Sem.run Tryz.prog (Instr.makeSlice 30 (.int .i64 5) (.int .i64 5)) w'=.ok (.slice (some ⟨w'.heap.size,0,none⟩) 5 5) (Dq w' 5):=fun w'=>mR w' 5 (by decide)
 clear hc ht tl XF hb hd;go_enter Tryz.func82,Tryz.ntmps82
 go_wp2_with fail
 refine(ae HC).mono ?_;rintro e w1 ⟨rfl,rfl⟩;go_wp2_with fail
 go_region_with (first | (go_at_call 126;refine(ae HE _).mono ?_;rintro e w2 ⟨rfl,rfl⟩) | (go_at_call 140;refine(ae HW).mono ?_;rintro e w3 ⟨a3,c3,cur3,rfl,j7,bR⟩))
 all_goals
  go_wp2;go_ret2;exact⟨a3,c3,cur3,by rw [ae qc];rfl,j7,bR⟩
def bA(p g:Nat)(k:Nat):Prop:=k=p\/k=g
structure Hp (w:World) (B p g c:Nat) (L:List Int):Prop where
 bp:B<=p
 ne:g≠p
 lT:w.heap[p]?=some (.cells #[.slice (some ⟨g,0,none⟩) L.length c] 70 (0,0))
 row:∃ cur,Row w B g c cur L
 kV:bj L
 aV:aB L
section
variable {w w':World} {B p g c:Nat} {L:List Int}
theorem Hp.BJ(h:Hp w B p g c L):p<w.heap.size:=(zAg h.lT).1
theorem Hp.Yk(h:Hp w B p g c L):g<w.heap.size:=by obtain⟨cur,hr⟩:=h.row;exact hr.lt
theorem Hp.bg(h:Hp w B p g c L):B<=g:=by obtain⟨cur,hr⟩:=h.row;exact hr.1
theorem Hp.cell(h:Hp w B p g c L):w.cell? ⟨p,0,none⟩=some (.slice (some ⟨g,0,none⟩) L.length c):=by rw [cell_of_row _ _ _ _ _ _ h.lT];rfl
theorem Hp.fr(h:Hp w B p g c L):w.frozen? ⟨p,0,none⟩=false:=frozen_of_row w p 0 _ _ h.lT
theorem Hp.len(h:Hp w B p g c L):288<=L.length/\L.length<=6400/\L.length<=c:=by obtain⟨cur,hr⟩:=h.row;exact⟨h.aV.len.1,h.aV.len.2,hr.2.2.1⟩
theorem Hp.bs(h:Hp w B p g c L):Bs w (some ⟨g,0,none⟩) c L:=by obtain⟨cur,hr⟩:=h.row;exact hr.bs h.kV (by have:=h.aV.len;omega)
theorem Hp.below(h:Hp w B p g c L)(hb:Below w.heap.size w w'):Hp w' B p g c L:=by obtain⟨cur,hr⟩:=h.row;exact⟨h.bp,h.ne,(hb.block p h.BJ).trans h.lT,⟨cur,hr.below hb⟩,h.kV,h.aV⟩
theorem Hp.Gn(h:Hp w B p g c L)(k:Nat)(hk:bA p g k):B<=k:=by
 rcases hk with rfl | rfl
 ·exact h.bp
 ·exact h.bg
theorem Hp.set(h:Hp w B p g c L)(hb:Below w.heap.size w w'){g' c':Nat}{cur':Array Value}{L':List Int}(hr:Row w' w.heap.size g' c' cur' L')(ik:bj L')(hf:aB L')(hB:B<=w.heap.size) :
  Hp (w'.setCell ⟨p,0,none⟩ (.slice (some ⟨g',0,none⟩) L'.length c')) B p g' c' L'/\aE (bA p g) (bA p g') w (w'.setCell ⟨p,0,none⟩ (.slice (some ⟨g',0,none⟩) L'.length c')):=by
 have hp:=h.BJ;have hg:=hr.1;have aO:g'≠p:=by omega
 refine⟨⟨h.bp,aO,?_,⟨cur',⟨Nat.le_trans hB hg,(heap_setCell_other _ _ _ _ (by show g'≠p;exact aO)).trans hr.2.1,hr.2.2⟩⟩,ik,hf⟩,⟨hb.os,hb.tape,hb.output,by simpa using hb.size,fun k hk hn=>?_,fun k hk hs=>?_⟩⟩
 ·have:=heap_setCell_same w' p 0 _ _ (.slice (some ⟨g',0,none⟩) L'.length c') ((hb.block p hp).trans h.lT);rw [this];rfl
 ·exact(heap_setCell_other _ _ _ _ (fun e=>hn (.inl e))).trans (hb.block k hk)
 ·rcases hs with rfl | rfl
  ·exact .inl rfl
  ·omega
theorem Hp.lay(h:Hp w B p g c L){cur:Array Value}(hr:Row w B g c cur L){off:Nat}{r:List Int}(dc:off+r.length<=L.length)(AO:bj r)(hf:aB (splice L off r)) :
  Hp (fJ w g cur off r) B p g c (splice L off r)/\aE (bA p g) (bA p g) w (fJ w g cur off r):=by
 have hl:=length_splice dc;refine⟨⟨h.bp,h.ne,?_,⟨_,jb hr dc⟩,bN h.kV AO,hf⟩,⟨rfl,rfl,rfl,by simp [fJ],fun k hk hn=>setRow_other w g k _ (fun e=>hn (.inr e)),fun k _ hs=>hs⟩⟩;rw [hl];exact(setRow_other w g p _ (fun e=>h.ne e.symm)).trans h.lT
end
theorem cj.lower{w:World}{B B':Nat}{v:Value}{L:List Int}(h:cj w B' v L)(hB:B<=B'):cj w B v L:=by
 refine⟨h.1,?_⟩;rcases h.2 with h0 | ⟨g,cap,cur,hv,hb,h3⟩
 ·exact .inl h0
 ·exact .inr ⟨g,cap,cur,hv,Nat.le_trans hB hb,h3⟩
theorem fH.row{w:World}{B g:Nat}{l:List Int}(h:fH w g l)(hB:B<=g):Row w B g l.length (l.map (Value.int .u8)).toArray l:=⟨hB,h,zNr,by simp,by rw [List.take_of_length_le (by simp)]⟩
theorem W6(N:Nat)(w:World)(hq:b9 N=true):Calls Tryz.prog 29 #[.int .i64 N] w (EJ w (ag N) .nilIface):=by
 have HL:=af (cK N w);obtain⟨i0,hi,cY,dw,dz⟩:=info_parts dQ;rw [hq] at HL;have hn:=bF.1 hq;clear hq;go_enter Tryz.func29,Tryz.ntmps29
 go_wp2_with fail
 refine(ae HL).mono ?_;rintro e w1 ⟨rfl,rfl⟩;go_wp2_with (at_make;refine bE rfl _ _ 30 rfl i0 zu30 hi cY dw dz _ _ _ _ N rfl rfl rfl rfl (by omega) ?_;intro w2 gO gM aK)
 go_ret2;have hlen:=aj N;have hr:=gO.row zNr;rw [hlen] at hr;exact⟨_,N,_,by rw [hlen];rfl,hr,aK⟩
theorem Hp.made{w w1:World}{B g c:Nat}{cur:Array Value}{L:List Int}(hr:Row w1 B g c cur L)(hb:B<=w1.heap.size)(ik:bj L)(hf:aB L) :
  Hp (w1.alloc (.cells #[.slice (some ⟨g,0,none⟩) L.length c] 70)) B w1.heap.size g c L :=
 ⟨hb,Nat.ne_of_lt hr.lt,heap_alloc_new w1 _,⟨cur,hr.below (zBr.alloc zNr _)⟩,ik,hf⟩
theorem Ya(N:Nat)(w:World)(hq:b9 N=true) :
  Calls Tryz.prog 5 #[.int .i64 N] w fun e w'=>∃ p g c,e=.returned (.tuple #[.pointer (some ⟨p,0,none⟩),.nilIface])/\Hp w' w.heap.size p g c (ag N)/\Below w.heap.size w w':=by
 have HN:=af (W6 N w hq);have hn:=bF.1 hq;have HF:=af (dV (n:=N) (by omega) (by omega)).1;have HB:=af (bW N);generalize ag N=Z at *;clear hq;go_enter Tryz.func5,Tryz.ntmps5
 go_wp2_with fail
 refine(ae HN).mono ?_;rintro e w1 ⟨g,c,cur,rfl,bn,ay⟩;have HR:=af bn;have aL:=af ay;clear bn ay HN;go_wp2;go_ret2;exact⟨w1.heap.size,g,c,rfl,Hp.made (w:=w) (ae HR) (ae aL).size (ae HB) (ae HF),(ae aL).alloc (ae aL).size _⟩
theorem cZ(p g c B:Nat)(L:List Int)(w:World)(h:Hp w B p g c L) :
  Calls Tryz.prog 9 #[.pointer (some ⟨p,0,none⟩)] w fun e w'=>∃ a' c',e=.returned (.slice a' L.length c')/\cj w' w.heap.size (.slice a' L.length c') L/\Below w.heap.size w w':=by
 have HC:=af (kg (some ⟨g,0,none⟩) c L w h.bs);have hc:=h.cell;have hl:=h.len;clear h;generalize L.length=N at *;go_enter Tryz.func9,Tryz.ntmps9
 go_wp2_with fail
 refine(ae HC).mono ?_;rintro e w1 ⟨a',c',rfl,az,ay⟩;have HO:=af az;have HB:=af ay;clear az ay HC hc;go_wp2;go_ret;exact⟨a',c',rfl,ae HO,ae HB⟩
theorem oz(p g c B:Nat)(L:List Int)(h:Int)(w:World)(hh:Hp w B p g c L) :
  Calls Tryz.prog 86 #[.pointer (some ⟨p,0,none⟩),.int .i64 h] w fun e w'=>e=.returned (.tuple #[.int .i64 (gz L h).2.2.2,aR (aP L h)])/\Below w.heap.size w w':=by
 have HG:=af (fun W (hW:Below w.heap.size w W)=>Jv (some ⟨g,0,none⟩) c L h W (hh.bs.below hW));have hc:=hh.cell;have hl:=hh.len;clear hh;generalize gz L h=E at *;generalize aP L h=X at *;generalize L.length=N at *;obtain⟨e1,e2,e3,e4⟩:=E;unfold k8 at HG;dsimp only at HG ⊢;go_enter Tryz.func86,Tryz.ntmps86
 go_wp2_with fail
 refine(ae HG w zBr).mono ?_;rintro e w1 ⟨rfl,ay⟩;have HB:=af ay;clear ay HG hc;go_wp2;go_ret2;exact⟨rfl,(ae HB).alloc (ae HB).size _⟩
theorem Ie:(Tryz.prog.info? 123).map (·.size)=some 2:=by kernel_rfl
theorem Ba{P:Program}{t:TypeId}(hu:P.underlying t=some (.slice 5))(cL:(P.info? 5).map (·.size)=some 1)(g c N x n:Nat)(hp:x+n<=N)(hn:N<=c)(aM:x<c)(w':World) :
  (Instr.slice t (.slice (some ⟨g,0,none⟩) N c) (some (.int .i64 x)) (some (.int .i64 ((x:Int)+n))) none).run P w'=.ok (.slice (some ⟨g,x,none⟩) n (c-x)) w':=by
 have he:=kx hu;rw [run_slice_lh (P:=P) (w:=w') t (some ⟨g,0,none⟩) N c (by rw [he];exact hu) .i64 .i64 x (x+n) (by omega) (by omega) (by omega),he,eK w' cL];have t1:(x:Int).toNat=x:=zTn x;have t2:((x:Int)+n).toNat=x+n:=by omega
 simp only [Result.andThen,sliced,t1,t2];rw [if_neg (by omega)];simp [Addr.add];exact fun h=>h.symm
theorem Cp(a la:Option Addr)(cap lc:Nat)(L l:List Int)(w:World)(hb:Bs w a cap L)(hl:Bs w la lc l)(hle:l.length<=L.length) :
  Calls Tryz.prog 93 #[.slice a L.length cap,.slice la l.length lc] w fun e w'=>e=.returned (.bool (decide (L.take l.length=l)))/\w=w':=by
 obtain⟨a2,hhi,aK⟩:=jm (P:=Tryz.prog) (t:=30) zu30 aN hb l.length hle;have h8:(L.take l.length).length=l.length:=by rw [zLt];omega
 have HE:=af (nA a2 la cap lc (L.take l.length) l w aK hl);rw [h8] at HE;have iq:=hb.2.2.1;clear hb hl aK h8;generalize decide (L.take l.length=l)=r at *;generalize L.length=N at *;generalize l.length=n at *;go_enter Tryz.func93,Tryz.ntmps93
 go_wp2_with fail
 refine(ae HE).mono ?_;rintro e w1 ⟨rfl,hw⟩;subst hw;go_wp2;go_ret;exact⟨rfl,rfl⟩
section
variable {α:Type} {enc:α->List Value} {k T:Nat}
theorem PX(hk:∀ x,(enc x).length=k):∀ (l:List α) (j:Nat) (u:Value),(l.flatMap enc)[j]?=some u->∃ i x j',l[i]?=some x/\(enc x)[j']?=some u/\j=i * k+j'
 | [],j,u,h=>by simp at h
 | e :: r,j,u,h=>by
  rw [List.flatMap_cons] at h;by_cases hj:j<k
  ·rw [List.getElem?_append_left (by rw [hk];exact hj)] at h;exact⟨0,e,j,rfl,h,by omega⟩
  ·rw [List.getElem?_append_right (by rw [hk];omega),hk] at h;obtain⟨i,x,j',h1,h2,h3⟩:=PX hk r (j-k) u h;exact⟨i+1,x,j',by simpa using h1,h2,by rw [Nat.succ_mul];omega⟩
theorem Tr(h1:∀ x,∀ u∈enc x,u.oneCell'=true)(l:List α):∀ u∈l.flatMap enc,u.oneCell'=true:=by intro u hu;obtain⟨e,_,hu⟩:=List.mem_flatMap.1 hu;exact h1 e u hu
theorem jj{P:Program}{w:World}{ops:Array Oper}{rest:List Oper}{o:Oper}{a:Act}{Q:Exit->Act->World->Prop}(pZ:o.guard=none)(s x:Operand)(t:TypeId)
  (ho:o.op=.call { callee:=.builtin .append,args:=#[s,x],argTypes:=#[t,t]}) (B:Nat) (i0:TypeInfo) (z:Value) (bytes:Nat)
  (ht:P.underlying t=some (.slice T)) (hi:P.info? T=some i0) (hz:i0.zero=some z) (xW:i0.size=k) (ik:i0.bytes=bytes) (W7:z.cells.size=k) (cL:0<k) (Cn:bytes<=100)
  (v:Value) (xs:List α) (hs:a.eval s=v) (az:bT enc k T w B v xs) (sp:Option Addr) (cap:Nat) (l:List α) (hx:a.eval x=.slice sp l.length cap) (hl:fG enc k w sp cap l) (hk:∀ x,(enc x).length=k) (h1:∀ x,∀ u∈enc x,u.oneCell'=true) (hn:xs.length+l.length<=1000) (hB:B<=w.heap.size)
  (h:∀ v' w',bT enc k T w' B v' (xs++l)->Below B w w'->wpList P ops Q rest (a.put o.dst v') w') :
  wpList P ops Q (o :: rest) a w:=by
 obtain⟨h2,kL,h3,h4⟩:=hl;have fin:∀ v' w',w'.ownsRow B T k v' (xs.length+l.length) (xs.flatMap enc++l.flatMap enc)->w.grownBy w' v.ownBlock->wpList P ops Q rest (a.put o.dst v') w':=fun v' w' xX ow=>by refine h v' w' ?_ (zBr.grown ow hB (fun k hk=>az.block k hk));unfold bT;rw [zLa,List.flatMap_append];exact xX
 have SY:(xs.length+l.length) * bytes<=140737488355328:=Nat.le_trans (Nat.mul_le_mul hn Cn) (by decide);by_cases h0:l=[]
 ·subst h0;cases sp with
  | none =>have hc:cap=0:=kL rfl;subst hc;refine wpList_append_own_none pZ s x t ho B T i0 k ht hi v _ _ hs az hx ?_;exact h v w (by rw [List.append_nil];exact az) zBr
  | some y =>exact wpList_append_own w pZ s x t ho B T i0 z k bytes ht hi hz xW ik W7 cL v _ _ hs az y 0 cap [] hx (by simp) (fun j u hj=>by simp at hj) (fun u hu=>by cases hu) (by unfold maxLen;simp at hn;omega) (by simpa using SY) hB (fun v' w' xX ow _=>fin v' w' xX ow)
 ·obtain⟨b,off,rfl,hc⟩:=h4 h0;refine wpList_append_own w pZ s x t ho B T i0 z k bytes ht hi hz xW ik W7 cL v _ _ hs az ⟨b,off,none⟩ l.length cap (l.flatMap enc) hx (J7 hk l) (fun j u hj=>?_) (Tr h1 l) (by unfold maxLen;omega) SY hB (fun v' w' xX ow _=>fin v' w' xX ow);obtain⟨i,x,j',q1,q2,rfl⟩:=PX hk l j u hj;rw [addr_add,<- Nat.add_assoc];exact hc i x q1 j' u q2
end
def kY(z:Int):List Value:=[.int .i64 z]
theorem iG(z:Int):(kY z).length=1:=rfl
theorem uG(z:Int):∀ u∈kY z,u.oneCell'=true:=by intro u hu;rw [zMs hu];rfl
theorem kI:(Tryz.prog.info? 3).map (fun i=>(i.zero,i.size,i.bytes))=some (some (.int .i64 0),1,8):=by kernel_rfl
theorem fG.num{w:World}{b off cap:Nat}{l:List Int}(hc:∀ i x,l[i]?=some x->∀ j u,(kY x)[j]?=some u->w.cell? ⟨b,off+i * 1+j,none⟩=some u){i:Nat}{e:Int}(h:l[i]?=some e):w.cell? ⟨b,off+i,none⟩=some (.int .i64 e):=by have:=hc i e h 0 _ rfl;rw [Nat.mul_one,Nat.add_zero] at this;exact this
end Go.Proofs.YtcimhnnendlblaaGreat
