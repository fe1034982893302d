import Derived.Test.YtoiebmeajhpgcaaGreatDoorJChp
import Derived.Test.YtoiebmeajhpgcaaGreatDoorJTn
import Derived.Test.YtoiebmeajhpgcaaGreatDoorJDfr
set_option maxRecDepth 100000
set_option maxHeartbeats 16000000
set_option linter.all false
namespace Go.Proofs.YtoiebmeajhpgcaaGreatDoor
variable {cur:Array Value}{w w':World}{S:Nat->Prop}{a:OA}{cap B g:Nat}{l L:LI}{v:Value}
open Tryz
open Go.RowKit
section
variable {w w':World} {B B' g c:Nat} {cur:Array Value} {l:LI}
theorem Row.lt(h:Row w B g c cur l):g<w.heap.size:=(zAg h.2.1).1
theorem Row.below(h:Row w B g c cur l)(hb:zB w w'):Row w' B g c cur l:=⟨h.1,(hb.block g h.lt).trans h.2.1,h.2.2⟩
theorem Row.low(h:Row w B' g c cur l)(hB:B<=B'):Row w B g c cur l:=⟨qAF hB h.1,h.2⟩
end
def Q6(w:World)(L:LI)(x:Value)(e:Ending)(w':World):Prop :=∃g c cur,e=zt #[.slice (zo g) L.length c,x]/\Row w' w.heap.size g c cur L/\zB w w'
theorem MK a cap l p ra rc r w(hb:Bs w a cap l)(hr:Bs w ra rc r)(h0:r≠[])(fc:p+r.length<=l.length) :
  zC 189 #[.slice a l.length cap,zi p,.slice ra r.length rc] w fun e w'=>∃g' c' cur',e=.returned (.slice (zo g') l.length c')/\Row w' w.heap.size g' c' cur' (splice l p r)/\zB w w':=by
 have xh:0<r.length:=by
  cases r with
  | nil=>exact absurd rfl h0
  | cons _ _=>simp
 have HC:=ae (Qq a cap l w hb zm7);have HR:=ae hr;have fC:=hb.2.2.1;go_enter func189,ntmps189
 go_wp2_with fail
 refine HC.mono ?_;rintro e w1 ⟨g,c,rfl,az,ay⟩;obtain⟨cur,bK⟩:=Row.zcq az;have hcut:=LX (P:=prog) underlying29 aT g c l.length p Sg bK.2.2.1 (by have:=bK.2.2.1;omega);have l9:Sem.run prog (Builtin.copy_ #[29,29] 3 #[.slice (some (zw g p)) (l.length-p) (c-p),.slice ra r.length rc]) w1=.ok (zi r.length) (lB w1 g cur p r) :=nk w1 _ _ _ underlying29 aT _ g p _ _ c cur ra rc l r Sg h0 fc bK (HR.below ay);have HW:=ae (sf bK fc);have HB:=ae (qS (cur:=cur) (l:=r) (off:=p) ay bK.1);go_wp2;go_ret;exact⟨g,c,_,rfl,HW,HB⟩
theorem Pf b cap L x a l t w(aH:Bs w b cap L)(h0:dJ L (x,a,l,t)=0) :
  zC 131 #[.slice b L.length cap,.agg #[zi x,zi a,zi l,zi t]] w (Q6 w (splice L (bT x) (fg (x,a,l,t))) .nilIface):=by
 obtain⟨q1,q2,q3⟩:=df.1 h0;dsimp only at q2 q3;have hlen:=cm.1 q1;have hx:=aN.1 q2;have hp:=du hx.1 hx.2;have HC:=ae (xu L (x,a,l,t) (w.alloc (.cells #[zi x,zi a,zi l,zi t] 124)) aH.2.2.1 Tu);rw[h0,aC]at HC;unfold kV at HC;dsimp only at HC;have HE:=ae (fun W=>Ar x a l t W ⟨q3.1,q3.2.1⟩ Sg Sg);have HP:=ae (fun W=>jU x W hx.1 hx.2);have xh:(fg (x,a,l,t)).length=5:=rfl;have HW:=ae (fun W g h5(h6:Bs W (zo g) 5 (fg (x,a,l,t)))=>MK b cap L (bT x) (zo g) 5 (fg (x,a,l,t)) W h5 h6 (by intro e;cases e) Sg);rw[xh]at HW;have HN:=ae (qB.new w (x,a,l,t));have Db:=ae (length_splice (z:=L) (l:=fg (x,a,l,t)) (off:=bT x) Sg);have qp:=ae aH;have bD:=aH.2.2.1;generalize fg (x,a,l,t)=R at*;go_enter func131,ntmps131
 go_wp2_with fail
 refine HC.m ?_;intro w1 ay;have ia:=((Below.refl _ w).alloc zNr _).trans (ay.mono Sk);have kR:=HN.below ay Sk;obtain⟨c0,c1,c2,c3⟩:=kR.cells;have wD:=ae kR;have aQ:=ae ia;go_wp2_with fail
 refine(HE _).mono ?_;rintro e w2 ⟨g,rfl,Jt,aK⟩;have qc:=wD.below aK wD.lt;obtain⟨d0,d1,d2,d3⟩:=qc.cells;have bz:=zTr aQ aK;have CO:=ae (HW w2 g (qp.below bz) Jt);go_wp2_with fail
 refine(HP _).m ?_;intro w3 qw;subst qw;go_wp2_with fail
 refine CO.mono ?_;rintro e w4 ⟨a4,c4,cur4,rfl,jT,eU⟩;have fh:=zTr bz eU;have Gp:=ae jT;have zq5:=ae bz.size;go_wp2;go_ret2;exact⟨a4,c4,cur4,zg4,Gp.low zq5,fh⟩
theorem zee a cap l h w(hb:Bs w a cap l)(hc:aX l h=0) :
  zC 133 #[.slice a l.length cap,zi h] w (Q6 w (cK l h) .nilIface):=by
 have HC:=ae (xw a cap l h w hb);have h3:=hb.2.2.1;unfold cK;obtain⟨oz,hh0,ht⟩:=aV.1 hc;rw[zy hc];rw[hc,aC]at HC;have jC:=cm.1 oz;have yI:=aN.1 hh0;have hp:=du yI.1 yI.2;have vK:=ag 5;have aG:af 5≠[]:=by intro e;rw[e]at vK;simp at vK
 have hd:zB w (EM w.drew 5):=(show zB w w.drew from⟨rfl,rfl,rfl,zNr,fun _ _=>rfl⟩).trans (lu w.drew 5);have HW:Hid (zC 189 #[.slice a l.length cap,zi (bT h),.slice (some (zp w.heap.size)) 5 5] (EM w.drew 5) fun e w'=>∃g' c' cur',e=.returned (.slice (zo g') l.length c')/\Row w' w.heap.size g' c' cur' (splice l (bT h) (af 5))/\zB w w'):=ae (by have:=MK a cap l (bT h) (some (zp w.heap.size)) (af 5).length (af 5) (EM w.drew 5) (hb.below hd) ((xa w.drew 5).bs (cI 5) Si) aG Sg;rw[vK]at this;exact this.mono fun e w' ⟨a',c',cur',he,aH,ai⟩=>⟨a',c',cur',he,aH.low hd.size,hd.trans (ai.mono hd.size)⟩);have HE:=ae (fun w'=>jU h w' yI.1 yI.2);have Db:=ae (length_splice (z:=l) (l:=af 5) (off:=bT h) Sg);have tN:∀w',Sem.run prog (Instr.makeSlice 29 (zi 5) (zi 5)) w'=.ok (.slice (some ⟨w'.heap.size,0,none⟩) 5 5) (EM w' 5):=fun w'=>nM w' 5 Si
 go_enter func133,ntmps133
 go_wp2_with fail
 refine HC.m ?_;rintro w1 rfl;go_wp2_with fail
 go_region_with (first|(go_at_call 190;refine(HE _).m ?_;rintro w2 rfl)|(go_at_call 189;refine HW.mono ?_;rintro e w3 ⟨a3,c3,cur3,rfl,nV,bD⟩))
 all_goals
  go_wp2;go_ret2;exact⟨a3,c3,cur3,zg4,nV,bD⟩
def bA(p g:Nat)(k:Nat):Prop:=k=p\/k=g
structure Hp (w:World) (B p g c:Nat) (L:LI):Prop where
 bp:B<=p
 ne:g≠p
 qq:w.heap[p]?=some (.cells #[.slice (zo g) L.length c] 239 (0,0))
 row:∃cur,Row w B g c cur L
 B2:bZ L
 bC:aD L
section
variable {w w':World} {B p g c:Nat} {L:LI}
theorem Hp.Ob(h:Hp w B p g c L):p<w.heap.size:=(zAg h.qq).1
theorem Hp.glt(h:Hp w B p g c L):g<w.heap.size:=by obtain⟨cur,hr⟩:=h.row;exact hr.lt
theorem Hp.bg(h:Hp w B p g c L):B<=g:=by obtain⟨cur,hr⟩:=h.row;exact hr.1
theorem Hp.cell(h:Hp w B p g c L):w.cell? (zp p)=some (.slice (zo g) L.length c):=ZU
theorem Hp.fr(h:Hp w B p g c L):w.frozen? (zp p)=false:=qAd w p 0 _ _ h.qq
theorem Hp.len(h:Hp w B p g c L):288<=L.length/\L.length<=6400/\L.length<=c:=by obtain⟨cur,hr⟩:=h.row;exact⟨h.bC.len.1,h.bC.len.2,hr.2.2.1⟩
theorem Hp.bs(h:Hp w B p g c L):Bs w (zo g) c L:=by obtain⟨cur,hr⟩:=h.row;exact hr.bs h.B2 (by have:=h.bC.len;omega)
theorem Hp.below(h:Hp w B p g c L)(hb:zB w w'):Hp w' B p g c L:=by obtain⟨cur,hr⟩:=h.row;exact⟨h.bp,h.ne,(hb.block p h.Ob).trans h.qq,⟨cur,hr.below hb⟩,h.B2,h.bC⟩
theorem Hp.set(h:Hp w B p g c L)(hb:zB w w'){g' c'}{cur'}{L'}(hr:Row w' w.heap.size g' c' cur' L')(iF:bZ L')(hf:aD L')(hB:B<=w.heap.size) :
  Hp (w'.setCell (zp p) (.slice (zo g') L'.length c')) B p g' c' L'/\au (bA p g) (bA p g') w (w'.setCell (zp p) (.slice (zo g') L'.length c')):=by
 have hp:=h.Ob;have hg:=hr.1;have aG:g'≠p:=Sg;refine⟨⟨h.bp,aG,?_,⟨cur',⟨qAF hB hg,(qAV _ _ _ _ (by show g'≠p;exact aG)).trans hr.2.1,hr.2.2⟩⟩,iF,hf⟩,⟨hb.os,hb.tape,hb.output,by simpa using hb.size,fun k hk hn=>?_,fun k hk hs=>?_⟩⟩
 ·have:=qAI w' p 0 _ _ (.slice (zo g') L'.length c') ((hb.block p hp).trans h.qq);rw[this];rfl
 ·exact(qAV _ _ _ _ (fun e=>hn (.inl e))).trans (hb.block k hk)
 ·rcases hs with rfl|rfl
  ·exact .inl rfl
  ·omega
theorem Hp.lay(h:Hp w B p g c L)(hr:Row w B g c cur L){off}{r}(fc:off+r.length<=L.length)(Jt:bZ r)(hf:aD (splice L off r)) :
  Hp (lB w g cur off r) B p g c (splice L off r)/\au (bA p g) (bA p g) w (lB w g cur off r):=by
 have hl:=length_splice fc;refine⟨⟨h.bp,h.ne,?_,⟨_,sf hr fc⟩,dB h.B2 Jt,hf⟩,⟨rfl,rfl,rfl,by simp[lB],fun k hk hn=>qDM w g k _ (fun e=>hn (.inr e)),fun k _ hs=>hs⟩⟩;rw[hl];exact(qDM w g p _ (fun e=>h.ne e.symm)).trans h.qq
end
def A1(w:World)(S:Nat->Prop)(a:OA)(cap:Nat)(l:LI):Prop:=Bs w a cap l/\(l≠[]->∀x,a=some x->¬S x.block)
theorem A1.cQ{S':Nat->Prop}(h:A1 w S a cap l)(ht:au S S' w w'):A1 w' S' a cap l:=by
 obtain⟨hb,hn⟩:=h;by_cases h0:l=[]
 ·obtain⟨h1,h2,h3,h4,h5⟩:=hb;exact⟨⟨h1,h2,h3,h4,fun h=>absurd h0 h⟩,fun h=>absurd h0 h⟩
 ·refine⟨hb.cQ ht (hn h0),fun _ x hx hs=>?_⟩;obtain⟨b,off,rfl,hc⟩:=hb.2.2.2.2 h0;obtain rfl:=zOi hx;have aB:=qAA (hc 0 (qBE.2 h0));exact hn h0 _ rfl (ht.bA _ aB hs)
theorem A1.below(h:A1 w S a cap l)(hb:zB w w'):A1 w' S a cap l:=h.cQ (au.aI hb)
theorem cW.lower{B':Nat}(h:cW w B' v L)(hB:B<=B'):cW w B v L:=by exact AK
theorem cW.bsO(h:cW w B v l)(hb:bZ l)(hl:l.length<=140737488351232)(hS:∀k,S k->k<B):∃a c,v=.slice a l.length c/\A1 w S a c l:=by
 obtain⟨a,c,rfl,aH⟩:=h.bs hb hl;refine⟨a,c,rfl,aH,fun _ x hx hs=>?_⟩;subst hx;have h1:=h.block x.block;rcases h.2 with ⟨e,_⟩ | ⟨g,cap,cur,e,hB,_⟩
 ·simp at e
 ·simp only[qAS,qAQ]at e;obtain⟨rfl,_⟩:=e;have:=hS _ hs;dsimp only at this;omega
theorem gz.row(h:gz w g l)(hB:B<=g):Row w B g l.length (l.map (Value.int .u8)).toArray l:=⟨hB,h,zNr,Sk,by rw[qAP Sk]⟩
theorem Hp.made{w w1:World}{B g c:Nat}{cur:Array Value}{L:LI}(hr:Row w1 B g c cur L)(hb:B<=w1.heap.size)(iF:bZ L)(hf:aD L) :
  Hp (w1.alloc (.cells #[.slice (zo g) L.length c] 239)) B w1.heap.size g c L :=
 ⟨hb,Nat.ne_of_lt hr.lt,qAB w1 _,⟨cur,hr.below (zBr.alloc zNr _)⟩,iF,hf⟩
theorem ei p g c B L w(h:Hp w B p g c L) :
  zC 141 #[zq p] w fun e w'=>∃a' c',e=.returned (.slice a' L.length c')/\cW w' w.heap.size (.slice a' L.length c') L/\zB w w':=by
 have HC:=ae (qn (zo g) c L w h.bs);have hc:=h.cell;have hl:=h.len;generalize L.length=N at*;go_enter func141,ntmps141
 go_wp2_with fail
 refine HC.mono ?_;rintro e w1 ⟨a',c',rfl,az,ay⟩;have HO:=ae az;have HB:=ae ay;go_wp2;go_ret;exact⟨a',c',rfl,HO,HB⟩
theorem qe p g c B L h w(hh:Hp w B p g c L) :
  zC 140 #[zq p,zi h] w (zr (.tuple #[zi (gU L h).2.2.2,bc (aX L h)]) fun w'=>zB w w'):=by
 have HG:=ae (fun W (hW:zB w W)=>Pg (zo g) c L h W (hh.bs.below hW));have hc:=hh.cell;have hl:=hh.len;generalize gU L h=E,aX L h=X,L.length=N at*;obtain⟨e1,e2,e3,e4⟩:=E;unfold kV at HG;dsimp only at HG ⊢;go_enter func140,ntmps140
 exact Mo
