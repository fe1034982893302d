/-
  Parts of the proofs.
-/
import Derived.Test.YtcimhnnendlblaaGreatJMv
import Derived.Test.YtcimhnnendlblaaGreatJRh
import Derived.Test.YtcimhnnendlblaaGreatJUd
import Derived.Test.YtcimhnnendlblaaGreatJOl
import Derived.Test.YtcimhnnendlblaaGreatJIl
set_option maxRecDepth 100000
set_option maxHeartbeats 16000000
set_option linter.all false
namespace Go.Proofs.YtcimhnnendlblaaGreat
open Go.RowKit
def Rx(r:GY):Value:=.agg #[.int .i64 r.1,.int .i64 r.2.1,.int .i64 r.2.2.1,.int .i64 r.2.2.2.1,.string r.2.2.2.2.1,.slice r.2.2.2.2.2.1 r.2.2.2.2.2.2.2.length r.2.2.2.2.2.2.1]
def qE(w:World)(o h a n:Int)(nm:ByteArray)(ad:Option Addr)(k cap:Nat):World:=w.alloc (.cells #[.int .i64 o,.int .i64 h,.int .i64 a,.int .i64 n,.string nm,.slice ad k cap] 32)
section
variable {Q:World->Prop} (x:Nat) (h a n:Int) (nm:ByteArray) (ad:Option Addr) (k cap:Nat) (w:World)
theorem zjh(HA:Calls Tryz.prog 23 #[.pointer (some ⟨x,0,none⟩),.int .i64 n,.int .i64 a] (qE w 1 h a n nm ad k cap) fun e w'=>(∃ v,e=.returned v)/\Q w') :
  Calls Tryz.prog 6 #[.pointer (some ⟨x,0,none⟩),.agg #[.int .i64 1,.int .i64 h,.int .i64 a,.int .i64 n,.string nm,.slice ad k cap]] w fun e w'=>e=.returned (.tuple #[])/\Q w':=by
 unfold qE at HA;have H2:=af HA;clear HA;go_enter Tryz.func6,Tryz.ntmps6
 go_wp2_with fail
 refine(ae H2).mono ?_;rintro e w2 ⟨⟨v,rfl⟩,hq⟩;have HQ:=af hq;clear hq H2;go_wp2
 go_end0
 exact⟨rfl,ae HQ⟩
theorem zjg(HA:Calls Tryz.prog 30 #[.pointer (some ⟨x,0,none⟩),.int .i64 h] (qE w 2 h a n nm ad k cap) fun e w'=>(∃ v,e=.returned v)/\Q w') :
  Calls Tryz.prog 6 #[.pointer (some ⟨x,0,none⟩),.agg #[.int .i64 2,.int .i64 h,.int .i64 a,.int .i64 n,.string nm,.slice ad k cap]] w fun e w'=>e=.returned (.tuple #[])/\Q w':=by
 unfold qE at HA;have H2:=af HA;clear HA;go_enter Tryz.func6,Tryz.ntmps6
 go_wp2_with fail
 refine(ae H2).mono ?_;rintro e w2 ⟨⟨v,rfl⟩,hq⟩;have HQ:=af hq;clear hq H2;go_wp2
 go_end0
 exact⟨rfl,ae HQ⟩
theorem zjf(HA:Calls Tryz.prog 24 #[.pointer (some ⟨x,0,none⟩),.int .i64 h,.int .i64 a,.slice ad k cap] (qE w 3 h a n nm ad k cap) fun e w'=>(∃ v,e=.returned v)/\Q w') :
  Calls Tryz.prog 6 #[.pointer (some ⟨x,0,none⟩),.agg #[.int .i64 3,.int .i64 h,.int .i64 a,.int .i64 n,.string nm,.slice ad k cap]] w fun e w'=>e=.returned (.tuple #[])/\Q w':=by
 unfold qE at HA;have H2:=af HA;clear HA;go_enter Tryz.func6,Tryz.ntmps6
 go_wp2_with fail
 refine(ae H2).mono ?_;rintro e w2 ⟨⟨v,rfl⟩,hq⟩;have HQ:=af hq;clear hq H2;go_wp2
 go_end0
 exact⟨rfl,ae HQ⟩
theorem zje(HA:Calls Tryz.prog 31 #[.pointer (some ⟨x,0,none⟩),.string nm,.int .i64 h] (qE w 4 h a n nm ad k cap) fun e w'=>(∃ v,e=.returned v)/\Q w') :
  Calls Tryz.prog 6 #[.pointer (some ⟨x,0,none⟩),.agg #[.int .i64 4,.int .i64 h,.int .i64 a,.int .i64 n,.string nm,.slice ad k cap]] w fun e w'=>e=.returned (.tuple #[])/\Q w':=by
 unfold qE at HA;have H2:=af HA;clear HA;go_enter Tryz.func6,Tryz.ntmps6
 go_wp2_with fail
 refine(ae H2).mono ?_;rintro e w2 ⟨⟨v,rfl⟩,hq⟩;have HQ:=af hq;clear hq H2;go_wp2
 go_end0
 exact⟨rfl,ae HQ⟩
theorem zjd(HA:Calls Tryz.prog 32 #[.pointer (some ⟨x,0,none⟩),.string nm] (qE w 5 h a n nm ad k cap) fun e w'=>(∃ v,e=.returned v)/\Q w') :
  Calls Tryz.prog 6 #[.pointer (some ⟨x,0,none⟩),.agg #[.int .i64 5,.int .i64 h,.int .i64 a,.int .i64 n,.string nm,.slice ad k cap]] w fun e w'=>e=.returned (.tuple #[])/\Q w':=by
 unfold qE at HA;have H2:=af HA;clear HA;go_enter Tryz.func6,Tryz.ntmps6
 go_wp2_with fail
 refine(ae H2).mono ?_;rintro e w2 ⟨⟨v,rfl⟩,hq⟩;have HQ:=af hq;clear hq H2;go_wp2
 go_end0
 exact⟨rfl,ae HQ⟩
theorem zjc(HA:Calls Tryz.prog 19 #[.pointer (some ⟨x,0,none⟩)] (qE w 8 h a n nm ad k cap) fun e w'=>(∃ v,e=.returned v)/\Q w') :
  Calls Tryz.prog 6 #[.pointer (some ⟨x,0,none⟩),.agg #[.int .i64 8,.int .i64 h,.int .i64 a,.int .i64 n,.string nm,.slice ad k cap]] w fun e w'=>e=.returned (.tuple #[])/\Q w':=by
 unfold qE at HA;have H2:=af HA;clear HA;go_enter Tryz.func6,Tryz.ntmps6
 go_wp2_with fail
 refine(ae H2).mono ?_;rintro e w2 ⟨⟨v,rfl⟩,hq⟩;have HQ:=af hq;clear hq H2;go_wp2
 go_end0
 exact⟨rfl,ae HQ⟩
theorem zjb(HA:Calls Tryz.prog 33 #[.pointer (some ⟨x,0,none⟩)] (qE w 9 h a n nm ad k cap) fun e w'=>(∃ v,e=.returned v)/\Q w') :
  Calls Tryz.prog 6 #[.pointer (some ⟨x,0,none⟩),.agg #[.int .i64 9,.int .i64 h,.int .i64 a,.int .i64 n,.string nm,.slice ad k cap]] w fun e w'=>e=.returned (.tuple #[])/\Q w':=by
 unfold qE at HA;have H2:=af HA;clear HA;go_enter Tryz.func6,Tryz.ntmps6
 go_wp2_with fail
 refine(ae H2).mono ?_;rintro e w2 ⟨⟨v,rfl⟩,hq⟩;have HQ:=af hq;clear hq H2;go_wp2
 go_end0
 exact⟨rfl,ae HQ⟩
theorem zfs(o:Int)(h1:o≠1)(h2:o≠2)(h3:o≠3)(h4:o≠4)(h5:o≠5)(h8:o≠8)(h9:o≠9) :
  Calls Tryz.prog 6 #[.pointer (some ⟨x,0,none⟩),.agg #[.int .i64 o,.int .i64 h,.int .i64 a,.int .i64 n,.string nm,.slice ad k cap]] w fun e w'=>e=.returned (.tuple #[])/\w'=qE w o h a n nm ad k cap:=by
 unfold qE;have t1:(o == 1)=false:=by simpa using h1
 have t2:(o == 2)=false:=by simpa using h2
 have t3:(o == 3)=false:=by simpa using h3
 have t4:(o == 4)=false:=by simpa using h4
 have t5:(o == 5)=false:=by simpa using h5
 have t8:(o == 8)=false:=by simpa using h8
 have t9:(o == 9)=false:=by simpa using h9
 clear h1 h2 h3 h4 h5 h8 h9;go_enter Tryz.func6,Tryz.ntmps6
 go_wp2
 go_end0
 exact⟨rfl,rfl⟩
end
section
variable {w:World} {B p g c:Nat} {L:List Int}
theorem Mg(o h a n:Int)(nm:ByteArray)(ad:Option Addr)(k cap:Nat):Below w.heap.size w (qE w o h a n nm ad k cap):=Below.alloc zBr zNr _
theorem Qr(hh:Hp w B p g c L)(hB:B<=w.heap.size)(r:GY)(hr:KK w r) :
  Calls Tryz.prog 6 #[.pointer (some ⟨p,0,none⟩),Rx r] w fun e w'=>e=.returned (.tuple #[])/\∃ g' c' L',Hp w' B p g' c' L'/\L'.length=L.length/\aE (bA p g) (bA p g') w w':=by
 obtain⟨o,h,a,n,nm,ad,cap,l⟩:=r;obtain⟨z1,z2,z3,z4,z5,z6⟩:=hr;dsimp only at z1 z2 z3 z4 z5 z6;have hf:=hh.aV;have hb:=Mg (w:=w) o h a n nm ad l.length cap;unfold Rx;dsimp only;by_cases h1:o=1
 ·subst h1;exact zjh p h a n nm ad l.length cap w ((AU p g c B L n a _ (hh.below hb) (Nat.le_trans hB hb.size)).mono fun e w' ⟨he,g',c',hp,ht⟩=>⟨⟨_,he⟩,g',c',_,hp,Zd hf _ _,(aE.aW hb).trans ht⟩)
 by_cases h2:o=2
 ·subst h2;exact zjg p h a n nm ad l.length cap w ((Ed p g c B L h _ (hh.below hb) (Nat.le_trans hB hb.size)).mono fun e w' ⟨he,g',c',hp,ht⟩=>⟨⟨_,he⟩,g',c',_,hp,(J0 hf _).2,(aE.aW hb).trans ht⟩)
 by_cases h3:o=3
 ·subst h3;exact zjf p h a n nm ad l.length cap w ((AQ p g c B L h a ad cap l _ (hh.below hb) (z6.below hb) z3.2).mono fun e w' ⟨he,hp,ht⟩=>⟨⟨_,he⟩,g,c,_,hp,(G9 hf _ _ _).2,(aE.aW hb).trans ht⟩)
 by_cases h4:o=4
 ·subst h4;exact zje p h a n nm ad l.length cap w ((C2 (hh.below hb) (Nat.le_trans hB hb.size) nm h z5).mono fun e w' ⟨he,g',c',hp,ht⟩=>⟨⟨_,he⟩,g',c',_,hp,(Ik hf _ _).2,(aE.aW hb).trans ht⟩)
 by_cases h5:o=5
 ·subst h5;exact zjd p h a n nm ad l.length cap w ((Iw (hh.below hb) (Nat.le_trans hB hb.size) nm z5).mono fun e w' ⟨he,g',c',hp,ht⟩=>⟨⟨_,he⟩,g',c',_,hp,(Hm hf _).2,(aE.aW hb).trans ht⟩)
 by_cases h8:o=8
 ·subst h8;exact zjc p h a n nm ad l.length cap w ((wh (hh.below hb) (Nat.le_trans hB hb.size)).mono fun e w' ⟨he,g',c',hp,ht⟩=>⟨⟨_,he⟩,g',c',_,hp,(My hf).1.len,(aE.aW hb).trans ht⟩)
 by_cases h9:o=9
 ·subst h9;exact zjb p h a n nm ad l.length cap w ((xL (hh.below hb) (Nat.le_trans hB hb.size)).mono fun e w' ⟨he,g',c',hp,ht⟩=>⟨⟨_,he⟩,g',c',_,hp,(Ht hf).2,(aE.aW hb).trans ht⟩)
 exact(zfs p h a n nm ad l.length cap w o h1 h2 h3 h4 h5 h8 h9).mono fun e w' ⟨he,hw⟩=>⟨he,g,c,L,by rw [hw];exact hh.below hb,rfl,by rw [hw];exact aE.aW hb⟩
end
theorem zbT(n:Int)(hq:b9 n=false)(w:World) :
  Calls Tryz.prog 5 #[.int .i64 n] w fun e w'=>e=.returned (.tuple #[.pointer none,aR 1])/\Below w.heap.size w w':=by
 have HN:=af (FT n w);rw [show I3 n=[] by unfold I3;rw [hq];rfl,show I4 n=1 by unfold I4;rw [hq];rfl,aC 1 (by decide)] at HN;rw [aC 1 (by decide)];clear hq;go_enter Tryz.func5,Tryz.ntmps5
 go_wp2_with fail
 refine(ae HN).mono ?_;rintro e w1 ⟨a,c,rfl,_,ay⟩;have aL:=af ay;clear ay HN;go_wp2;go_ret2;exact⟨rfl,ae aL⟩
def Tb1(w0 w:World)(p N:Nat):Prop:=∃ g c L,Hp w w0.heap.size p g c L/\L.length=N/\Below w0.heap.size w0 w
theorem KK.Y9{w w':World}{r:GY}(h:KK w r)(hb:Below w.heap.size w w'):KK w' r:=⟨h.1,h.2.1,h.2.2.1,h.2.2.2.1,h.2.2.2.2.1,h.2.2.2.2.2.below hb⟩
section
variable {w0 w w':World} {p u gm N:Nat} {L0:List Int} {aa:Option Addr} {ca:Nat}
theorem Tb1.base(h:Tb1 w0 w p N):Below w0.heap.size w0 w:=by obtain⟨g,c,L,_,_,h3⟩:=h;exact h3
theorem Tb1.act(h:Tb1 w0 w p N)(r:GY)(hr:KK w r):Calls Tryz.prog 6 #[.pointer (some ⟨p,0,none⟩),Rx r] w fun e w'=>e=.returned (.tuple #[])/\Tb1 w0 w' p N:=by obtain⟨g,c,L,hh,hl,hb⟩:=h;refine(Qr hh hb.size r hr).mono ?_;rintro e w' ⟨rfl,g',c',L',D4,hl',ht⟩;exact⟨rfl,g',c',L',D4,hl'.trans hl,hb.trans (ht.below (fun k hk=>hh.Gn k hk) hb.size)⟩
def Tb2(w0 w:World)(p u gm N:Nat)(L0:List Int)(aa:Option Addr)(ca:Nat):Prop:=∃ g c L,Ud w w0.heap.size u gm p g c L 1 [(1,L0)]/\L.length=N/\kh w w0.heap.size (ft u gm p g) (aa,ca,L0)/\Below w0.heap.size w0 w
theorem Tb2.base(h:Tb2 w0 w p u gm N L0 aa ca):Below w0.heap.size w0 w:=by obtain⟨g,c,L,_,_,_,h3⟩:=h;exact h3
theorem Tb2.act(h:Tb2 w0 w p u gm N L0 aa ca)(r:GY)(hr:KK w r):Calls Tryz.prog 6 #[.pointer (some ⟨p,0,none⟩),Rx r] w fun e w'=>e=.returned (.tuple #[])/\Tb2 w0 w' p u gm N L0 aa ca:=by obtain⟨g,c,L,Xg,hl,ho,hb⟩:=h;refine(Qr Xg.hp hb.size r hr).mono ?_;rintro e w' ⟨rfl,g',c',L',D4,hl',ht⟩;exact⟨rfl,g',c',L',Xg.heap D4 ht hl',hl'.trans hl,ho.dZ (yY ht),hb.trans ((yY (u:=u) (gm:=gm) ht).below Xg.ge hb.size)⟩
theorem IU{B g c n:Nat}{L:List Int}{M:List (Int×List Int)}(Xg:Ud w B u gm p g c L n M)(hB:B<=w.heap.size){a:Option Addr}{c':Nat}{l:List Int}(ho:cj w' w.heap.size (.slice a l.length c') l)(hb:bj l)(hl:l.length<=140737488351232):kh w' B (ft u gm p g) (a,c',l) :=⟨ho.lower hB,hb,hl,fun b hb hf=>by have h1:=ho.block b hb;have h2:=Xg.lt b hf;omega⟩
theorem bT.UU{α:Type}{enc:α->List Value}{k T B:Nat}{v:Value}{l:List α}{S S':Nat->Prop}(h:bT enc k T w B v l)(ht:aE S S' w w')(hn:∀ b,v.ownBlock=some b->¬ S b):bT enc k T w' B v l:=by
 refine⟨h.1,?_⟩;rcases h.2 with h0 | ⟨g,cap,cur,rfl,hB,hc,h3⟩
 ·exact .inl h0
 ·exact .inr ⟨g,cap,cur,rfl,hB,(ht.block g (zAg hc).1 (hn g rfl)).trans hc,h3⟩
theorem vv.UU{B:Nat}{v:Value}{l:List (Int×List Int×List Int)}{S S':Nat->Prop}(h:vv w B v l)(ht:aE S S' w w')(hS:∀ k,S k->k<B):vv w' B v l:=by
 obtain⟨rs,h1,h2,h3⟩:=h;have hv:∀ {x:Value} {y:List Int},cj w B x y->cj w' B x y:=fun ho=>ho.same (fun k hk=>ht.block k (ho.lt k hk) (fun hs=>by have h4:=ho.block k hk;have h5:=hS k hs;omega))
 exact⟨rs,h1,h2.UU ht (fun b hb hs=>by have h4:=h2.block b hb;have h5:=hS b hs;omega),fun r hr=>⟨⟨(h3 r hr).1.1,(h3 r hr).1.2.1,hv (h3 r hr).1.2.2⟩,(h3 r hr).2.1,(h3 r hr).2.2.1,hv (h3 r hr).2.2.2⟩⟩
end
theorem UY{w:World}{B p g c:Nat}{L:List Int}(hh:Hp w B p g c L)(aw:Option Addr)(cw:Nat)(hw:Bs w aw cw L) :
  Calls Tryz.prog 9 #[.pointer (some ⟨p,0,none⟩)] w fun e w'=>∃ a' c',e=.returned (.slice a' L.length c')/\(convert 30 9 (.slice a' L.length c')).run Tryz.prog w'=.ok (.string (strOf L)) w'/\(convert 30 9 (.slice aw L.length cw)).run Tryz.prog w'=.ok (.string (strOf L)) w'/\Below w.heap.size w w' :=
 (cZ p g c B L w hh).mono fun e w' ⟨a',c',he,ho,hb⟩=>⟨a',c',he,by obtain⟨a2,c2,e2,aX⟩:=ho.bs hh.kV (by have:=hh.len;omega);simp only [Value.slice.injEq,true_and] at e2;obtain⟨rfl,rfl⟩:=e2;exact fU zu30 zu5 zu9 aX,fU zu30 zu5 zu9 (hw.below hb),hb⟩
theorem zdx(a al:Option Addr)(cap cl:Nat)(L C:List Int)(l:List (Int×List Int×List Int))(w:World)(hb:Bs w a cap L)(hl:Qz w al cl l)(h2:l.length<=200)(e1:Qp L l=0)(e2:TX L l=C) :
  Calls Tryz.prog 12 #[.slice a L.length cap,.slice al l.length cl] w (Ends w C .nilIface):=by
 have h:=EA a al cap cl L l w hb hl h2;have e3:apE L l=0:=by unfold Qp at e1;rwa [if_neg (by omega)] at e1
 rw [e2,e3,aA] at h;exact h
theorem UZ{A C:List Int}(h1:A.length=C.length)(hn:(ir A C A.length).length<=200):Qp A (ir A C A.length)=0/\TX A (ir A C A.length)=C:=by
 obtain⟨a1,a2⟩:=YG h1;have e:Qp A (ir A C A.length)=0:=by unfold Qp;rw [if_neg (by omega),a1]
 exact⟨e,by unfold TX;rw [if_pos e,a2]⟩
theorem zgV{L:List Int}(hf:aB L):sH L=0:=by unfold sH;rw [if_neg (by rw [hf.cW];simp),if_pos hf.ok]
theorem zat{a b:List Int}(ha:aB a)(m:pU a b):mQ b a=true/\nP b a=0:=by
 have he:nP b a=0:=by unfold nP;rw [if_neg (by rw [m.aV.cW];simp),if_neg (by rw [ha.cW];simp),if_pos ⟨m.aV.ok,ha.ok⟩]
 refine⟨?_,he⟩;unfold mQ;rw [he,m.roots,sY ha];have:sameO b a 40=true:=jV.2 (fun j hj=>m.tc _ (by omega) (by omega));rw [this];rfl
theorem Hr(a1 a2:Option Addr)(c1 c2:Nat)(A B:List Int)(w:World)(hA:Bs w a1 c1 A)(hB:Bs w a2 c2 B)(fA:aB A)(fB:aB B)(h:mQ A B=true)(he:nP A B=0) :
  Calls Tryz.prog 16 #[.slice a1 A.length c1,.slice a2 B.length c2] w fun e w'=>e=.returned (.tuple #[.bool true,.nilIface])/\Below w.heap.size w w':=by
 have e:(sameO A B 40 && lW (ak A 8) (ak B 8))=true:=by unfold mQ at h;rw [he] at h;simpa using h
 have:=Il a1 a2 c1 c2 A B w hA hB fA.cW fB.cW fA.ok fB.ok;rw [e] at this;exact this
theorem OT{a b:List Int}(ha:aB a)(hb:aB b)(ho:∀ k,1<=k->k<=40->aD b k=aD a k):∀ k:Nat,k<=40->(entsK b k).length=(entsK a k).length
 | 0,_=>rfl
 | k+1,hk=>by
  have ih:=OT ha hb ho k (by omega);have wJ:(1:Int)<=(k:Int)+1:=by omega
  have gO:(k:Int)+1<=40:=by omega
  have h:=ho ((k:Int)+1) wJ gO;have none:∀ {c d:List Int},aB d->aD d ((k:Int)+1)=aD c ((k:Int)+1)->aq c ((k:Int)+1)=0->aq d ((k:Int)+1)=0:=fun {c d} hd e h0=>Classical.byContradiction fun aO=>by have h4:=(hd.jB wJ gO aO).2.2.2.2.1;rw [dF h0] at e;unfold aD gu at e;rw [if_neg aO] at e;have:=congrArg Prod.fst e;dsimp only at this;omega
  by_cases h0:aq a ((k:Int)+1)=0
  ·rw [A7 h0,A7 (none hb h h0),ih]
  ·have h1:¬ aq b ((k:Int)+1)=0:=fun e=>h0 (none ha h.symm e)
   rw [wV h0,wV h1,zLa,zLa,ih];rfl
end Go.Proofs.YtcimhnnendlblaaGreat
