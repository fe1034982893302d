import Derived.Test.YtoiebmeajhpgcaaGreatDoorJRf
set_option maxRecDepth 100000
set_option maxHeartbeats 16000000
set_option linter.all false
namespace Go.Proofs.YtoiebmeajhpgcaaGreatDoor
variable {P:Ps}{F:Nat->Prop}{g p m:Nat}{w w0:World}
open Tryz
open Go.RowKit
theorem SX{P}{F}{n n0}{α:Type}{g}{ps}{assign body}{Q}{a}(jl:F.round=none)(h1:1<=n){gf}{lb}(hg:a.eval g=.func (.func gf) #[] lb)(hFg:F.fn gf)(eg:∀args w,(callFunc gf args).run P w=.ok (.enter gf args) w){encs:α->Array Value}(TW:∀x,(encs x).size=ps.size){N}{xs}(Lr:n0<=w.heap.size)(zdo:∀ (l:Nat) (J:List α->World->Prop) (W:World),(∀pre A B,J pre A->Below A.heap.size A B->J pre B) ->
   (∀pre x W1,J pre W1->pre.length<N->YieldAt F (n-1-1) P l (encs x) W1 fun e W'=>e=.returned (.bool true)/\J (pre++[x]) W'/\Below n0 W1 W') ->
   Below w.heap.size w W->J [] W->CallsIn F (n-1) P gf (#[.func (.yield l) #[] #[]]++lb) W fun e W'=>(∃v,e=.returned v)/\J xs W')(I:List α->World->Prop)(hI:∀pre A B,I pre A->Below A.heap.size A B->I pre B)(hL:∀pre A r r',I pre A->A.heap[w.heap.size+1]?=some (.loop r)->I pre (A.putObj (w.heap.size+1) (.loop r')))(h0:∀W,Below w.heap.size w W->W.heap.size=w.heap.size+2->I [] W)(a1:α->Act)(zhr:∀ (l:Nat) (x:α) (W:World) (K:Act->World->Prop),K (a1 x) W->assign.wpIn (F.inRound l) (n-1-1) P (Exit.then K (fun _ _ _=>False)) { tmps:=(ps.zip (encs x)).foldl (fun t (p,v)=>t.setIfInBounds p v) a.tmps,defers:=[]} W)(zoa:∀ (pre:List α) (x:α) (W:World) (r:Loop),I pre W->W.heap[w.heap.size+1]?=some (.loop r)->W.heap[w.heap.size]?=some (.deferred (some []))->pre.length<N ->body.wpIn (F.inRound (w.heap.size+1)) (n-1-1) P (fun e _ W'=>e=.normal/\I (pre++[x]) W'/\Below n0 W W'/\W'.heap[w.heap.size+1]?=W.heap[w.heap.size+1]?/\W'.heap[w.heap.size]?=W.heap[w.heap.size]?) (a1 x) W)(Wk:∀ (W:World),I xs W->W.heap[w.heap.size]?=some (.deferred (some []))->Q .normal { a with defers:={ target:=.collected w.heap.size,args:=#[]} :: a.defers } W) :
  (Code.rangeFunc g ps assign body).wpIn F n P Q a w:=by
 refine wpIn_rangeFunc fun fn hfn=>?_
 rw[jl];have hA:Below w.heap.size w ((w.alloc (.deferred (some []))).alloc (.loop { state:=.ready,pending:=none,fn,tmps:=a.tmps,params:=ps,assign,body,defers:=w.heap.size })):=((Below.refl _ w).alloc (Nat.le_refl _) _).alloc Sk _;have he:=run_enterLoop_outer (P:=P) (w:=w) fn a.tmps ps assign body;have jC:=World.alloc_heap_new (w.alloc (.deferred (some []))) (.loop { state:=.ready,pending:=none,fn,tmps:=a.tmps,params:=ps,assign,body,defers:=w.heap.size });have kF:((w.alloc (.deferred (some []))).alloc (.loop { state:=.ready,pending:=none,fn,tmps:=a.tmps,params:=ps,assign,body,defers:=w.heap.size })).heap[w.heap.size]?=some (.deferred (some [])):=(Below.heap_alloc _ _ _ Sk).trans (World.alloc_heap_new w _);have cU:((w.alloc (.deferred (some []))).alloc (.loop { state:=.ready,pending:=none,fn,tmps:=a.tmps,params:=ps,assign,body,defers:=w.heap.size })).heap.size=w.heap.size+2:=Sk;rw[World.size_alloc]at jC;generalize (w.alloc (.deferred (some []))).alloc (.loop { state:=.ready,pending:=none,fn,tmps:=a.tmps,params:=ps,assign,body,defers:=w.heap.size })=W1 at hA he jC kF cU;refine⟨_,_,W1,{ target:=.fn (.func gf) lb,args:=#[.func (.yield (w.heap.size+1)) #[] #[]]},W1,gf,#[.func (.yield (w.heap.size+1)) #[] #[]]++lb,W1,he,?_,?_,?_,fun _=>h1,?_⟩
 ·simp only[resolve,hg];simp[go_sem]
 ·intro f' Rq;simp[Target.leads]at Rq;subst Rq;exact hFg
 ·simp[invoke,go_sem,eg]
 ·obtain⟨rc,o5⟩:∃rc:LoopState->Loop,rc=fun st=>{ state:=st,pending:=none,fn,tmps:=a.tmps,params:=ps,assign,body,defers:=w.heap.size }:=⟨_,rfl⟩
  refine(zdo (w.heap.size+1) (fun pre W=>I pre W/\W.heap[w.heap.size+1]?=some (.loop (rc .ready))/\W.heap[w.heap.size]?=some (.deferred (some []))) W1
   (fun pre A B h hb=>⟨hI pre A B h.1 hb,(hb.block _ (Array.getElem?_eq_some_iff.1 h.2.1).1).trans h.2.1,(hb.block _ (Array.getElem?_eq_some_iff.1 h.2.2).1).trans h.2.2⟩)
   ?_ hA ⟨h0 _ hA cU,by rw[o5];exact jC,kF⟩).mono ?_
  ·rintro pre x W ⟨hi,hl,hk⟩ hlen;have aB:=(Array.getElem?_eq_some_iff.1 hl).1;have hy:=run_yield (P:=P) (args:=encs x) hl (by rw[o5];exact TW x);rw[o5]at hy;refine⟨fn,_,assign,body,hy,roundIn_of_wpIn hfn (zhr _ x W _ ⟨_,run_beginRound hl (by rw[o5]),?_⟩)⟩;have gS:(W.putObj (w.heap.size+1) (.loop { rc .ready with state:=.busy })).heap[w.heap.size+1]?=some (.loop { rc .ready with state:=.busy }):=World.putObj_heap_same aB;have fR:(W.putObj (w.heap.size+1) (.loop { rc .ready with state:=.busy })).heap[w.heap.size]?=some (.deferred (some [])):=(World.putObj_heap_other Sg).trans hk;refine wpIn_mono (zoa pre x _ _ (hL _ _ _ _ hi hl) gS fR hlen) ?_;rintro e a3 W3 ⟨rfl,hi3,bD,l7,Af⟩;have Dw:=l7.trans gS;have hr:=run_endRound (P:=P) none Dw;rw[o5]at hr;refine⟨_,_,hr,rfl,⟨hL _ _ _ _ hi3 Dw,?_,(World.putObj_heap_other Sg).trans (Af.trans fR)⟩,?_⟩
   ·rw[o5];exact World.putObj_heap_same (Array.getElem?_eq_some_iff.1 Dw).1
   ·exact((belowK_b (w:=w) Lr W _ _ _ Sg hl rfl rfl).trans bD).trans (belowK_b (w:=w) Lr W3 _ _ _ Sg Dw rfl rfl)
  ·rintro e W2 ⟨⟨v,rfl⟩,hi,hl,hk⟩;have hr:=run_endLoop (P:=P) hl (by rw[o5];simp);rw[o5]at hr;exact⟨none,_,hr,Wk _ (hL _ _ _ _ hi hl) ((World.putObj_heap_other Sg).trans hk)⟩
structure Lp (w W:World) (b:Addr) (g p k3 k5 d:Nat) (P:Ps) (L:LI) (F:Nat->Prop) (v:Value):Prop where
 ow:Ow w W b g p 32 80 P F
 bx:W.heap[k3]?=some (.cells #[zq g] 33 (0,0))
 bu:Bu W w.heap.size k5 v L
 ap:∀k,sF F g k->¬Ho k5 v k/\k≠k3/\k≠d/\k≠d+1
 aq:∀k,Ho k5 v k->k≠k3/\k≠d/\k≠d+1
 sz:d+1<W.heap.size
 k3d:k3<d
 wd:w.heap.size<=k3
theorem uU.ge(h:uU w0 w g p m P F):∀k,sF F g k->w0.heap.size<=k:=fun k hk=>by
 obtain⟨t,x,h1,h2,h3,h4⟩:=h;rcases hk with hk|rfl
 ·exact h2.ge k hk
 ·exact h4
theorem uU.other{w':World}(h:uU w0 w g p m P F){U U'}(ht:au U U' w w')(hn:∀k,sF F g k->¬U k)(hU:∀k,U k->w0.heap.size<=k):uU w0 w' g p m P F:=by have aB:=h.lt;obtain⟨t,x,h1,h2,h3,h4⟩:=h;exact⟨t,x,(ht.block g aB (hn g (.inr rfl))).trans h1,h2.other ht (fun k hk=>hn k (.inl hk)) hU,h3,h4⟩
theorem za2 w k o:au (fun j=>j=k) (fun j=>j=k) w (w.putObj k o) :=⟨rfl,rfl,rfl,by simp[World.putObj],fun j _ hn=>World.putObj_heap_other hn,fun _ _ h=>h⟩
section
variable {w W W':World} {b:Addr} {g p k3 k5 d:Nat} {P:Ps} {L:LI} {F:Nat->Prop} {v:Value}
theorem Lp.zg0(h:Lp w W b g p k3 k5 d P L F v):k3<W.heap.size:=(zAg h.bx).1
theorem Lp.below(h:Lp w W b g p k3 k5 d P L F v)(hb:zB W W'):Lp w W' b g p k3 k5 d P L F v :=⟨h.ow.below hb,(hb.block _ h.zg0).trans h.bx,h.bu.below hb,h.ap,h.aq,qAL h.sz hb.size,h.k3d,h.wd⟩
theorem Lp.put(h:Lp w W b g p k3 k5 d P L F v) o:Lp w (W.putObj (d+1) o) b g p k3 k5 d P L F v:=by have ht:=za2 W (d+1) o;have h1:=h.k3d;have h2:=h.wd;refine⟨⟨h.ow.GM,h.ow.ss.other ht (fun k hk=>(h.ap k hk).2.2.2) (fun k hk=>Sg),h.ow.pz,h.ow.s0,h.ow.s9,h.ow.m0,h.ow.m1,h.ow.m2⟩,(ht.block _ h.zg0 Sg).trans h.bx,h.bu.cQ ht (fun k hk=>(h.aq k hk).2.2),h.ap,h.aq,qAL h.sz ht.size,h.k3d,h.wd⟩
theorem Lp.line(h:Lp w W b g p k3 k5 d P L F v) s(hs:P.s+1<=9999)(hT:wC w W g p 32 (jf 32 P s).1 F W') :
  ∃F',Lp w W' b g p k3 k5 d (jf 32 P s).1 L F' v/\(jf 32 P s).1.s<=P.s+1/\Below w.heap.size W W'/\W'.heap[d+1]?=W.heap[d+1]?/\W'.heap[d]?=W.heap[d]?:=by
 obtain⟨F',hS,ht⟩:=hT;obtain⟨h1,h2⟩:=h.ow.next s hs hS;have bW:=h.sz;have Af:=h.zg0;have aH:=h.ow.ss.base.size;refine⟨F',⟨h1,(ht.block _ Af (fun e=>(h.ap _ e).2.1 rfl)).trans h.bx,h.bu.cQ ht (fun k hk e=>(h.ap k e).1 hk),fun k hk=>?_,h.aq,qAL bW ht.size,h.k3d,h.wd⟩,h2,ht.below h.ow.ss.ge aH,ht.block _ bW (fun e=>(h.ap _ e).2.2.2 rfl),ht.block _ Sg (fun e=>(h.ap _ e).2.2.1 rfl)⟩;by_cases aB:k<W.heap.size
 ·exact h.ap k (ht.bA k aB hk)
 ·exact⟨fun e=>aB (h.bu.lt k e),Sg,Sg,Sg⟩
theorem Lp.out{M}(h:Lp w W b g p k3 k5 d P L F v)(hT:BuT W w.heap.size k5 v M W') :
  ∃v',Lp w W' b g p k3 k5 d P M F v'/\Below w.heap.size W W'/\W'.heap[d+1]?=W.heap[d+1]?/\W'.heap[d]?=W.heap[d]?:=by
 obtain⟨v',hB,ht⟩:=hT;have bW:=h.sz;have Af:=h.zg0;have aH:=h.ow.ss.base.size;have hd:∀k,Ho k5 v' k->k<W.heap.size->Ho k5 v k:=fun k hk aB=>ht.bA k aB hk
 refine⟨v',⟨⟨h.ow.GM,h.ow.ss.other ht (fun k hk=>(h.ap k hk).1) h.bu.le,h.ow.pz,h.ow.s0,h.ow.s9,h.ow.m0,h.ow.m1,h.ow.m2⟩,(ht.block _ Af (fun e=>(h.aq _ e).1 rfl)).trans h.bx,hB,fun k hk=>⟨fun e=>(h.ap k hk).1 (hd k e (h.ow.ss.bA k hk)),(h.ap k hk).2⟩,fun k hk=>?_,qAL bW ht.size,h.k3d,h.wd⟩,ht.below h.bu.le aH,ht.block _ bW (fun e=>(h.aq _ e).2.2 rfl),ht.block _ Sg (fun e=>(h.aq _ e).2.1 rfl)⟩;by_cases aB:k<W.heap.size
 ·exact h.aq k (hd k hk aB)
 ·exact⟨Sg,Sg,Sg⟩
end
section
open Go.Shelf
def rnI(w:World)(b:Addr)(g p k3 k5 d:Nat)(pre:List BA)(W:World):Prop:=∃F v,Lp w W b g p k3 k5 d (xC 32 (oh 80 32) pre).1 (xC 32 (oh 80 32) pre).2 F v/\(xC 32 (oh 80 32) pre).1.s<=2+pre.length/\(xC 32 (oh 80 32) pre).2.length<=20001*pre.length
theorem Hn{B bk}{v}{L}(h:Bu w B bk v L)(hL:bZ L)(hB:B<=w.heap.size):zC 14 #[zq bk] w (zr (.string (strOf L)) fun w'=>Below B w w'/\∀k ds,k≠bk->w.heap[k]?=some (.deferred ds)->w'.heap[k]?=some (.deferred ds)):=by
 obtain⟨p,hp,hb⟩:=h.qq;have az:w.ownsRow B 5 1 v L.length (Go.Lib.byteCells (strOf L).data.toList):=by rw[tZ L hL];exact h.own
 have hlen:(Go.Lib.byteCells (strOf L).data.toList).length=L.length:=by rw[tZ L hL,zLm]
 have rI:Go.Lib.BuilderAtF 41 5 B bk p (Go.Lib.byteCells (strOf L).data.toList) w:=Go.Lib.BuilderAtF.of ⟨h.ge,v,hb,by rw[hlen];exact az,h.ne⟩;have his:Go.Lib.IsBuilderF 41 5 B bk (Go.Lib.byteCells (strOf L).data.toList) w:=by
  rcases hp with rfl|rfl
  ·exact .inl rI
  ·exact .inr rI
 refine(Any.Builder_String_any_k WY Pa B bk (strOf L).data.toList w his hB).mono ?_;rintro e w' ⟨rfl,_,pI,ho⟩;exact⟨rfl,pI,fun k ds hk hd=>ho k _ hd (fun e=>hk (zOi e)) (fun c fz e=>TB)⟩
theorem zga m P l:bZ (xC m P l).2:=by
 have key:∀ (l:List BA) (a:Ps×LI),bZ a.2->bZ (l.foldl (fun a x=>((jf m a.1 (lim x)).1,a.2++c7 (jf m a.1 (lim x)).2++[10])) a).2:=by
  intro l;induction l with
  | nil=>exact fun a h=>h
  | cons x l ih =>
   intro a h;refine ih _ (fun y hy=>?_);rcases zMa hy with hy | hy
   ·rcases zMa hy with hy|hy
    ·exact h y hy
    ·exact AD _ y hy
   ·rw[zMs hy];exact⟨Si,Si⟩
 exact key l (P,[]) (fun y hy=>by cases hy)
theorem XV w b(hw:sL w b) s(hs:s.size<=3000) :
  zC 4 #[.string s] w (zr (.string (strOf (xC 32 (oh 80 32) (Rg s)).2)) fun w'=>zB w w'):=by
 have HB:=ae (ND w);have HW:=ae hw;clear hw;have t0:¬(s.size:Int) > 3000:=Sg;refine(qBt (n:=6)).1 ?_;refine callsIn_of_wp_marks func4 rfl trivial ?_ rfl;simp only[ntmps4,qBa,zLc,qBS,Nat.reduceAdd,Nat.reduceSub,qCG,qCH,qCc,qCP,qAg,qBG]
 gi_wp2
 refine⟨trivial,(qBt.2 HB).mono ?_⟩;rintro e w1 ⟨g,p,F,rfl,hS⟩;have HS:=ae hS;clear hS HB
 gi_wp2
 refine⟨trivial,(zcX _ _ _).mono ?_⟩;rintro e w2 ⟨rfl,rfl⟩;have ia:=HS.base;have cU:=ia.size;have eh:zB w1 (((w1.alloc (.cells #[zq g] 33)).alloc (.cells #[.pointer none,.slice none 0 0] 41)).alloc (.cells #[.string s] 9)):=((zBr.alloc zNr _).alloc Sk _).alloc Tb _;have HS0:=ae (HS.below eh);have uD:=ia.trans (eh.mono cU);have bx0:(((w1.alloc (.cells #[zq g] 33)).alloc (.cells #[.pointer none,.slice none 0 0] 41)).alloc (.cells #[.string s] 9)).heap[w1.heap.size]?=some (.cells #[zq g] 33 (0,0)):=(Below.heap_alloc _ _ _ Tb).trans ((Below.heap_alloc _ _ _ Sk).trans (qAB _ _));have bu0:=(Bu.new (B:=w.heap.size) (w1.alloc (.cells #[zq g] 33)) Tb).below (zBr.alloc zNr (.cells #[.string s] 9));have bt0:=qAB ((w1.alloc (.cells #[zq g] 33)).alloc (.cells #[.pointer none,.slice none 0 0] 41)) (.cells #[.string s] 9);have bW:(((w1.alloc (.cells #[zq g] 33)).alloc (.cells #[.pointer none,.slice none 0 0] 41)).alloc (.cells #[.string s] 9)).heap.size=w1.heap.size+3:=Sk;have aB:=HS.bA;have mi:=HS.ge;simp only[World.size_alloc]at bu0 bt0;clear HS eh ia
 gi_wp2
 generalize ((w1.alloc (.cells #[zq g] 33)).alloc (.cells #[.pointer none,.slice none 0 0] 41)).alloc (.cells #[.string s] 9)=W0 at*;have bf:W0.cell? ⟨w1.heap.size+1+1,0,none⟩=some (.string s):=by unfold World.cell?;rw[show W0.heap[(⟨w1.heap.size+1+1,0,none⟩:Addr).block]?=_ from bt0];rfl
 have HSH:=ae hs;refine SX (n0:=w.heap.size) (xs:=Rg s) (N:=3000) (encs:=fun x=>#[.string (lim x)]) rfl Sg (gf:=48) (lb:=#[.pointer (some ⟨w1.heap.size+1+1,0,none⟩)]) rfl trivial (enters_of func48 SQ rfl) (fun _=>rfl) Sg
  (fun l J W hJ hY ZL hJ0=>Y1 5 Sg l _ w b HW s HSH J hJ hY W (uD.trans (ZL.mono Sg)) ((ZL.cell (p:=⟨w1.heap.size+1+1,0,none⟩) (qAA bf)).trans bf) hJ0)
  (rnI w b g p w1.heap.size (w1.heap.size+1) W0.heap.size) (fun pre A B ⟨F,v,h1,h2⟩ hb=>⟨F,v,h1.below hb,h2⟩) (fun pre A r r' ⟨F,v,h1,h2⟩ _=>⟨F,v,h1.put _,h2⟩) ?h0
  (fun x=>{ tmps:=#[.string s,undef,.string ⟨#[]⟩,.pointer (some (zp w1.heap.size)),.nilIface,.pointer (some ⟨w1.heap.size+1,0,none⟩),.string (lim x),.string s,zi s.size,.bool false,.tuple #[zq g,.nilIface],.tuple #[zq g,.nilIface],zq g,.nilIface,.nilIface,.bool false,undef,undef,undef,.string s,.func (.func 48) #[] #[.pointer (some ⟨w1.heap.size+1+1,0,none⟩)],.string (lim x),undef,undef,undef,undef,undef,undef],defers:=[]}) ?assign ?body ?done
 case h0 =>
  intro W ZL hzW;refine⟨F,.slice none 0 0,⟨⟨HW,HS0.below ZL,.inl (FQ (n:=80) (m:=32) Sg Sg Si).1,(show(0:Int)<=2 by decide),(show(2:Int)<=9999 by decide),Si,Sg,Sg⟩,(ZL.block _ Sg).trans bx0,bu0.below ZL,fun k hk=>⟨?_,?_,?_,?_⟩,fun k hk=>?_,Sg,Sg,Sg⟩,(show(2:Int)<=2+((0:Nat):Int) by decide),qAH _⟩
  ·rintro (rfl|e)
   ·have:=aB _ hk;omega
   ·cases e
  ·have:=aB _ hk;omega
  ·have:=aB _ hk;omega
  ·have:=aB _ hk;omega
  ·rcases hk with rfl|e
   ·exact⟨Sg,Sg,Sg⟩
   ·cases e
 case assign =>intro l x W K hK;change Code.wpIn _ _ _ _ _ { tmps:=_,defers:=[]} W;exact OU
 case body =>
  rintro pre x W r ⟨F1,v1,h1,h2,h3⟩ hl hk hlen;have uQ:W.cell? (zp w1.heap.size)=some (zq g):=by unfold World.cell?;rw[show W.heap[((zp w1.heap.size):Addr).block]?=_ from h1.bx];rfl
  have HA:=ae (UY h1.ow (lim x) (zkb x));have Jn:=h1.ow.bC;have Rx:=ae (Lb Jn.1 Jn.2.2 Sg ⟨h1.ow.s0,h1.ow.s9⟩ (lim x));have jD:=ae (fun W' hT=>h1.line (W':=W') (lim x) Sg hT);have HSN:=ae (En 32 (oh 80 32) pre x);have H23:=ae (And.intro h2 h3);have Lr:w.heap.size<=W.heap.size:=h1.ow.ss.base.size;clear h1 h2 h3 Jn;generalize xC 32 (oh 80 32) pre=RO at*;obtain⟨P1,L1⟩:=RO;dsimp only at*
  gi_wp2_with (rw[Oper.semAt_eq _ _ _ (fun c h=>Um)];go_simp;try go_bits)
  refine⟨trivial,(CallsIn.inRound _ (qBt.2 HA)).mono ?_⟩;rintro e w2 ⟨rfl,hT⟩;obtain⟨F2,q1,q2,q3,q4,q5⟩:=jD _ hT;have Fc:=aa Rx;have Ak:=aa H23;have HWS:=ae (dM q1.bu q1.ow.ss.base.size (jf 32 P1 (lim x)).2 Sg);have HO:=ae (fun W' hq=>q1.out (W':=W') (M:=L1++c7 (jf 32 P1 (lim x)).2) hq);have HQ:=ae (And.intro q2 (And.intro q3 (And.intro q4 q5)));clear q1 q2 q3 q4 q5 hT jD HA uQ hl hk
  gi_wp2_with (rw[Oper.semAt_eq _ _ _ (fun c h=>Um)];go_simp;try go_bits)
  refine⟨trivial,(CallsIn.inRound _ (qBt.2 HWS)).mono ?_⟩;rintro e w3 ⟨rfl,hT3⟩;obtain⟨v3,r1,r2,r3,r4⟩:=HO _ hT3;have HWB:=ae (rj r1.bu r1.ow.ss.base.size 10 (by rw[zLa,bY];omega));have oj:=ae (fun W' hq=>r1.out (W':=W') (M:=L1++c7 (jf 32 P1 (lim x)).2++[10]) hq);have HR:=ae (And.intro r2 (And.intro r3 r4));clear r1 r2 r3 r4 hT3 HO HWS
  gi_wp2_with (rw[Oper.semAt_eq _ _ _ (fun c h=>Um)];go_simp;try go_bits)
  refine⟨trivial,(CallsIn.inRound _ (qBt.2 HWB)).mono ?_⟩;rintro e w4 ⟨rfl,hT4⟩;obtain⟨v4,s1,s2,s3,s4⟩:=oj _ hT4;have HE:Hid (rnI w b g p w1.heap.size (w1.heap.size+1) (w1.heap.size+3) (pre++[x]) w4):=ae (by
   unfold rnI;rw[aa HSN];have hq:=HQ.1;refine⟨F2,v4,by rw[<-bW];exact s1,?_,?_⟩
   ·rw[zLa,qBM];exact Tu
   ·rw[zLa,zLa,zLa,bY,qBM,qBM];omega)
  have HF:=ae (And.intro s2 (And.intro s3 s4));clear s1 s2 s3 s4 hT4 oj HWB
  gi_wp2
  exact⟨HE,(HQ.2.1.trans HR.1).trans HF.1,by rw[<-bW];exact HF.2.1.trans (HR.2.1.trans HQ.2.2.1),by rw[<-bW];exact HF.2.2.trans (HR.2.2.trans HQ.2.2.2)⟩
 case done =>
  rintro W ⟨F1,v1,h1,h2,h3⟩ hk;have qp:=ae (Hn h1.bu (zga _ _ _) h1.ow.ss.base.size);have qo:=ae h1.ow.ss.base;have HK:=ae hk;have HZ:=ae bW;clear h1 h2 h3 hk
  gi_wp2
  refine⟨trivial,(qBt.2 qp).mono ?_⟩;rintro e w5 ⟨rfl,il,ho5⟩;have hK5:=ho5 _ _ (by rw[aa HZ];omega) HK;rw[aa HZ]at hK5;have oM:=ae (qo.trans il);clear il ho5
  gi_wp2
  refine⟨Sk,.inl ⟨_,_,rfl,run_takeDeferred hK5,?_⟩⟩;exact⟨_,results_tmp rfl _ _ _,rfl,oM.trans (belowK_b (w:=w) zNr w5 _ _ _ (by first | omega | (have:=aa HZ;omega)) hK5 rfl rfl)⟩
theorem zbF w s(hs:¬s.size<=3000) :
  zC 4 #[.string s] w (zr (.string ⟨#[116,111,111,32,108,111,110,103,10]⟩) fun w'=>w'=w):=by
 have t0:(s.size:Int) > 3000:=Sg;refine(qBt (n:=6)).1 ?_;refine callsIn_of_wp_marks func4 rfl trivial ?_ rfl;simp only[ntmps4,qBa,zLc,qBS,Nat.reduceAdd,Nat.reduceSub,qCG,qCH,qCc,qCP,qAg,qBG]
 gi_wp2
 exact⟨_,results_tmp rfl _ _ _,rfl,rfl⟩
