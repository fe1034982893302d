/-
  Parts of the proofs, joined by program.
-/
import Derived.RangeFuncNested
import Derived.RangeFuncBound
import Derived.RangeFuncCalls
import Derived.RangeFuncLeaves
import Derived.WalkKit
import Derived.OwnWalkIn
import Derived.TacticsInMore
import Derived.Test.YtchmlnmhbfaclaaGreatDoorJRf
namespace Go.Proofs.YtchmlnmhbfaclaaGreatDoor
open Go.RowKit
set_option linter.unusedVariables false
theorem zoB{P:Program}{F:Fence}{n n0:Nat}{α:Type}{g:Operand}{ps:Array Tmp}{assign body:Code}{Q:Exit->Act->World->Prop}{a:Act}{w:World}
  (hro:F.round=none) (h1:1<=n) {gf:Nat} {lb:Array Value} (hg:a.eval g=.func (.func gf) #[] lb) (hFg:F.fn gf) (eg:∀ args w,(callFunc gf args).run P w=.ok (.enter gf args) w)
  {encs:α->Array Value} (hps:∀ x,(encs x).size=ps.size) {N:Nat} {xs:List α} (hn0:n0<=w.heap.size)
  (hseq:∀ (l:Nat) (J:List α->World->Prop) (W:World),(∀ pre A B,J pre A->Below A.heap.size A B->J pre B) ->
   (∀ pre x W1,J pre W1->pre.length<N->YieldAt F (n-1-1) P l (encs x) W1 fun e W'=>e=.returned (.bool true)/\J (pre++[x]) W'/\Below n0 W1 W') ->
   Below w.heap.size w W->J [] W->CallsIn F (n-1) P gf (#[.func (.yield l) #[] #[]]++lb) W fun e W'=>(∃ v,e=.returned v)/\J xs W')
  (I:List α->World->Prop) (hI:∀ pre A B,I pre A->Below A.heap.size A B->I pre B)
  (hL:∀ pre A r r',I pre A->A.heap[w.heap.size+1]?=some (.loop r)->I pre (A.putObj (w.heap.size+1) (.loop r')))
  (h0:∀ W,Below w.heap.size w W->W.heap.size=w.heap.size+2->I [] W) (a1:α->Act)
  (hassign:∀ (l:Nat) (x:α) (W:World) (K:Act->World->Prop),K (a1 x) W->assign.wpIn (F.inRound l) (n-1-1) P (Exit.then K (fun _ _ _=>False)) { tmps:=(ps.zip (encs x)).foldl (fun t (p,v)=>t.setIfInBounds p v) a.tmps,defers:=[]} W)
  (hbody:∀ (pre:List α) (x:α) (W:World) (r:Loop),I pre W->W.heap[w.heap.size+1]?=some (.loop r)->W.heap[w.heap.size]?=some (.deferred (some []))->pre.length<N ->
   body.wpIn (F.inRound (w.heap.size+1)) (n-1-1) P (fun e _ W'=>e=.normal/\I (pre++[x]) W'/\Below n0 W W'/\W'.heap[w.heap.size+1]?=W.heap[w.heap.size+1]?/\W'.heap[w.heap.size]?=W.heap[w.heap.size]?) (a1 x) W)
  (hdone:∀ (W:World),I xs W->W.heap[w.heap.size]?=some (.deferred (some []))->Q .normal { a with defers:={ target:=.collected w.heap.size,args:=#[]} :: a.defers } W) :
  (Code.rangeFunc g ps assign body).wpIn F n P Q a w:=by
 refine wpIn_rangeFunc fun fn hfn=>?_
 rw [hro]
 have hA:Below w.heap.size w ((w.alloc (.deferred (some []))).alloc (.loop { state:=.ready,pending:=none,fn,tmps:=a.tmps,params:=ps,assign,body,defers:=w.heap.size })):=((Below.refl _ w).alloc (Nat.le_refl _) _).alloc (by simp) _
 have he:=run_enterLoop_outer (P:=P) (w:=w) fn a.tmps ps assign body
 have hl1:=World.alloc_heap_new (w.alloc (.deferred (some []))) (.loop { state:=.ready,pending:=none,fn,tmps:=a.tmps,params:=ps,assign,body,defers:=w.heap.size })
 have hk1:((w.alloc (.deferred (some []))).alloc (.loop { state:=.ready,pending:=none,fn,tmps:=a.tmps,params:=ps,assign,body,defers:=w.heap.size })).heap[w.heap.size]?=some (.deferred (some [])):=(Below.heap_alloc _ _ _ (by simp)).trans (World.alloc_heap_new w _)
 have hz1:((w.alloc (.deferred (some []))).alloc (.loop { state:=.ready,pending:=none,fn,tmps:=a.tmps,params:=ps,assign,body,defers:=w.heap.size })).heap.size=w.heap.size+2:=by simp
 rw [World.size_alloc] at hl1
 generalize (w.alloc (.deferred (some []))).alloc (.loop { state:=.ready,pending:=none,fn,tmps:=a.tmps,params:=ps,assign,body,defers:=w.heap.size })=W1 at hA he hl1 hk1 hz1
 refine⟨_,_,W1,{ target:=.fn (.func gf) lb,args:=#[.func (.yield (w.heap.size+1)) #[] #[]]},W1,gf,#[.func (.yield (w.heap.size+1)) #[] #[]]++lb,W1,he,?_,?_,?_,fun _=>h1,?_⟩
 ·simp only [resolve,hg]
  simp [go_sem]
 ·intro f' hf'
  simp [Target.leads] at hf'
  subst hf'
  exact hFg
 ·simp [invoke,go_sem,eg]
 ·obtain⟨rc,hrc⟩:∃ rc:LoopState->Loop,rc=fun st=>{ state:=st,pending:=none,fn,tmps:=a.tmps,params:=ps,assign,body,defers:=w.heap.size }:=⟨_,rfl⟩
  refine(hseq (w.heap.size+1) (fun pre W=>I pre W/\W.heap[w.heap.size+1]?=some (.loop (rc .ready))/\W.heap[w.heap.size]?=some (.deferred (some []))) W1
   (fun pre A B h hb=>⟨hI pre A B h.1 hb,(hb.block _ (Array.getElem?_eq_some_iff.1 h.2.1).1).trans h.2.1,(hb.block _ (Array.getElem?_eq_some_iff.1 h.2.2).1).trans h.2.2⟩)
   ?_ hA ⟨h0 _ hA hz1,by rw [hrc];exact hl1,hk1⟩).mono ?_
  ·rintro pre x W ⟨hi,hl,hk⟩ hlen
   have hlt:=(Array.getElem?_eq_some_iff.1 hl).1
   have hy:=run_yield (P:=P) (args:=encs x) hl (by rw [hrc];exact hps x)
   rw [hrc] at hy
   refine⟨fn,_,assign,body,hy,roundIn_of_wpIn hfn (hassign _ x W _ ⟨_,run_beginRound hl (by rw [hrc]),?_⟩)⟩
   have hl2:(W.putObj (w.heap.size+1) (.loop { rc .ready with state:=.busy })).heap[w.heap.size+1]?=some (.loop { rc .ready with state:=.busy }):=World.putObj_heap_same hlt
   have hk2:(W.putObj (w.heap.size+1) (.loop { rc .ready with state:=.busy })).heap[w.heap.size]?=some (.deferred (some [])):=(World.putObj_heap_other (by omega)).trans hk
   refine wpIn_mono (hbody pre x _ _ (hL _ _ _ _ hi hl) hl2 hk2 hlen) ?_
   rintro e a3 W3 ⟨rfl,hi3,hb3,hl3,hk3⟩
   have hl4:=hl3.trans hl2
   have hr:=run_endRound (P:=P) none hl4
   rw [hrc] at hr
   refine⟨_,_,hr,rfl,⟨hL _ _ _ _ hi3 hl4,?_,(World.putObj_heap_other (by omega)).trans (hk3.trans hk2)⟩,?_⟩
   ·rw [hrc]
    exact World.putObj_heap_same (Array.getElem?_eq_some_iff.1 hl4).1
   ·exact((belowK_b (w:=w) hn0 W _ _ _ (by omega) hl rfl rfl).trans hb3).trans (belowK_b (w:=w) hn0 W3 _ _ _ (by omega) hl4 rfl rfl)
  ·rintro e W2 ⟨⟨v,rfl⟩,hi,hl,hk⟩
   have hr:=run_endLoop (P:=P) hl (by rw [hrc];simp)
   rw [hrc] at hr
   exact⟨none,_,hr,hdone _ (hL _ _ _ _ hi hl) ((World.putObj_heap_other (by omega)).trans hk)⟩
structure Lp (w W:World) (b:Addr) (g p k3 k5 d:Nat) (P:Ps) (L:List Int) (F:Nat->Prop) (v:Value):Prop where
 ow:Ow w W b g p 32 80 P F
 bx:W.heap[k3]?=some (.cells #[.pointer (some ⟨g,0,none⟩)] 37 (0,0))
 bu:Bu W w.heap.size k5 v L
 ap:∀ k,sF F g k->¬ buF k5 v k/\k≠k3/\k≠d/\k≠d+1
 aq:∀ k,buF k5 v k->k≠k3/\k≠d/\k≠d+1
 sz:d+1<W.heap.size
 k3d:k3<d
 wd:w.heap.size<=k3
theorem Ssn.ge{w0 w:World}{g p m:Nat}{P:Ps}{F:Nat->Prop}(h:Ssn w0 w g p m P F):∀ k,sF F g k->w0.heap.size<=k:=fun k hk=>by
 obtain⟨t,x,h1,h2,h3,h4⟩:=h
 rcases hk with hk | rfl
 ·exact h2.ge k hk
 ·exact h4
theorem Ssn.other{w0 w w':World}{g p m:Nat}{P:Ps}{F:Nat->Prop}(h:Ssn w0 w g p m P F){U U':Nat->Prop}(ht:Turn U U' w w')(hn:∀ k,sF F g k->¬ U k)(hU:∀ k,U k->w0.heap.size<=k):Ssn w0 w' g p m P F:=by
 have hlt:=h.lt
 obtain⟨t,x,h1,h2,h3,h4⟩:=h
 exact⟨t,x,(ht.block g hlt (hn g (.inr rfl))).trans h1,h2.other ht (fun k hk=>hn k (.inl hk)) hU,h3,h4⟩
theorem ztQ(w:World)(k:Nat)(o:Obj):Turn (fun j=>j=k) (fun j=>j=k) w (w.putObj k o) :=
 ⟨rfl,rfl,rfl,by simp [World.putObj],fun j _ hn=>World.putObj_heap_other hn,fun _ _ h=>h⟩
section
variable {w W W':World} {b:Addr} {g p k3 k5 d:Nat} {P:Ps} {L:List Int} {F:Nat->Prop} {v:Value}
theorem Lp.k3lt(h:Lp w W b g p k3 k5 d P L F v):k3<W.heap.size:=(Array.getElem?_eq_some_iff.1 h.bx).1
theorem Lp.below(h:Lp w W b g p k3 k5 d P L F v)(hb:Below W.heap.size W W'):Lp w W' b g p k3 k5 d P L F v :=
 ⟨h.ow.below hb,(hb.block _ h.k3lt).trans h.bx,h.bu.below hb,h.ap,h.aq,Nat.lt_of_lt_of_le h.sz hb.size,h.k3d,h.wd⟩
theorem Lp.put(h:Lp w W b g p k3 k5 d P L F v)(o:Obj):Lp w (W.putObj (d+1) o) b g p k3 k5 d P L F v:=by
 have ht:=ztQ W (d+1) o
 have h1:=h.k3d
 have h2:=h.wd
 refine⟨⟨h.ow.rw_,h.ow.ss.other ht (fun k hk=>(h.ap k hk).2.2.2) (fun k hk=>by omega),h.ow.pz,h.ow.s0,h.ow.s9,h.ow.m0,h.ow.m1,h.ow.m2⟩,(ht.block _ h.k3lt (by omega)).trans h.bx,h.bu.turn ht (fun k hk=>(h.aq k hk).2.2),h.ap,h.aq,Nat.lt_of_lt_of_le h.sz ht.size,h.k3d,h.wd⟩
theorem Lp.line(h:Lp w W b g p k3 k5 d P L F v)(s:ByteArray)(hs:P.s+1<=9999)(hT:SsT w W g p 32 (lnA 32 P s).1 F W') :
  ∃ F',Lp w W' b g p k3 k5 d (lnA 32 P s).1 L F' v/\(lnA 32 P s).1.s<=P.s+1/\Below w.heap.size W W'/\W'.heap[d+1]?=W.heap[d+1]?/\W'.heap[d]?=W.heap[d]?:=by
 obtain⟨F',hS,ht⟩:=hT
 obtain⟨h1,h2⟩:=h.ow.next s hs hS
 have hsz:=h.sz
 have hk3:=h.k3lt
 have hbs:=h.ow.ss.base.size
 refine⟨F',⟨h1,(ht.block _ hk3 (fun e=>(h.ap _ e).2.1 rfl)).trans h.bx,h.bu.turn ht (fun k hk e=>(h.ap k e).1 hk),fun k hk=>?_,h.aq,Nat.lt_of_lt_of_le hsz ht.size,h.k3d,h.wd⟩,h2,ht.below h.ow.ss.ge hbs,ht.block _ hsz (fun e=>(h.ap _ e).2.2.2 rfl),ht.block _ (by omega) (fun e=>(h.ap _ e).2.2.1 rfl)⟩
 by_cases hlt:k<W.heap.size
 ·exact h.ap k (ht.foot k hlt hk)
 ·exact⟨fun e=>hlt (h.bu.lt k e),by omega,by omega,by omega⟩
theorem Lp.out{M:List Int}(h:Lp w W b g p k3 k5 d P L F v)(hT:BuT W w.heap.size k5 v M W') :
  ∃ v',Lp w W' b g p k3 k5 d P M F v'/\Below w.heap.size W W'/\W'.heap[d+1]?=W.heap[d+1]?/\W'.heap[d]?=W.heap[d]?:=by
 obtain⟨v',hB,ht⟩:=hT
 have hsz:=h.sz
 have hk3:=h.k3lt
 have hbs:=h.ow.ss.base.size
 have hd:∀ k,buF k5 v' k->k<W.heap.size->buF k5 v k:=fun k hk hlt=>ht.foot k hlt hk
 refine⟨v',⟨⟨h.ow.rw_,h.ow.ss.other ht (fun k hk=>(h.ap k hk).1) h.bu.le,h.ow.pz,h.ow.s0,h.ow.s9,h.ow.m0,h.ow.m1,h.ow.m2⟩,(ht.block _ hk3 (fun e=>(h.aq _ e).1 rfl)).trans h.bx,hB,fun k hk=>⟨fun e=>(h.ap k hk).1 (hd k e (h.ow.ss.foot k hk)),(h.ap k hk).2⟩,fun k hk=>?_,Nat.lt_of_lt_of_le hsz ht.size,h.k3d,h.wd⟩,ht.below h.bu.le hbs,ht.block _ hsz (fun e=>(h.aq _ e).2.2 rfl),ht.block _ (by omega) (fun e=>(h.aq _ e).2.1 rfl)⟩
 by_cases hlt:k<W.heap.size
 ·exact h.aq k (hd k hk hlt)
 ·exact⟨by omega,by omega,by omega⟩
end
end Go.Proofs.YtchmlnmhbfaclaaGreatDoor
namespace Go.Proofs.YtchmlnmhbfaclaaGreatDoor
open Go.RowKit Go.Shelf
set_option linter.unusedVariables false
def rnI(w:World)(b:Addr)(g p k3 k5 d:Nat)(pre:List ByteArray)(W:World):Prop:=∃ F v,Lp w W b g p k3 k5 d (rnO 32 (crP 80 32) pre).1 (rnO 32 (crP 80 32) pre).2 F v/\(rnO 32 (crP 80 32) pre).1.s<=2+pre.length/\(rnO 32 (crP 80 32) pre).2.length<=20001 * pre.length
theorem ziF{w:World}{B bk:Nat}{v:Value}{L:List Int}(h:Bu w B bk v L)(hL:Byt L)(hB:B<=w.heap.size):Calls Tryz.prog 18 #[.pointer (some ⟨bk,0,none⟩)] w fun e w'=>e=.returned (.string (strOf L))/\Below B w w'/\∀ k ds,k≠bk->w.heap[k]?=some (.deferred ds)->w'.heap[k]?=some (.deferred ds):=by
 obtain⟨p,hp,hb⟩:=h.blk
 have hown:w.ownsRow B 5 1 v L.length (Go.Lib.byteCells (strOf L).data.toList):=by rw [zcI L hL];exact h.own
 have hlen:(Go.Lib.byteCells (strOf L).data.toList).length=L.length:=by rw [zcI L hL,List.length_map]
 have hat:Go.Lib.BuilderAtF 45 5 B bk p (Go.Lib.byteCells (strOf L).data.toList) w:=Go.Lib.BuilderAtF.of ⟨h.ge,v,hb,by rw [hlen];exact hown,h.ne⟩
 have his:Go.Lib.IsBuilderF 45 5 B bk (Go.Lib.byteCells (strOf L).data.toList) w:=by
  rcases hp with rfl | rfl
  ·exact .inl hat
  ·exact .inr hat
 refine(Any.Builder_String_any_k ztn zno B bk (strOf L).data.toList w his hB).mono ?_
 rintro e w' ⟨rfl,_,hb',ho⟩
 exact⟨rfl,hb',fun k ds hk hd=>ho k _ hd (fun e=>hk (Option.some.inj e)) (fun c fz e=>by cases e)⟩
theorem zxY(m:Nat)(P:Ps)(l:List ByteArray):Byt (rnO m P l).2:=by
 have key:∀ (l:List ByteArray) (a:Ps×List Int),Byt a.2->Byt (l.foldl (fun a x=>((lnA m a.1 (lim x)).1,a.2++strL (lnA m a.1 (lim x)).2++[10])) a).2:=by
  intro l
  induction l with
  | nil=>exact fun a h=>h
  | cons x l ih =>
   intro a h
   refine ih _ (fun y hy=>?_)
   rcases List.mem_append.1 hy with hy | hy
   ·rcases List.mem_append.1 hy with hy | hy
    ·exact h y hy
    ·exact byt_strL _ y hy
   ·rw [List.mem_singleton.1 hy];exact⟨by decide,by decide⟩
 exact key l (P,[]) (fun y hy=>by cases hy)
set_option maxRecDepth 100000 in
set_option maxHeartbeats 2000000 in
theorem zqL(w:World)(b:Addr)(hw:RnW w b)(s:ByteArray)(hs:s.size<=3000) :
  Calls Tryz.prog 6 #[.string s] w fun e w'=>e=.returned (.string (strOf (rnO 32 (crP 80 32) (lnT s)).2))/\Below w.heap.size w w':=by
 have HB:=zb (zlh w)
 have HW:=zb hw
 clear hw
 have t0:¬ (s.size:Int) > 3000:=by omega
 refine(callsIn_wide (n:=6)).1 ?_
 refine callsIn_of_wp_marks Tryz.func6 rfl trivial ?_ rfl
 simp only [Tryz.ntmps6,List.size_toArray,List.length_cons,List.length_nil,Nat.reduceAdd,Nat.reduceSub,Array.replicate_succ,Array.replicate_zero,List.push_toArray,List.append_toArray,List.nil_append,List.cons_append]
 gi_wp2
 refine⟨trivial,(callsIn_wide.2 (za HB)).mono ?_⟩
 rintro e w1 ⟨g,p,F,rfl,hS⟩
 have HS:=zb hS
 clear hS HB
 gi_wp2
 refine⟨trivial,(zvc _ _ _).mono ?_⟩
 rintro e w2 ⟨rfl,rfl⟩
 have hB1:=(za HS).base
 have hz1:=hB1.size
 have hba:Below w1.heap.size w1 (((w1.alloc (.cells #[.pointer (some ⟨g,0,none⟩)] 37)).alloc (.cells #[.pointer none,.slice none 0 0] 45)).alloc (.cells #[.string s] 9)):=(((Below.refl _ _).alloc (Nat.le_refl _) _).alloc (by simp) _).alloc (by simp;omega) _
 have HS0:=zb ((za HS).below hba)
 have hB0:=hB1.trans (hba.mono hz1)
 have bx0:(((w1.alloc (.cells #[.pointer (some ⟨g,0,none⟩)] 37)).alloc (.cells #[.pointer none,.slice none 0 0] 45)).alloc (.cells #[.string s] 9)).heap[w1.heap.size]?=some (.cells #[.pointer (some ⟨g,0,none⟩)] 37 (0,0)):=(Below.heap_alloc _ _ _ (by simp;omega)).trans ((Below.heap_alloc _ _ _ (by simp)).trans (heap_alloc_new _ _))
 have bu0:=(Bu.new (B:=w.heap.size) (w1.alloc (.cells #[.pointer (some ⟨g,0,none⟩)] 37)) (by simp;omega)).below ((Below.refl _ _).alloc (Nat.le_refl _) (.cells #[.string s] 9))
 have bt0:=heap_alloc_new ((w1.alloc (.cells #[.pointer (some ⟨g,0,none⟩)] 37)).alloc (.cells #[.pointer none,.slice none 0 0] 45)) (.cells #[.string s] 9)
 have hsz:(((w1.alloc (.cells #[.pointer (some ⟨g,0,none⟩)] 37)).alloc (.cells #[.pointer none,.slice none 0 0] 45)).alloc (.cells #[.string s] 9)).heap.size=w1.heap.size+3:=by simp
 have hlt:=(za HS).foot
 have hge:=(za HS).ge
 simp only [World.size_alloc] at bu0 bt0
 clear HS hba hB1
 gi_wp2
 generalize ((w1.alloc (.cells #[.pointer (some ⟨g,0,none⟩)] 37)).alloc (.cells #[.pointer none,.slice none 0 0] 45)).alloc (.cells #[.string s] 9)=W0 at *
 have hcell:W0.cell? ⟨w1.heap.size+1+1,0,none⟩=some (.string s):=by
  unfold World.cell?
  rw [show W0.heap[(⟨w1.heap.size+1+1,0,none⟩:Addr).block]?=_ from bt0]
  rfl
 have HSH:=zb hs
 refine zoB (n0:=w.heap.size) (xs:=lnT s) (N:=3000) (encs:=fun x=>#[.string (lim x)]) rfl (by omega) (gf:=50) (lb:=#[.pointer (some ⟨w1.heap.size+1+1,0,none⟩)]) rfl trivial (enters_of Tryz.func50 (by kernel_rfl) rfl) (fun _=>rfl) (by omega)
  (fun l J W hJ hY hbW hJ0=>zrW 5 (by omega) l _ w b (za HW) s (za HSH) J hJ hY W (hB0.trans (hbW.mono (by omega))) ((hbW.cell (p:=⟨w1.heap.size+1+1,0,none⟩) (block_lt_of_cell hcell)).trans hcell) hJ0)
  (rnI w b g p w1.heap.size (w1.heap.size+1) W0.heap.size) (fun pre A B ⟨F,v,h1,h2⟩ hb=>⟨F,v,h1.below hb,h2⟩) (fun pre A r r' ⟨F,v,h1,h2⟩ _=>⟨F,v,h1.put _,h2⟩) ?h0
  (fun x=>{ tmps:=#[.string s,undef,.string ⟨#[]⟩,.pointer (some ⟨w1.heap.size,0,none⟩),.nilIface,.pointer (some ⟨w1.heap.size+1,0,none⟩),.string (lim x),.string s,.int .i64 s.size,.bool false,.tuple #[.pointer (some ⟨g,0,none⟩),.nilIface],.tuple #[.pointer (some ⟨g,0,none⟩),.nilIface],.pointer (some ⟨g,0,none⟩),.nilIface,.nilIface,.bool false,undef,undef,undef,.string s,.func (.func 50) #[] #[.pointer (some ⟨w1.heap.size+1+1,0,none⟩)],.string (lim x),undef,undef,undef,undef,undef,undef],defers:=[]}) ?assign ?body ?done
 case h0 =>
  intro W hbW hzW
  refine⟨F,.slice none 0 0,⟨⟨za HW,(za HS0).below hbW,.inl (zkx (n:=80) (m:=32) (by omega) (by omega) (by decide)).1,(show(0:Int)<=2 by decide),(show(2:Int)<=9999 by decide),by decide,by omega,by omega⟩,(hbW.block _ (by omega)).trans bx0,bu0.below hbW,fun k hk=>⟨?_,?_,?_,?_⟩,fun k hk=>?_,by omega,by omega,by omega⟩,(show(2:Int)<=2+((0:Nat):Int) by decide),Nat.zero_le _⟩
  ·rintro (rfl | e)
   ·have:=hlt _ hk;omega
   ·cases e
  ·have:=hlt _ hk;omega
  ·have:=hlt _ hk;omega
  ·have:=hlt _ hk;omega
  ·rcases hk with rfl | e
   ·exact⟨by omega,by omega,by omega⟩
   ·cases e
 case assign =>
  intro l x W K hK
  change Code.wpIn _ _ _ _ _ { tmps:=_,defers:=[]} W
  gi_wp2_with (rw [Oper.semAt_eq _ _ _ (fun c h=>by cases h)];go_simp;try go_bits)
  exact hK
 case body =>
  rintro pre x W r ⟨F1,v1,h1,h2,h3⟩ hl hk hlen
  have hc3:W.cell? ⟨w1.heap.size,0,none⟩=some (.pointer (some ⟨g,0,none⟩)):=by
   unfold World.cell?
   rw [show W.heap[(⟨w1.heap.size,0,none⟩:Addr).block]?=_ from h1.bx]
   rfl
  have HA:=zb (zpH h1.ow (lim x) (zBa x))
  have hfine:=h1.ow.fine
  have HSZ:=zb (zA7 hfine.1 hfine.2.2 (by omega) ⟨h1.ow.s0,h1.ow.s9⟩ (lim x))
  have HLN:=zb (fun W' hT=>h1.line (W':=W') (lim x) (by omega) hT)
  have HSN:=zb (zun 32 (crP 80 32) pre x)
  have H23:=zb (And.intro h2 h3)
  have hn0:w.heap.size<=W.heap.size:=h1.ow.ss.base.size
  clear h1 h2 h3 hfine
  generalize rnO 32 (crP 80 32) pre=RO at *
  obtain⟨P1,L1⟩:=RO
  dsimp only at *
  gi_wp2_with (rw [Oper.semAt_eq _ _ _ (fun c h=>by cases h)];go_simp;try go_bits)
  refine⟨trivial,(CallsIn.inRound _ (callsIn_wide.2 (za HA))).mono ?_⟩
  rintro e w2 ⟨rfl,hT⟩
  obtain⟨F2,q1,q2,q3,q4,q5⟩:=za HLN _ hT
  have hsz2:=za HSZ
  have h23:=za H23
  have HWS:=zb (qb q1.bu q1.ow.ss.base.size (lnA 32 P1 (lim x)).2 (by omega))
  have HO:=zb (fun W' hq=>q1.out (W':=W') (M:=L1++strL (lnA 32 P1 (lim x)).2) hq)
  have HQ:=zb (And.intro q2 (And.intro q3 (And.intro q4 q5)))
  clear q1 q2 q3 q4 q5 hT HLN HA hc3 hl hk
  gi_wp2_with (rw [Oper.semAt_eq _ _ _ (fun c h=>by cases h)];go_simp;try go_bits)
  refine⟨trivial,(CallsIn.inRound _ (callsIn_wide.2 (za HWS))).mono ?_⟩
  rintro e w3 ⟨rfl,hT3⟩
  obtain⟨v3,r1,r2,r3,r4⟩:=za HO _ hT3
  have HWB:=zb (zbj r1.bu r1.ow.ss.base.size 10 (by rw [List.length_append,length_strL];omega))
  have HO2:=zb (fun W' hq=>r1.out (W':=W') (M:=L1++strL (lnA 32 P1 (lim x)).2++[10]) hq)
  have HR:=zb (And.intro r2 (And.intro r3 r4))
  clear r1 r2 r3 r4 hT3 HO HWS
  gi_wp2_with (rw [Oper.semAt_eq _ _ _ (fun c h=>by cases h)];go_simp;try go_bits)
  refine⟨trivial,(CallsIn.inRound _ (callsIn_wide.2 (za HWB))).mono ?_⟩
  rintro e w4 ⟨rfl,hT4⟩
  obtain⟨v4,s1,s2,s3,s4⟩:=za HO2 _ hT4
  have HE:Hid (rnI w b g p w1.heap.size (w1.heap.size+1) (w1.heap.size+3) (pre++[x]) w4):=zb (by
   unfold rnI
   rw [za HSN]
   have hq:=(za HQ).1
   refine⟨F2,v4,by rw [<- hsz];exact s1,?_,?_⟩
   ·rw [List.length_append,List.length_singleton];dsimp only;omega
   ·rw [List.length_append,List.length_append,List.length_append,length_strL,List.length_singleton,List.length_singleton];omega)
  have HF:=zb (And.intro s2 (And.intro s3 s4))
  clear s1 s2 s3 s4 hT4 HO2 HWB
  gi_wp2
  exact⟨za HE,((za HQ).2.1.trans (za HR).1).trans (za HF).1,by rw [<- hsz];exact(za HF).2.1.trans ((za HR).2.1.trans (za HQ).2.2.1),by rw [<- hsz];exact(za HF).2.2.trans ((za HR).2.2.trans (za HQ).2.2.2)⟩
 case done =>
  rintro W ⟨F1,v1,h1,h2,h3⟩ hk
  have HBS:=zb (ziF h1.bu (zxY _ _ _) h1.ow.ss.base.size)
  have HBW:=zb h1.ow.ss.base
  have HK:=zb hk
  have HZ:=zb hsz
  clear h1 h2 h3 hk
  gi_wp2
  refine⟨trivial,(callsIn_wide.2 (za HBS)).mono ?_⟩
  rintro e w5 ⟨rfl,hb5,ho5⟩
  have hK5:=ho5 _ _ (by rw [za HZ];omega) (za HK)
  rw [za HZ] at hK5
  have HB5:=zb ((za HBW).trans hb5)
  clear hb5 ho5
  gi_wp2
  refine⟨by simp,.inl ⟨_,_,rfl,run_takeDeferred hK5,?_⟩⟩
  exact⟨_,results_tmp rfl _ _ _,rfl,(za HB5).trans (belowK_b (w:=w) (Nat.le_refl _) w5 _ _ _ (by first | omega | (have:=za HZ;omega)) hK5 rfl rfl)⟩
theorem zuf(w:World)(s:ByteArray)(hs:¬ s.size<=3000) :
  Calls Tryz.prog 6 #[.string s] w fun e w'=>e=.returned (.string ⟨#[116,111,111,32,108,111,110,103,10]⟩)/\w'=w:=by
 have t0:(s.size:Int) > 3000:=by omega
 refine(callsIn_wide (n:=6)).1 ?_
 refine callsIn_of_wp_marks Tryz.func6 rfl trivial ?_ rfl
 simp only [Tryz.ntmps6,List.size_toArray,List.length_cons,List.length_nil,Nat.reduceAdd,Nat.reduceSub,Array.replicate_succ,Array.replicate_zero,List.push_toArray,List.append_toArray,List.nil_append,List.cons_append]
 gi_wp2
 exact⟨_,results_tmp rfl _ _ _,rfl,rfl⟩
end Go.Proofs.YtchmlnmhbfaclaaGreatDoor
namespace Go.Proofs.YtchmlnmhbfaclaaGreatDoor
open Go.RowKit
set_option linter.unusedVariables false
def nlC:List UInt8->List UInt8×List UInt8
 | []=>([],[])
 | x :: l=>if x=10 then ([],l) else (x :: (nlC l).1,(nlC l).2)
theorem zw7:∀ l:List UInt8,((Go.Lib.cut l [10]).1,(Go.Lib.cut l [10]).2.1)=nlC l
 | []=>rfl
 | x :: l=>by
  have ih:=zw7 l
  have hge:=Go.Lib.index_ge l [10]
  unfold nlC
  unfold Go.Lib.cut at ih ⊢
  unfold Go.Lib.index
  by_cases hx:x=10
  ·subst hx
   rw [if_pos rfl]
   simp [List.isPrefixOf]
  ·rw [if_neg hx,<- ih]
   have hp:[(10:UInt8)].isPrefixOf (x :: l)=false:=by
    simp [List.isPrefixOf]
    exact fun e=>hx e.symm
   rw [hp]
   by_cases hm:Go.Lib.index l [10]=-1
   ·simp [hm]
   ·have h0:0<=Go.Lib.index l [10]:=by omega
    obtain⟨i,hi⟩:∃ i:Nat,Go.Lib.index l [10]=i:=⟨(Go.Lib.index l [10]).toNat,by omega⟩
    rw [hi] at hm ⊢
    have h1:((i:Int) == -1)=false:=by simp
    have h2:(0:Int)<=(i:Int)+1:=by omega
    have h3:((i:Int)+1).toNat=i+1:=by omega
    simp [h1,h2,h3]
theorem znh(l:List UInt8):lnC (tx l)=(tx (nlC l).1,tx (nlC l).2):=by
 rw [<- zw7 l]
 unfold lnC tx
 simp
theorem zg3(B:List UInt8):∀ A:List UInt8,10∈A->nlC (A++B)=((nlC A).1,(nlC A).2++B)
 | [],h=>by cases h
 | x :: l,h=>by
  rw [List.cons_append]
  unfold nlC
  by_cases hx:x=10
  ·rw [if_pos hx,if_pos hx]
  ·have hl:10∈l:=by
    rcases List.mem_cons.1 h with e | e
    ·exact absurd e.symm hx
    ·exact e
   rw [if_neg hx,if_neg hx,zg3 B l hl]
def Enl(A:List UInt8):Prop:=A=[]\/∃ C,A=C++[10]
theorem Enl.has{A:List UInt8}(h:Enl A)(hne:A≠[]):10∈A:=by
 rcases h with h | ⟨C,rfl⟩
 ·exact absurd h hne
 ·simp
theorem zru:∀ A:List UInt8,Enl A->Enl (nlC A).2
 | [],_=>.inl rfl
 | x :: l,h=>by
  unfold nlC
  have hl:x=10/\l=[]\/Enl l:=by
   rcases h with h | ⟨C,h⟩
   ·cases h
   ·cases C with
    | nil =>
     injection h with h1 h2
     exact .inl ⟨h1,h2⟩
    | cons y C =>
     injection h with h1 h2
     exact .inr (.inr ⟨C,h2⟩)
  by_cases hx:x=10
  ·rw [if_pos hx]
   rcases hl with ⟨_,rfl⟩ | hl
   ·exact .inl rfl
   ·exact hl
  ·rw [if_neg hx]
   rcases hl with ⟨e,_⟩ | hl
   ·exact absurd e hx
   ·exact zru l hl
theorem qr(l:List UInt8):(tx l).size=l.length:=by
 show l.toArray.size=l.length
 simp
theorem zg9(B:List UInt8):∀ (n:Nat) (A:List UInt8),A.length<=n->Enl A->lnT (tx (A++B))=lnT (tx A)++lnT (tx B)
 | n,[],_,_=>by rw [zlI (s:=tx []) rfl];rfl
 | 0,x :: l,h,_=>by simp at h
 | n+1,x :: l,h,he=>by
  have hm:=he.has (by simp)
  have hz1:(tx ((x :: l)++B)).size≠0:=by rw [qr];simp
  have hz2:(tx (x :: l)).size≠0:=by rw [qr];simp
  have hlt:=zni (tx (x :: l)) hz2
  rw [znh,qr,qr] at hlt
  rw [zeX hz1,zeX hz2,znh,znh,zg3 B _ hm]
  dsimp only
  rw [zg9 B n _ (by omega) (zru _ he)]
  rfl
theorem zop(m:Nat)(P:Ps)(l r:List ByteArray):∃ t,(rnO m P (l++r)).2=(rnO m P l).2++t:=by
 have key:∀ (r:List ByteArray) (a:Ps×List Int),∃ t,(r.foldl (fun a x=>((lnA m a.1 (lim x)).1,a.2++strL (lnA m a.1 (lim x)).2++[10])) a).2=a.2++t:=by
  intro r
  induction r with
  | nil=>exact fun a=>⟨[],by simp⟩
  | cons x r ih =>
   intro a
   obtain⟨t,ht⟩:=ih ((lnA m a.1 (lim x)).1,a.2++strL (lnA m a.1 (lim x)).2++[10])
   exact⟨strL (lnA m a.1 (lim x)).2++[10]++t,by rw [List.foldl_cons,ht];simp⟩
 unfold rnO
 rw [List.foldl_append]
 exact key r _
def faT:ByteArray:=⟨#[110,101,119,32,51,32,49,10,102,108,121,10]⟩
theorem zvO:lnT faT=[⟨#[110,101,119,32,51,32,49]⟩,⟨#[102,108,121]⟩]:=by kernel_rfl
theorem zBx:rdO ⟨#[110,101,119,32,51,32,49]⟩=some ⟨zeN,[3,1],⟨#[]⟩,[]⟩:=by kernel_rfl
theorem zBv:rdO ⟨#[102,108,121]⟩=none:=by kernel_rfl
theorem zw2:alE (zerosB (32 * 32)) 3 1=0/\alH (zerosB (32 * 32)) 3 1=1:=by
 constructor <;> kernel_rfl
theorem zBy:itB 1=⟨#[49]⟩:=by kernel_rfl
theorem zBw:strOf (rnO 32 (crP 80 32) (lnT faT)).2=⟨#[49,10,98,97,100,10]⟩:=by
 have e1:lnA 32 (crP 80 32) ⟨#[110,101,119,32,51,32,49]⟩=({ crP 80 32 with L:=alB (zerosB (32 * 32)) 3 1 },⟨#[49]⟩):=by
  rw [QF zBx,zkZ _ _ _ rfl]
  show(_,nbS (alH (zerosB (32 * 32)) 3 1) (alE (zerosB (32 * 32)) 3 1))=_
  rw [zw2.1,zw2.2]
  unfold nbS
  rw [if_pos rfl,zBy]
  rfl
 have e2:∀ Q:Ps,lnA 32 Q ⟨#[102,108,121]⟩=(Q,zzU):=fun Q=>zeY zBv
 have l1:lim ⟨#[110,101,119,32,51,32,49]⟩=⟨#[110,101,119,32,51,32,49]⟩:=rfl
 have l2:lim ⟨#[102,108,121]⟩=⟨#[102,108,121]⟩:=rfl
 rw [zvO]
 unfold rnO
 rw [List.foldl_cons,List.foldl_cons,List.foldl_nil,l1,l2]
 dsimp only
 rw [e1]
 dsimp only
 rw [e2]
 show strOf ([]++strL ⟨#[49]⟩++[10]++strL zzU++[10])=⟨#[49,10,98,97,100,10]⟩
 kernel_rfl
def rnS(s:ByteArray):ByteArray:=if s.size<=3000 then strOf (rnO 32 (crP 80 32) (lnT s)).2 else ⟨#[116,111,111,32,108,111,110,103,10]⟩
theorem zqN(w:World)(b:Addr)(hw:RnW w b)(s:ByteArray):Calls Tryz.prog 6 #[.string s] w fun e w'=>e=.returned (.string (rnS s))/\Below w.heap.size w w':=by
 unfold rnS
 by_cases hs:s.size<=3000
 ·rw [if_pos hs]
  exact zqL w b hw s hs
 ·rw [if_neg hs]
  refine(zuf w s hs).mono ?_
  rintro e w' ⟨rfl,rfl⟩
  exact⟨rfl,Below.refl _ _⟩
theorem ztP(s:ByteArray):tx s.data.toList=s:=by
 apply ByteArray.ext
 show s.data.toList.toArray=s.data
 simp
theorem zaX(l:List UInt8)(i j:Nat):(tx l).extract i j=tx ((l.drop i).take (j-i)):=by
 apply ByteArray.ext
 rw [ByteArray.data_extract]
 show l.toArray.extract i j=((l.drop i).take (j-i)).toArray
 simp
theorem zhA(l:List Int):strOf l=tx (l.map fun n=>UInt8.ofNat n.toNat):=by
 rw [<- strOf_data,ztP]
theorem zwl(A B:List UInt8):(tx A).size<=(tx (A++B)).size/\(tx (A++B)).extract 0 (tx A).size=tx A:=by
 rw [qr,qr,zaX]
 refine⟨by rw [List.length_append];omega,?_⟩
 congr 1
 simp
theorem zxX{s:ByteArray}(hs:s.size<=3000){k:Nat}(hk:k<=s.size)(h:k=s.size\/Enl (s.data.toList.take k)) :
  (rnS (s.extract 0 k)).size<=(rnS s).size/\(rnS s).extract 0 (rnS (s.extract 0 k)).size=rnS (s.extract 0 k):=by
 have hl:s.data.toList.length=s.size:=by rw [Array.length_toList];rfl
 have e1:s.extract 0 k=tx (s.data.toList.take k):=by
  have:=zaX s.data.toList 0 k
  rw [ztP] at this
  rw [this,List.drop_zero,Nat.sub_zero]
 have key:∃ B,rnS s=tx (((rnO 32 (crP 80 32) (lnT (tx (s.data.toList.take k)))).2.map fun n=>UInt8.ofNat n.toNat)++B):=by
  unfold rnS
  rw [if_pos hs]
  rcases h with h | h
  ·refine⟨[],?_⟩
   rw [List.take_of_length_le (by omega),ztP,zhA,List.append_nil]
  ·have e2:lnT s=lnT (tx (s.data.toList.take k))++lnT (tx (s.data.toList.drop k)):=by
    rw [<- zg9 (s.data.toList.drop k) _ (s.data.toList.take k) (Nat.le_refl _) h,List.take_append_drop,ztP]
   obtain⟨t,ht⟩:=zop 32 (crP 80 32) (lnT (tx (s.data.toList.take k))) (lnT (tx (s.data.toList.drop k)))
   refine⟨t.map fun n=>UInt8.ofNat n.toNat,?_⟩
   rw [e2,ht,zhA,List.map_append]
 obtain⟨B,hB⟩:=key
 have e3:rnS (tx (s.data.toList.take k))=tx ((rnO 32 (crP 80 32) (lnT (tx (s.data.toList.take k)))).2.map fun n=>UInt8.ofNat n.toNat):=by
  unfold rnS
  rw [if_pos (by rw [qr,List.length_take];omega),zhA]
 rw [e1,hB,e3]
 exact zwl _ _
end Go.Proofs.YtchmlnmhbfaclaaGreatDoor
