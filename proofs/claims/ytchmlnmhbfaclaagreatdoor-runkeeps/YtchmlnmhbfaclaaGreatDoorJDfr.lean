/-
  Parts of the proofs, joined by program.
-/
import Derived.Test.YtchmlnmhbfaclaaGreatDoorJDf
import Derived.Test.YtchmlnmhbfaclaaGreatDoorJIm
import Derived.Deep.AppendLies
import Derived.Test.YtchmlnmhbfaclaaGreatDoorJNum
import Derived.Test.YtchmlnmhbfaclaaGreatDoorProg
import Derived.Deep.RegionHeld3
import Derived.Deep.RegionLaw
namespace Go.Proofs.YtchmlnmhbfaclaaGreatDoor
open Go.RowKit
set_option linter.unusedVariables false
def slV(s:Option Addr×Nat×List Int):Value:=.slice s.1 s.2.2.length s.2.1
def rwC(r:(Int×(Option Addr×Nat×List Int)×(Option Addr×Nat×List Int))):List Value:=[.int .i64 r.1,slV r.2.1,slV r.2.2]
def rwP(r:(Int×(Option Addr×Nat×List Int)×(Option Addr×Nat×List Int))):(Int×List Int×List Int):=(r.1,r.2.1.2.2,r.2.2.2.2)
theorem zxQ(r:(Int×(Option Addr×Nat×List Int)×(Option Addr×Nat×List Int))):(rwC r).length=3:=rfl
theorem zqH(r:(Int×(Option Addr×Nat×List Int)×(Option Addr×Nat×List Int))):∀ u∈rwC r,u.oneCell'=true:=by
 intro u hu
 unfold rwC slV at hu
 rcases List.mem_cons.1 hu with rfl | hu
 ·rfl
 rcases List.mem_cons.1 hu with rfl | hu
 ·rfl
 rw [List.mem_singleton.1 hu]
 rfl
theorem znn:(Tryz.prog.info? 387).map (fun i=>(i.zero,i.size,i.bytes))=some (some (.agg #[.int .i64 0,.slice none 0 0,.slice none 0 0]),3,56):=by kernel_rfl
def RdC(w:World)(r:(Int×(Option Addr×Nat×List Int)×(Option Addr×Nat×List Int))):Prop:=Bs w r.2.1.1 r.2.1.2.1 r.2.1.2.2/\Bs w r.2.2.1 r.2.2.2.1 r.2.2.2.2
theorem RdC.below{w w':World}{r:(Int×(Option Addr×Nat×List Int)×(Option Addr×Nat×List Int))}(h:RdC w r)(hb:Below w.heap.size w w'):RdC w' r:=⟨h.1.below hb,h.2.below hb⟩
def Chs(w:World)(a:Option Addr)(cap:Nat)(l:List (Int×List Int×List Int)):Prop:=∃ rs:List (Int×(Option Addr×Nat×List Int)×(Option Addr×Nat×List Int)),rs.map rwP=l/\Sls rwC 3 w a cap rs/\∀ r∈rs,RdC w r
theorem Chs.below{w w':World}{a:Option Addr}{cap:Nat}{l:List (Int×List Int×List Int)}(h:Chs w a cap l)(hb:Below w.heap.size w w'):Chs w' a cap l:=by
 obtain⟨rs,h1,h2,h3⟩:=h
 exact⟨rs,h1,h2.below hb,fun r hr=>(h3 r hr).below hb⟩
theorem Chs.at{w:World}{a:Option Addr}{cap:Nat}{l:List (Int×List Int×List Int)}(h:Chs w a cap l){i:Nat}(hi:i<l.length) :
  ∃ b off a1 c1 a2 c2,a=some ⟨b,off,none⟩/\w.cell? ⟨b,off+i * 3,none⟩=some (.int .i64 (l.getD i (0,[],[])).1)/\w.cell? ⟨b,off+i * 3+1,none⟩=some (.slice a1 (l.getD i (0,[],[])).2.1.length c1)/\w.cell? ⟨b,off+i * 3+2,none⟩=some (.slice a2 (l.getD i (0,[],[])).2.2.length c2)/\Bs w a1 c1 (l.getD i (0,[],[])).2.1/\Bs w a2 c2 (l.getD i (0,[],[])).2.2:=by
 obtain⟨rs,rfl,h2,h3⟩:=h
 rw [List.length_map] at hi
 have hne:rs≠[]:=by intro e;rw [e] at hi;simp at hi
 obtain⟨b,off,rfl,hc⟩:=h2.2.2.2 hne
 have hx:rs[i]?=some rs[i]:=List.getElem?_eq_getElem hi
 have hg:(rs.map rwP).getD i (0,[],[])=rwP rs[i]:=by simp [List.getD,hi]
 rw [hg]
 obtain⟨hr1,hr2⟩:=h3 rs[i] (List.getElem_mem hi)
 exact⟨b,off,rs[i].2.1.1,rs[i].2.1.2.1,rs[i].2.2.1,rs[i].2.2.2.1,rfl,hc i _ hx 0 _ rfl,hc i _ hx 1 _ rfl,hc i _ hx 2 _ rfl,hr1,hr2⟩
def RdO(w:World)(B:Nat)(r:(Int×(Option Addr×Nat×List Int)×(Option Addr×Nat×List Int))):Prop:=(Byt r.2.1.2.2/\r.2.1.2.2.length<=140737488351232/\OwnV w B (slV r.2.1) r.2.1.2.2)/\Byt r.2.2.2.2/\r.2.2.2.2.length<=140737488351232/\OwnV w B (slV r.2.2) r.2.2.2.2
theorem OwnV.bs'{w:World}{B:Nat}{s:Option Addr×Nat×List Int}(h:OwnV w B (slV s) s.2.2)(hb:Byt s.2.2)(hl:s.2.2.length<=140737488351232):Bs w s.1 s.2.1 s.2.2:=by
 obtain⟨a,c,e,hbs⟩:=h.bs hb hl
 unfold slV at e
 simp only [Value.slice.injEq,true_and] at e
 rw [e.1,e.2]
 exact hbs
theorem RdO.rd{w:World}{B:Nat}{r:(Int×(Option Addr×Nat×List Int)×(Option Addr×Nat×List Int))}(h:RdO w B r):RdC w r:=⟨h.1.2.2.bs' h.1.1 h.1.2.1,h.2.2.2.bs' h.2.1 h.2.2.1⟩
theorem RdO.below{w w':World}{B:Nat}{r:(Int×(Option Addr×Nat×List Int)×(Option Addr×Nat×List Int))}(h:RdO w B r)(hb:Below w.heap.size w w'):RdO w' B r:=⟨⟨h.1.1,h.1.2.1,h.1.2.2.below hb⟩,h.2.1,h.2.2.1,h.2.2.2.below hb⟩
theorem OwnV.keep{α:Type}{enc:α->List Value}{k T:Nat}{w w':World}{B B':Nat}{v v':Value}{l:List α}{L:List Int}(h:Lst enc k T w B v l)(h':OwnV w B' v' L)(hne:T≠5)
  (hk:∀ j,j<w.heap.size->v.ownBlock≠some j->w'.heap[j]?=w.heap[j]?):OwnV w' B' v' L:=by
 refine⟨h'.1,?_⟩
 rcases h'.2 with h0 | ⟨g,cap,cur,rfl,hB,hc,h3⟩
 ·exact .inl h0
 ·refine .inr ⟨g,cap,cur,rfl,hB,(hk g (Array.getElem?_eq_some_iff.1 hc).1 (fun e=>?_)).trans hc,h3⟩
  rcases h.2 with ⟨rfl,_⟩ | ⟨g1,cap1,cur1,rfl,hB1,hc1,_⟩
  ·cases e
  ·simp [Value.ownBlock] at e
   subst e
   rw [hc1] at hc
   simp at hc
   exact hne hc.2
theorem RdO.keep{α:Type}{enc:α->List Value}{k T:Nat}{w w':World}{B B':Nat}{v:Value}{l:List α}{r:(Int×(Option Addr×Nat×List Int)×(Option Addr×Nat×List Int))}(h:Lst enc k T w B v l)(h':RdO w B' r)(hne:T≠5)
  (hk:∀ j,j<w.heap.size->v.ownBlock≠some j->w'.heap[j]?=w.heap[j]?):RdO w' B' r:=⟨⟨h'.1.1,h'.1.2.1,h'.1.2.2.keep h hne hk⟩,h'.2.1,h'.2.2.1,h'.2.2.2.keep h hne hk⟩
def ChO(w:World)(B:Nat)(v:Value)(l:List (Int×List Int×List Int)):Prop:=∃ rs:List (Int×(Option Addr×Nat×List Int)×(Option Addr×Nat×List Int)),rs.map rwP=l/\Lst rwC 3 387 w B v rs/\∀ r∈rs,RdO w B r
theorem ChO.nil(w:World)(B:Nat):ChO w B (.slice none 0 0) []:=⟨[],rfl,Lst.nil w B,fun r hr=>by cases hr⟩
theorem ChO.below{w w':World}{B:Nat}{v:Value}{l:List (Int×List Int×List Int)}(h:ChO w B v l)(hb:Below w.heap.size w w'):ChO w' B v l:=by
 obtain⟨rs,h1,h2,h3⟩:=h
 exact⟨rs,h1,h2.below hb,fun r hr=>(h3 r hr).below hb⟩
theorem ChO.chs{w:World}{B:Nat}{v:Value}{l:List (Int×List Int×List Int)}(h:ChO w B v l)(hl:l.length<=8796093021952):∃ a c,v=.slice a l.length c/\Chs w a c l:=by
 obtain⟨rs,rfl,h2,h3⟩:=h
 rw [List.length_map] at hl ⊢
 obtain⟨a,c,e,hs⟩:=h2.sls zxQ hl
 exact⟨a,c,e,rs,rfl,hs,fun r hr=>(h3 r hr).rd⟩
theorem ChO.grow{w w':World}{B g cap n:Nat}{v:Value}{rs:List (Int×(Option Addr×Nat×List Int)×(Option Addr×Nat×List Int))}{r:(Int×(Option Addr×Nat×List Int)×(Option Addr×Nat×List Int))}(hL:Lst rwC 3 387 w B v rs)(h3:∀ x∈rs,RdO w B x)(hr:RdO w B r)(hB:B<=w.heap.size)
  (hown:w'.ownsRow B 387 3 (.slice (some ⟨g,0,none⟩) n cap) (rs.length+1) (rs.flatMap rwC++rwC r)) (hg:w.grownBy w' v.ownBlock) :
  ChO w' B (.slice (some ⟨g,0,none⟩) n cap) (rs.map rwP++[rwP r])/\Below B w w':=by
 refine⟨⟨rs++[r],by simp,?_,?_⟩,(Below.refl _ _).grown hg hB (fun k hk=>hL.block k hk)⟩
 ·unfold Lst
  rw [List.length_append,List.flatMap_append]
  simpa using hown
 ·have hk:∀ j,j<w.heap.size->v.ownBlock≠some j->w'.heap[j]?=w.heap[j]?:=fun j hj hne=>hg.block j hj (fun e=>hne e.symm)
  intro x hx
  rcases List.mem_append.1 hx with hx | hx
  ·exact(h3 x hx).keep hL (by decide) hk
  ·rw [List.mem_singleton.1 hx]
   exact hr.keep hL (by decide) hk
theorem zfo{w:World}{ops:Array Oper}{o:Oper}{a:Act}{K:Act->World->Prop}{Q:Exit->Act->World->Prop}{E:Prop}(hgd:o.guard=none)(s x:Operand)
  (ho:o.op=.call { callee:=.builtin .append,args:=#[s,x],argTypes:=#[339,339]}) (B:Nat) (v:Value) (l:List (Int×List Int×List Int)) (hs:a.eval s=v) (hown:ChO w B v l) (g:Nat) (r:(Int×(Option Addr×Nat×List Int)×(Option Addr×Nat×List Int)))
  (hx:a.eval x=.slice (some ⟨g,0,none⟩) 1 1) (hy:w.heap[g]?=some (.cells (rwC r).toArray 387 (0,0))) (hr:RdO w B r) (hn:l.length<=100000) (hB:B<=w.heap.size)
  (h:∀ g' cap w',ChO w' B (.slice (some ⟨g',0,none⟩) (l.length+1) cap) (l++[rwP r])->Below B w w'->(∀ j,j<w.heap.size->v.ownBlock≠some j->w'.heap[j]?=w.heap[j]?)->K (a.put o.dst (.slice (some ⟨g',0,none⟩) (l.length+1) cap)) w') :
  if Region.wanted o (yielded ops a.tmps)=true then Oper.wp Tryz.prog o a w K Q else E:=by
 obtain⟨i0,hi0,hz0,hz1,hz2⟩:=info_parts znn
 obtain⟨rs,rfl,hL,h3⟩:=hown
 rw [List.length_map] at hn h
 refine step_append_lies w hgd s x 339 ho B 387 i0 _ 3 56 Tryz.underlying339 hi0 hz0 hz1 hz2 rfl (by decide) v rs.length (rs.flatMap rwC) hs hL ⟨g,0,none⟩ 1 1 (rwC r) hx rfl (World.news_of_block hy) (zqH r) (by decide) (by unfold maxLen;omega) (by omega) hB w.heap.size rfl ?_
 intro g' cap w' ho' hg' _ _
 obtain⟨h5,h6⟩:=ChO.grow hL h3 hr hB ho' hg'
 exact h g' cap w' h5 h6 (fun j hj hne=>hg'.block j hj (fun e=>hne e.symm))
theorem OwnV.shape{w:World}{B:Nat}{v:Value}{L:List Int}(h:OwnV w B v L):∃ a c,v=.slice a L.length c:=by
 rcases h.2 with ⟨rfl,h0⟩ | ⟨g,cap,cur,rfl,_⟩
 ·exact⟨none,0,by rw [h0]⟩
 ·exact⟨_,_,rfl⟩
set_option maxHeartbeats 1000000 in
theorem zbf(a:Option Addr)(cap:Nat)(l:List Int)(w:World)(hb:Bs w a cap l) :
  Calls Tryz.prog 140 #[.slice a l.length cap] w fun e w'=>∃ a' c',e=.returned (.slice a' l.length c')/\OwnV w' w.heap.size (.slice a' l.length c') l/\Below w.heap.size w w':=by
 obtain⟨i0,hi,hz0,hz1,hz2⟩:=info_parts qG
 have hl:=hb.2.2.1
 have q22:∀ (w:World) (a:Option Addr) (n c n' c':Nat),(binOp .eql 29 (.slice a n c) (.slice none n' c')).run Tryz.prog w=.ok (.bool a.isNone) w:=fun w a n c n' c'=>Lib.run_eql_slice_nil w _ _ a n c n' c' Tryz.underlying29
 cases a with
 | none =>
  have h0:l=[]:=by
   have h1:=hb.2.2.2.1 rfl
   have h2:=hb.2.1
   exact List.eq_nil_of_length_eq_zero (by omega)
  subst h0
  clear hb
  go_enter Tryz.func140,Tryz.ntmps140
  go_wp2
  go_ret
  exact⟨none,0,rfl,OwnV.nil _ _,Below.refl _ _⟩
 | some ad =>
  have HN:=zb (zrv (hb.below ((Below.refl _ w).alloc (Nat.le_refl _) (.cells #[] 5))))
  clear hb
  go_enter Tryz.func140,Tryz.ntmps140
  go_wp2_with (at_builtin;refine wpList_append_own _ rfl _ _ 29 rfl w.heap.size 5 i0 (.int .u8 0) 1 1 Tryz.underlying29 hi hz0 hz1 hz2 rfl (by decide) _ _ _ rfl (World.ownsRow_made w #[] 0 (Nat.le_refl _) (Nat.zero_le _) (by simp)) ad l.length cap (l.map (Value.int .u8)) rfl (by simp) (za HN) (oneCell_u8 l) (by unfold maxLen;omega) (by omega) (by simp) ?_)
  intro v' w1 hown hgrow hnil
  have hv:OwnV w1 w.heap.size v' l:=hown
  obtain⟨a',c',rfl⟩:=hv.shape
  have HO:=zb hv
  have HG:=zb hgrow
  clear hown HN hv hgrow hnil
  go_wp2
  go_ret
  exact⟨a',c',rfl,za HO,((Below.refl _ w).alloc (Nat.le_refl _) _).grown (za HG) (by simp) (by intro k hk;simp [Value.ownBlock] at hk;omega)⟩
set_option maxHeartbeats 1000000 in
theorem zpp(a a':Option Addr)(cap cap':Nat)(l m:List Int)(w:World)(hbs:Bs w a cap l)(hbs':Bs w a' cap' m)(hlm:l.length=m.length) :
  Calls Tryz.prog 291 #[.slice a l.length cap,.slice a' m.length cap'] w fun e w'=>∃ i:Nat,e=.returned (.int .i64 i)/\First (fun j=>(l.getD j 0 == m.getD j 0)) l.length i/\∃ n,w'=w.drewN n:=by
 have hl:=hbs.2.2.1
 rw [<- hlm]
 have HB:=zb hbs
 have HB':=zb hbs'
 have HLM:=zb hlm
 clear hbs hbs' hlm
 go_enter Tryz.func291,Tryz.ntmps291
 go_wp2
 go_loopw [5] (fun i wr=>∃ k n:Nat,k<=l.length/\i=.int .i64 k/\wr=w.drewN n/\∀ j,j<k->(l.getD j 0 == m.getD j 0)=false) (fun i _=>l.length-(intOf i).toNat)
 case atStart=>exact⟨0,0,by omega,rfl,rfl,fun j hj=>absurd hj (Nat.not_lt_zero j)⟩
 case round =>
  obtain⟨k,n,hk,rfl,rfl,hall⟩:=hrel
  have HA:=zb hall
  clear hall
  by_cases hlt:k<l.length
  ·obtain⟨b,off,rfl,c0⟩:=(za HB).at k hlt
   obtain⟨b',off',rfl,c1⟩:=(za HB').at k (by have:=za HLM;omega)
   have hd:decide ((k:Int)<(l.length:Int))=true:=decide_eq_true (by omega)
   cases hx:(l.getD k 0 == m.getD k 0)
   ·have HX:=zb hx
    have hne:¬ l.getD k 0=m.getD k 0:=by simpa using hx
    clear hx
    generalize l.getD k 0=x at c0 hne
    generalize m.getD k 0=y at c1 hne
    go_wp2_with fail
    go_quiet (fail)
    go_wp2
    go_roundw
    case rel=>exact⟨k+1,n+nq,by omega,by go_num,rfl,First.step (za HA) (za HX)⟩
    case measure=>simp [intOf];omega
   ·have HX:=zb hx
    have he:l.getD k 0=m.getD k 0:=by simpa using hx
    clear hx
    rw [he] at c0
    clear he
    generalize m.getD k 0=y at c0 c1
    go_wp2_with fail
    go_quiet (fail)
    go_wp2
    go_ret
    exact⟨k,rfl,⟨by omega,za HA,fun _=>za HX⟩,n+nq,by rw [World.drewN_drewN]⟩
  ·obtain rfl:k=l.length:=by omega
   have hd:decide ((l.length:Int)<(l.length:Int))=false:=by simp
   go_wp2_with fail
   go_quiet (fail)
   go_wp2
   go_ret
   exact⟨_,rfl,⟨Nat.le_refl _,za HA,fun h=>absurd h (Nat.lt_irrefl _)⟩,n+nq,by rw [World.drewN_drewN]⟩
theorem OwnV.low{w:World}{B B':Nat}{v:Value}{L:List Int}(h:OwnV w B' v L)(hB:B<=B'):OwnV w B v L:=by
 refine⟨h.1,?_⟩
 rcases h.2 with h0 | ⟨g,cap,cur,rfl,hb,h3⟩
 ·exact .inl h0
 ·exact .inr ⟨g,cap,cur,rfl,Nat.le_trans hB hb,h3⟩
theorem zAs{w:World}{B n k:Nat}{z:Int}{sA sB:Option Addr}{cA cB:Nat}{X Y:List Int}(hX:X.length=n)(hY:Y.length=k)(hn:n<=140737488351232/\k<=140737488351232)(h1:Byt X)(h2:Byt Y)(hA:OwnV w B (.slice sA n cA) X)(hB:OwnV w B (.slice sB k cB) Y):RdO w B (z,(sA,cA,X),(sB,cB,Y)):=by
 subst hX hY
 exact⟨⟨h1,hn.1,hA⟩,h2,hn.2,hB⟩
set_option maxRecDepth 100000 in
set_option maxHeartbeats 1000000 in
theorem znH(a a':Option Addr)(cap cap':Nat)(l m:List Int)(w:World)(hb:Bs w a cap l)(hb':Bs w a' cap' m)(hlm:l.length=m.length)(h64:l.length<=6400) :
  Calls Tryz.prog 241 #[.slice a l.length cap,.slice a' l.length cap'] w fun e w'=>∃ v,e=.returned (.tuple #[v,zK 0])/\ChO w' w.heap.size v (dfK l m l.length)/\Below w.heap.size w w':=by
 have HS:=zb (zjP a a' cap cap' l m w hb hb')
 rw [<- hlm,Nat.min_self] at HS
 have HB:=zb hb
 have HB':=zb hb'
 have HLM:=zb hlm
 clear hb hb' hlm
 obtain⟨N,hN⟩:∃ N,l.length=N:=⟨_,rfl⟩
 rw [hN] at h64 HS ⊢
 have HN:=zb hN
 clear hN
 go_enter Tryz.func241,Tryz.ntmps241
 go_wp2_with fail
 refine(za HS).mono ?_
 rintro e w1 ⟨p0,rfl,hf,hb1⟩
 have HF:=zb hf
 have HB1:=zb hb1
 have hp0:=hf.1
 clear hf hb1 HS
 go_wp2_with fail
 go_loopw [6,7] (fun v at' wr=>∃ p:Nat,p<=N/\at'=.int .i64 p/\ChO wr w.heap.size v (dfK l m p)/\Below w.heap.size w wr/\(p<N->l.getD p 0≠m.getD p 0/\(p=0\/l.getD (p-1) 0=m.getD (p-1) 0))) (fun _ at' _=>N-(intOf at').toNat)
 case atStart =>
  have hsm:dfK l m p0=[]:=by
   rw [ze5 (i:=0) (Nat.zero_le _) (fun j _ hj=>by simpa using (za HF).2.1 j hj)]
   rfl
  refine⟨p0,(za HF).1,rfl,by rw [hsm];exact ChO.nil _ _,za HB1,fun h=>⟨by simpa using (za HF).2.2 h,?_⟩⟩
  by_cases h0:p0=0
  ·exact .inl h0
  ·exact .inr (by simpa using (za HF).2.1 (p0-1) (by omega))
 case round =>
  obtain⟨p,hp,rfl,hch,hbel,hpp⟩:=hrel
  by_cases hlt:p<N
  ·obtain⟨hdp,hpz⟩:=hpp hlt
   have hNl:=za HN
   have hNm:=(za HLM).symm.trans hNl
   have hXl:(l.drop p).length=N-p:=by rw [List.length_drop,hNl]
   have hYl:(m.drop p).length=N-p:=by rw [List.length_drop,hNm]
   have HD:Hid (∃ a1 a2,(∀ w',(Instr.slice 29 (.slice a N cap) (some (.int .i64 p)) none none).run Tryz.prog w'=.ok (.slice a1 (N-p) (cap-p)) w')/\(∀ w',(Instr.slice 29 (.slice a' N cap') (some (.int .i64 p)) none none).run Tryz.prog w'=.ok (.slice a2 (N-p) (cap'-p)) w') /\
     Calls Tryz.prog 291 #[.slice a1 (N-p) (cap-p),.slice a2 (N-p) (cap'-p)] wr.drew fun e w'=>∃ d:Nat,e=.returned (.int .i64 d)/\1<=d/\p+d<=N/\(∀ j,p<=j->j<p+d->l.getD j 0≠m.getD j 0)/\(p+d<N->l.getD (p+d) 0=m.getD (p+d) 0)/\Below wr.heap.size wr w'):=zb (by
    have hbw:=(za HB).below hbel
    have hbw':=(za HB').below hbel
    obtain⟨a1,hs1,hx1⟩:=slice_lo Tryz.underlying29 zx hbw p (by omega)
    obtain⟨a2,hs2,hx2⟩:=slice_lo Tryz.underlying29 zx hbw' p (by omega)
    have hc:=zpp a1 a2 _ _ (l.drop p) (m.drop p) wr.drew hx1 hx2 (by rw [hXl,hYl])
    rw [hNl] at hs1
    rw [hNm] at hs2
    rw [hXl,hYl] at hc
    refine⟨a1,a2,hs1,hs2,hc.mono ?_⟩
    rintro e w' ⟨d,rfl,hf,n,rfl⟩
    have hgd:∀ (z:List Int) j,(z.drop p).getD j 0=z.getD (p+j) 0:=fun z j=>by simp [List.getD]
    simp only [hgd] at hf
    have h1:1<=d:=by
     rcases Nat.eq_zero_or_pos d with h0 | h0
     ·subst h0
      have:=hf.2.2 (by omega)
      simp only [Nat.add_zero,beq_iff_eq] at this
      exact absurd this hdp
     ·exact h0
    refine⟨d,rfl,h1,by have:=hf.1;omega,fun j h2 h3=>?_,fun h2=>?_,below_drewN ((Below.refl _ wr).drew) n⟩
    ·have:=hf.2.1 (j-p) (by omega)
     dsimp only at this
     rw [show p+(j-p)=j by omega] at this
     simpa using this
    ·have:=hf.2.2 (by omega)
     simpa using this)
   obtain⟨a1,a2,hs1,hs2,hcd⟩:=za HD
   have HCD:=zb hcd
   have HCH:=zb hch
   have HBEL:=zb hbel
   have hp0:(0:Int)<=(p:Int):=by omega
   have hp1:(p:Int)<=(N:Int):=by omega
   clear HD hcd hch hbel hpp hdp
   go_wp2_with fail
   go_region_with (go_at_call 291;refine(za HCD).mono ?_;rintro e w2 ⟨d,rfl,hd1,hd2,hd3,hd4,hb2⟩)
   have hwp:IntKind.i64.wrap ((p:Int)+(d:Int))=((p+d:Nat):Int):=by rw [IntKind.wrap_i64];omega
   rw [hwp]
   have hBB:=(za HBEL).trans (hb2.mono (za HBEL).size)
   have hch2:=(za HCH).below hb2
   have hXd:((l.drop p).take d).length=d:=by rw [List.length_take,hXl];omega
   have hYd:((m.drop p).take d).length=d:=by rw [List.length_take,hYl];omega
   obtain⟨a3,hs3,hx3⟩:=slice_lohi Tryz.underlying29 zx ((za HB).below hBB) p (p+d) (by omega) (by omega)
   obtain⟨a4,hs4,hx4⟩:=slice_lohi Tryz.underlying29 zx ((za HB').below hBB) p (p+d) (by omega) (by omega)
   rw [Nat.add_sub_cancel_left,hNl] at hs3
   rw [Nat.add_sub_cancel_left,hNm] at hs4
   rw [Nat.add_sub_cancel_left] at hx3 hx4
   have HRUN:=zb (zs1 (za HLM) hpz d hd1 (by omega) hd3)
   generalize hX:(l.drop p).take d=X at *
   generalize hY:(m.drop p).take d=Y at *
   have hch0:ZJ l m p d=((p:Int),X,Y):=by unfold ZJ;rw [hX,hY]
   rw [hch0] at HRUN
   have HC1:=zb (fun w' (hb:Below w2.heap.size w2 w')=>(zbf a3 (cap-p) X w' (hx3.below hb)).mono (R':=fun e w''=>∃ a' c',e=.returned (.slice a' d c')/\OwnV w'' w.heap.size (.slice a' d c') X/\Below w2.heap.size w2 w''/\Below w'.heap.size w' w'') (fun e w'' ⟨a',c',he,ho,hb3⟩=>⟨a',c',by rw [he,hXd],by rw [<- hXd];exact ho.low (Nat.le_trans hBB.size hb.size),hb.trans (hb3.mono hb.size),hb3⟩))
   have HC2:=zb (fun w' (hb:Below w2.heap.size w2 w')=>(zbf a4 (cap'-p) Y w' (hx4.below hb)).mono (R':=fun e w''=>∃ a' c',e=.returned (.slice a' d c')/\OwnV w'' w.heap.size (.slice a' d c') Y/\Below w2.heap.size w2 w''/\Below w'.heap.size w' w'') (fun e w'' ⟨a',c',he,ho,hb3⟩=>⟨a',c',by rw [he,hYd],by rw [<- hYd];exact ho.low (Nat.le_trans hBB.size hb.size),hb.trans (hb3.mono hb.size),hb3⟩))
   rw [hXd] at HC1
   rw [hYd] at HC2
   generalize hE:p+d=e at *
   obtain⟨va,vc,rfl,_⟩:=hch2.chs (by have:=zkv (za HLM) p (by omega);omega)
   have hln:(dfK l m p).length<=100000:=by have:=zkv (za HLM) p (by omega);omega
   have HCH2:=zb hch2
   have HBB:=zb hBB
   have hB2:=hBB.size
   generalize hLL:dfK l m p=LL at *
   have hrw:∀ s1 c1 s2 c2,rwC ((p:Int),(s1,c1,X),(s2,c2,Y))=[.int .i64 p,.slice s1 d c1,.slice s2 d c2]:=fun s1 c1 s2 c2=>by unfold rwC slV;rw [hXd,hYd]
   have HRW:=zb hrw
   have HBY1:=zb hx3.1
   have HBY2:=zb hx4.1
   have he1:(p:Int)<=(e:Int):=by omega
   have he2:(e:Int)<=(N:Int):=by omega
   clear hx3 hx4 hch2 hBB HCH HCD hs1 hs2 hrw hwp hX hY hch0
   go_wp2_with fail
   go_region_law (first
    | (refine zfo (by rfl) (.tmp 35) (.tmp 48) (by rfl) w.heap.size _ LL (by rfl) ((za HCH2).below (hbT.alloc hbT.size _)) wT.heap.size ((p:Int),(sA,cA,X),(sB,cB,Y)) (by rfl) (by rw [za HRW];exact heap_alloc_new _ _) (hrd _) (by omega) (by have:=hbT.size;simp;omega) ?_;intro g9 c9 w9 hch9 hb9 hk9)
    | (go_simp;with_reducible refine(za HC1 _ ?_).mono ?_;(exact(Below.refl _ w2).drew);rintro e3 w3 ⟨sA,cA,rfl,hoA,hbA,hbA3⟩;dsimp only)
    | (go_simp;with_reducible refine(za HC2 _ ?_).mono ?_;(exact hbA);rintro e4 wT ⟨sB,cB,rfl,hoB,hbT,hbB3⟩;dsimp only;have hrd:∀ o,RdO (wT.alloc o) w.heap.size ((p:Int),(sA,cA,X),(sB,cB,Y)):=(fun o=>(zAs hXd hYd ⟨by omega,by omega⟩ (za HBY1) (za HBY2) (hoA.below hbB3) hoB).below ((Below.refl _ wT).alloc (Nat.le_refl _) o))))
   all_goals
    have hL9:LL++[((p:Int),X,Y)]=dfK l m e:=(za HRUN).symm
    have hch9':ChO w9 w.heap.size (.slice (some ⟨g9,0,none⟩) (LL.length+1) c9) (dfK l m e):=by rw [<- hL9];exact hch9
    have hb9':=(za HBB).trans ((hbT.mono hB2).trans (((Below.refl _ wT).alloc (Nat.le_refl _) _).mono (Nat.le_trans hB2 hbT.size) |>.trans hb9))
    have HS:Hid (∃ a5 a6,(∀ w',(Instr.slice 29 (.slice a N cap) (some (.int .i64 e)) none none).run Tryz.prog w'=.ok (.slice a5 (N-e) (cap-e)) w')/\(∀ w',(Instr.slice 29 (.slice a' N cap') (some (.int .i64 e)) none none).run Tryz.prog w'=.ok (.slice a6 (N-e) (cap'-e)) w') /\
      Calls Tryz.prog 290 #[.slice a5 (N-e) (cap-e),.slice a6 (N-e) (cap'-e)] w9.drew fun r w'=>∃ i:Nat,r=.returned (.int .i64 i)/\First (fun j=>(l.getD (e+j) 0 != m.getD (e+j) 0)) (N-e) i/\Below w9.heap.size w9 w'):=zb (by
     obtain⟨a5,hs5,hx5⟩:=slice_lo Tryz.underlying29 zx ((za HB).below hb9') e (by omega)
     obtain⟨a6,hs6,hx6⟩:=slice_lo Tryz.underlying29 zx ((za HB').below hb9') e (by omega)
     have hc:=zjP a5 a6 _ _ (l.drop e) (m.drop e) w9.drew hx5 hx6
     rw [hNl] at hs5
     rw [hNm] at hs6
     rw [List.length_drop,List.length_drop,hNl,hNm,Nat.min_self] at hc
     have hgd:∀ (z:List Int) j,(z.drop e).getD j 0=z.getD (e+j) 0:=fun z j=>by simp [List.getD]
     simp only [hgd] at hc
     exact⟨a5,a6,hs5,hs6,hc.mono fun r w' ⟨i,h1,h2,h3⟩=>⟨i,h1,h2,(Below.refl _ w9).drew.trans h3⟩⟩)
    obtain⟨a5,a6,hs5,hs6,hcs⟩:=za HS
    have HCS:=zb hcs
    have HCH9:=zb hch9'
    have HB9:=zb hb9'
    clear hcs hch9' hb9' hch9 hb9 hk9 hrd hoA hoB hbA hbA3 hbT hbB3 HC1 HC2 HCH2 HBB hL9 HRUN HS hs3 hs4
    have he0:(0:Int)<=(e:Int):=by omega
    go_wp2_with fail
    go_region_with (go_at_call 290;refine(za HCS).mono ?_;rintro r w10 ⟨q,rfl,hq,hb10⟩)
    have hwq:IntKind.i64.wrap ((e:Int)+(q:Int))=((e+q:Nat):Int):=by rw [IntKind.wrap_i64];have:=hq.1;omega
    rw [hwq]
    have HQ:=zb hq
    have HB10:=zb hb10
    have hq1:=hq.1
    clear hwq hq hb10
    obtain⟨e2,he2q⟩:∃ e2,e+q=e2:=⟨_,rfl⟩
    rw [he2q]
    have HEQ:=zb he2q
    have hle2:e2<=N:=by omega
    have hlt2:p<e2:=by omega
    clear he2q
    go_simp
    go_wp2
    go_roundw
    case rel =>
     have he2q:=za HEQ
     subst he2q
     refine⟨e+q,by omega,rfl,?_,(za HB9).trans ((za HB10).mono (za HB9).size),fun h=>⟨?_,.inr ?_⟩⟩
     ·rw [ze5 (i:=e) (by omega) (fun j h1 h2=>by
       have:=(za HQ).2.1 (j-e) (by omega)
       dsimp only at this
       rw [show e+(j-e)=j by omega] at this
       simpa using this)]
      exact(za HCH9).below (za HB10)
     ·simpa using (za HQ).2.2 (by omega)
     ·have h0:q≠0:=by
       intro h0
       subst h0
       have h1:=(za HQ).2.2 (by omega)
       have h2:=hd4 (by omega)
       simp only [Nat.add_zero] at h1
       rw [h2] at h1
       simp at h1
      have:=(za HQ).2.1 (q-1) (by omega)
      dsimp only at this
      rw [show e+(q-1)=e+q-1 by omega] at this
      simpa using this
    case measure=>simp [intOf];omega
  ·obtain rfl:p=N:=by omega
   obtain⟨va,vc,rfl,_⟩:=hch.chs (by have:=zkv (za HLM) l.length (Nat.le_refl _);rw [za HN] at this;omega)
   have HC:=zb hch
   have HBL:=zb hbel
   clear hch hbel hpp
   go_wp2
   go_ret2
   exact⟨_,rfl,za HC,za HBL⟩
theorem zqe{s t:ByteArray}(h:s.data.toList=t.data.toList):s=t:=by
 cases s with | mk x=>cases t with | mk y =>
 simp at h
 rw [h]
theorem zfk{s t:ByteArray}:(s.toList == t.toList)=true ↔ s=t:=by
 constructor
 ·intro h
  have:=eq_of_beq h
  rw [ByteArray.toList_eq,ByteArray.toList_eq] at this
  exact zqe this
 ·intro h
  rw [h]
  exact beq_self_eq_true _
theorem QW{s t:ByteArray}(h:s≠t):(s.toList == t.toList)=false:=by
 cases hq:(s.toList == t.toList) with
 | false=>rfl
 | true=>exact absurd (zfk.1 hq) h
theorem zqf{l m:List Int}(hl:Byt l)(hm:Byt m):strOf l=strOf m ↔ l=m:=by
 constructor
 ·intro h
  rw [<- strL_strOf l hl,<- strL_strOf m hm,h]
 ·intro h;rw [h]
theorem zgn(a1 a2:Option Addr)(c1 c2:Nat)(l1 l2:List Int)(w:World)(h1:Bs w a1 c1 l1)(h2:Bs w a2 c2 l2) :
  Calls Tryz.prog 238 #[.slice a1 l1.length c1,.slice a2 l2.length c2] w fun r w'=>r=.returned (.bool (decide (l1=l2)))/\w=w':=by
 have hs1:=conv_str (P:=Tryz.prog) (t:=29) (e:=9) Tryz.underlying29 Tryz.underlying5 Tryz.underlying9 h1
 have hs2:=conv_str (P:=Tryz.prog) (t:=29) (e:=9) Tryz.underlying29 Tryz.underlying5 Tryz.underlying9 h2
 have he:((strOf l1).toList == (strOf l2).toList)=decide (l1=l2):=by
  by_cases e:l1=l2
  ·rw [decide_eq_true e,e];exact zfk.2 rfl
  ·rw [decide_eq_false e];exact QW (fun h=>e ((zqf h1.1 h2.1).1 h))
 generalize decide (l1=l2)=r at *
 generalize strOf l1=s1 at *
 generalize strOf l2=s2 at *
 generalize l1.length=n1 at *
 generalize l2.length=n2 at *
 clear h1 h2
 go_enter Tryz.func238,Tryz.ntmps238
 go_wp2
 go_ret
 exact⟨rfl,rfl⟩
def chV(x:Int)(a1:Option Addr)(n1 c1:Nat)(a2:Option Addr)(n2 c2:Nat):Value:=.agg #[.int .i64 x,.slice a1 n1 c1,.slice a2 n2 c2]
theorem OwnV.row{w:World}{B:Nat}{a:Option Addr}{cap:Nat}{L:List Int}(h:OwnV w B (.slice a L.length cap) L)(hne:L≠[]):∃ g cur,a=some ⟨g,0,none⟩/\Row w B g cap cur L/\cap<=maxLen:=by
 rcases h.2 with ⟨_,h0⟩ | ⟨g,c,cur,hv,hb,h2,h3,h4,h5,h6⟩
 ·exact absurd (List.eq_nil_of_length_eq_zero h0) hne
 ·simp only [Value.slice.injEq,true_and] at hv
  obtain⟨rfl,rfl⟩:=hv
  exact⟨g,cur,rfl,⟨hb,h2,h3,by omega,by rw [Nat.mul_one] at h6;exact h6⟩,h4⟩
theorem zdm{l:List (Int×List Int×List Int)}{k:Nat}(h:k<l.length):l.take (k+1)=l.take k++[l.getD k (0,[],[])]:=by
 rw [List.take_succ_eq_append_getElem h]
 congr 2
 simp [List.getD,h]
end Go.Proofs.YtchmlnmhbfaclaaGreatDoor
