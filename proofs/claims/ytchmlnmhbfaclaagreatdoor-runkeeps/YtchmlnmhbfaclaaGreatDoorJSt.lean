/-
  Parts of the proofs, joined by program.
-/
import Derived.Test.YtchmlnmhbfaclaaGreatDoorJPh
import Derived.Test.YtchmlnmhbfaclaaGreatDoorJHp
import Derived.Test.YtchmlnmhbfaclaaGreatDoorJPgp
import Derived.Test.YtchmlnmhbfaclaaGreatDoorJDfp
import Derived.Test.YtchmlnmhbfaclaaGreatDoorJDfr
import Derived.Test.YtchmlnmhbfaclaaGreatDoorJIm
import Derived.Test.YtchmlnmhbfaclaaGreatDoorJPg
import Derived.Test.YtchmlnmhbfaclaaGreatDoorJCut
import Derived.Test.YtchmlnmhbfaclaaGreatDoorJVw
import Derived.Test.YtchmlnmhbfaclaaGreatDoorJCi
import Derived.Deep.RegionHeld3
namespace Go.Proofs.YtchmlnmhbfaclaaGreatDoor
open Go.RowKit
set_option linter.unusedVariables false
def zin(t gk x g:Nat)(k:Nat):Prop:=k=t\/k=gk\/foot x g k
structure Sto (w0 w:World) (t p q:Nat) (S:Nat->Prop) (D:DS) (s:Int) (m:Nat) (x g c:Nat) (L:List Int) (gk ck:Nat) (K:List Int) (cut:Bool):Prop where
 blk:w.heap[t]?=some (.cells #[.pointer (some ⟨p,0,none⟩),.pointer (some ⟨q,0,none⟩),.pointer (some ⟨x,0,none⟩),.slice (some ⟨gk,0,none⟩) K.length ck,.bool cut] 218 (0,0))
 bsd:Bsd w0 w p q S D s (zin t gk x g)
 hp:Hp w w0.heap.size x g c L
 kept:∃ cur,Row w w0.heap.size gk ck cur K
 kb:Byt K
 kf:Fine K
 cnt:Zk D.secs.length=m
 len:L.length=32 * m
 klen:K.length=32 * m
 n1:t≠gk
 n2:¬ foot x g t
 n3:¬ foot x g gk
section
variable {w0 w w':World} {t p q:Nat} {S S':Nat->Prop} {D D':DS} {s s':Int} {m x g c g' c':Nat} {L L':List Int} {gk ck:Nat} {K:List Int} {cut:Bool}
theorem Sto.tlt(h:Sto w0 w t p q S D s m x g c L gk ck K cut):t<w.heap.size:=(Array.getElem?_eq_some_iff.1 h.blk).1
theorem Sto.klt(h:Sto w0 w t p q S D s m x g c L gk ck K cut):gk<w.heap.size:=by obtain⟨cur,hr⟩:=h.kept;exact hr.lt
theorem Sto.c0(h:Sto w0 w t p q S D s m x g c L gk ck K cut):w.cell? ⟨t,0,none⟩=some (.pointer (some ⟨p,0,none⟩)):=by rw [cell_of_row _ _ _ _ _ _ h.blk];rfl
theorem Sto.c1(h:Sto w0 w t p q S D s m x g c L gk ck K cut):w.cell? ⟨t,1,none⟩=some (.pointer (some ⟨q,0,none⟩)):=by rw [cell_of_row _ _ _ _ _ _ h.blk];rfl
theorem Sto.c2(h:Sto w0 w t p q S D s m x g c L gk ck K cut):w.cell? ⟨t,2,none⟩=some (.pointer (some ⟨x,0,none⟩)):=by rw [cell_of_row _ _ _ _ _ _ h.blk];rfl
theorem Sto.c3(h:Sto w0 w t p q S D s m x g c L gk ck K cut):w.cell? ⟨t,3,none⟩=some (.slice (some ⟨gk,0,none⟩) K.length ck):=by rw [cell_of_row _ _ _ _ _ _ h.blk];rfl
theorem Sto.c4(h:Sto w0 w t p q S D s m x g c L gk ck K cut):w.cell? ⟨t,4,none⟩=some (.bool cut):=by rw [cell_of_row _ _ _ _ _ _ h.blk];rfl
theorem Sto.fr(h:Sto w0 w t p q S D s m x g c L gk ck K cut)(i:Nat):w.frozen? ⟨t,i,none⟩=false:=frozen_of_row w t i _ _ h.blk
theorem Sto.size(h:Sto w0 w t p q S D s m x g c L gk ck K cut):w0.heap.size<=w.heap.size:=h.bsd.size
theorem Sto.base(h:Sto w0 w t p q S D s m x g c L gk ck K cut):Below w0.heap.size w0 w:=h.bsd.live.bel
theorem Sto.m200(h:Sto w0 w t p q S D s m x g c L gk ck K cut):9<=m/\m<=200/\48+m<=D.secs.length:=by
 have h1:=h.hp.fine.len
 have h2:=h.len
 have h3:=h.cnt
 unfold Zk at h3
 split at h3 <;> omega
theorem Sto.kbs(h:Sto w0 w t p q S D s m x g c L gk ck K cut):Bs w (some ⟨gk,0,none⟩) ck K:=by
 obtain⟨cur,hr⟩:=h.kept
 exact hr.bs h.kb (by have:=h.kf.len;omega)
theorem Sto.below(h:Sto w0 w t p q S D s m x g c L gk ck K cut)(hb:Below w.heap.size w w'):Sto w0 w' t p q S D s m x g c L gk ck K cut :=
 ⟨(hb.block t h.tlt).trans h.blk,h.bsd.below hb,h.hp.below hb,(by obtain⟨cur,hr⟩:=h.kept;exact⟨cur,hr.below hb⟩),h.kb,h.kf,h.cnt,h.len,h.klen,h.n1,h.n2,h.n3⟩
theorem Row.same{w w':World}{B g c:Nat}{cur:Array Value}{L:List Int}(h:Row w B g c cur L)(e:w'.heap[g]?=w.heap[g]?):Row w' B g c cur L:=⟨h.1,e.trans h.2.1,h.2.2⟩
theorem Sto.heap(h:Sto w0 w t p q S D s m x g c L gk ck K cut)(hh:Hp w' w0.heap.size x g' c' L')(ht:Turn (foot x g) (foot x g') w w')(hl:L'.length=L.length):Sto w0 w' t p q S D s m x g' c' L' gk ck K cut:=by
 refine⟨(ht.block t h.tlt h.n2).trans h.blk,h.bsd.other ht (fun k hk=>.inr (.inr hk)) (fun k hk=>⟨?_,fun h1=>?_⟩),hh,?_,h.kb,h.kf,h.cnt,hl.trans h.len,h.klen,h.n1,fun hf=>h.n2 (ht.foot t h.tlt hf),fun hf=>h.n3 (ht.foot gk h.klt hf)⟩
 ·rcases hk with rfl | rfl | rfl | rfl
  ·exact Nat.lt_of_lt_of_le h.tlt ht.size
  ·exact Nat.lt_of_lt_of_le h.klt ht.size
  ·exact hh.plt
  ·exact hh.glt
 ·rcases hk with hk | hk | hk
  ·exact .inl hk
  ·exact .inr (.inl hk)
  ·exact .inr (.inr (ht.foot k h1 hk))
 ·obtain⟨cur,hr⟩:=h.kept
  exact⟨cur,hr.same (ht.block gk h.klt h.n3)⟩
theorem Sto.pages(h:Sto w0 w t p q S D s m x g c L gk ck K cut)(hl:Live w0 w' p S' D')(hp:PgAt w' q p s')(ho:¬ S' q)(ht:Turn (plus S q) (plus S' q) w w')(hc:D'.secs.length=D.secs.length):Sto w0 w' t p q S' D' s' m x g c L gk ck K cut:=by
 have hk:=fun k hk=>h.bsd.keep ht k hk
 refine⟨(hk t (.inl rfl)).trans h.blk,h.bsd.pages hl hp ho ht,?_,?_,h.kb,h.kf,by rw [hc];exact h.cnt,h.len,h.klen,h.n1,h.n2,h.n3⟩
 ·obtain⟨cur,hr⟩:=h.hp.row
  exact⟨h.hp.bp,h.hp.ne,(hk x (.inr (.inr (.inl rfl)))).trans h.hp.blk,⟨cur,hr.same (hk g (.inr (.inr (.inr rfl))))⟩,h.hp.byt,h.hp.fine⟩
 ·obtain⟨cur,hr⟩:=h.kept
  exact⟨cur,hr.same (hk gk (.inr (.inl rfl)))⟩
theorem Sto.keep(h:Sto w0 w t p q S D s m x g c L gk ck K cut){gn cn:Nat}{cur:Array Value}{M:List Int}(hr:Row w w0.heap.size gn cn cur M)(hb:Byt M)(hf:Fine M)(hM:M.length=32 * m)(h1:¬ plus S q gn)(h2:gn≠t)(h3:¬ foot x g gn) :
  Sto w0 (w.setCell ⟨t,3,none⟩ (.slice (some ⟨gn,0,none⟩) M.length cn)) t p q S D s m x g c L gn cn M cut:=by
 have hs:=heap_setCell_same w t 3 _ _ (.slice (some ⟨gn,0,none⟩) M.length cn) h.blk
 have ho:∀ k,k≠t->(w.setCell ⟨t,3,none⟩ (.slice (some ⟨gn,0,none⟩) M.length cn)).heap[k]?=w.heap[k]?:=fun k hk=>heap_setCell_other _ _ _ _ hk
 have hT:Turn (fun k=>k=t) (fun k=>k=t) w (w.setCell ⟨t,3,none⟩ (.slice (some ⟨gn,0,none⟩) M.length cn)):=Turn.setCell w _ rfl
 refine⟨by rw [hs];rfl,?_,?_,⟨cur,hr.same (ho gn h2)⟩,hb,hf,h.cnt,h.len,hM,fun e=>h2 e.symm,h.n2,h3⟩
 ·have hb1:=h.bsd.other (T':=fun k=>k=t\/foot x g k) hT (fun k hk=>.inl hk) (fun k hk=>⟨?_,fun _=>?_⟩)
  ·have hsz:=hT.size
   refine⟨hb1.live,hb1.pg,hb1.out,hb1.base,fun k hk=>?_,fun k hk=>?_,fun k hk=>?_⟩
   ·rcases hk with hk | rfl | hk
    ·exact hb1.apart k (.inl hk)
    ·exact h1
    ·exact hb1.apart k (.inr hk)
   ·rcases hk with hk | rfl | hk
    ·exact hb1.tlt k (.inl hk)
    ·exact Nat.lt_of_lt_of_le hr.lt hsz
    ·exact hb1.tlt k (.inr hk)
   ·rcases hk with hk | rfl | hk
    ·exact hb1.tb k (.inl hk)
    ·exact hr.1
    ·exact hb1.tb k (.inr hk)
  ·rcases hk with rfl | rfl | rfl
   ·exact Nat.lt_of_lt_of_le h.tlt hT.size
   ·exact Nat.lt_of_lt_of_le h.hp.plt hT.size
   ·exact Nat.lt_of_lt_of_le h.hp.glt hT.size
  ·rcases hk with hk | hk
   ·exact .inl hk
   ·exact .inr (.inr hk)
 ·obtain⟨cur2,hr2⟩:=h.hp.row
  exact⟨h.hp.bp,h.hp.ne,(ho x (fun e=>h.n2 (.inl e.symm))).trans h.hp.blk,⟨cur2,hr2.same (ho g (fun e=>h.n2 (.inr e.symm)))⟩,h.hp.byt,h.hp.fine⟩
end
end Go.Proofs.YtchmlnmhbfaclaaGreatDoor
namespace Go.Proofs.YtchmlnmhbfaclaaGreatDoor
open Go.RowKit Go.Maps Go.Sort Go.Shelf
set_option linter.unusedVariables false
set_option maxRecDepth 100000 in
theorem zdp(a a':Option Addr)(c c' m N:Nat)(K L:List Int)(w:World)(hb:Bs w a c K)(hb':Bs w a' c' L)(hN:N=32 * m)(hK:K.length=N)(hL:L.length=N)(hm:m<=200) :
  Calls Tryz.prog 204 #[.slice a N c,.slice a' N c'] w fun e w'=>∃ v,e=.returned (.tuple #[v,.nilIface])/\w'.ownsRow w.heap.size 3 1 v (qz K L m).length (((qz K L m).map (fun i:Nat=>(i:Int))).map encZ)/\Below w.heap.size w w':=by
 have hlm:K.length=L.length:=hK.trans hL.symm
 have hdy:=znH a a' c c' K L w hb hb' hlm (by omega)
 obtain⟨h0,h1⟩:=zp1 (K:=K) (L:=L) (m:=m) (by omega) (by omega) hm
 have hfew:=zkv hlm K.length (Nat.le_refl _)
 rw [zf,hK] at hdy
 rw [hK] at h0 h1 hfew
 have HD:=zb hdy
 have HP:Hid (∀ (W:World) (al:Option Addr) (cl:Nat),Chs W al cl (dfK K L N)->Calls Tryz.prog 242 #[.slice al (dfK K L N).length cl] W fun e w'=>∃ v,e=.returned (.tuple #[v,.nilIface])/\w'.ownsRow W.heap.size 3 1 v (qz K L m).length (((qz K L m).map (fun i:Nat=>(i:Int))).map encZ)/\Below W.heap.size W w'):=zb (fun W al cl hl=>by
  have:=zjH al cl (dfK K L N) W hl h0 (by omega)
  rw [h1,List.length_map] at this
  exact this)
 have hfl:(dfK K L N).length<=6400:=by omega
 clear hb hb' hdy h0 h1 hfew hK hL hlm hN hm
 generalize qz K L m=DR at *
 generalize dfK K L N=DL at *
 go_enter Tryz.func204,Tryz.ntmps204
 go_wp2_with fail
 refine(za HD).mono ?_
 rintro e w1 ⟨v,rfl,hch,hb1⟩
 obtain⟨al,cl,rfl,hcs⟩:=hch.chs (by omega)
 have HP1:=zb (za HP w1 al cl hcs)
 have HB1:=zb hb1
 clear hch hcs hb1 HD HP
 generalize DL.length=n at *
 go_wp2_with fail
 refine(za HP1).mono ?_
 rintro e w2 ⟨v2,rfl,hrow,hb2⟩
 have HR:=zb (ownsRow_base_a (base':=w.heap.size) hrow (za HB1).size)
 have HB2:=zb ((za HB1).trans (hb2.mono (za HB1).size))
 clear hrow hb2 HP1
 go_wp2
 go_ret2
 exact⟨v2,rfl,za HR,za HB2⟩
def pgV(g c:Nat)(i:Nat):List Value:=[.int .i64 (i:Int),.slice (some ⟨g,32 * i,none⟩) 32 (c-32 * i)]
theorem zya(g c i:Nat):(pgV g c i).length=2:=rfl
theorem zx9(g c i:Nat):∀ u∈pgV g c i,u.oneCell'=true:=by
 intro u hu
 unfold pgV at hu
 rcases List.mem_cons.1 hu with rfl | hu
 ·rfl
 rw [List.mem_singleton.1 hu]
 rfl
theorem zvj:(Tryz.prog.info? 84).map (fun i=>(i.zero,i.size,i.bytes))=some (some (.agg #[.int .i64 0,.slice none 0 0]),2,32):=by kernel_rfl
theorem zBP{w:World}{g c:Nat}{L:List Int}{m i:Nat}(hb:Bs w (some ⟨g,0,none⟩) c L)(hL:L.length=32 * m)(hi:i<m):Bs w (some ⟨g,32 * i,none⟩) (c-32 * i) (prt L i):=by
 have hlen:=zaJ hL hi
 obtain⟨h1,h2,h3,h4,h5⟩:=hb
 refine⟨zrb h1 i,by omega,by omega,fun e=>(by cases e),fun _=>⟨g,32 * i,rfl,fun j hj=>?_⟩⟩
 obtain⟨b,off,e,hc⟩:=h5 (by intro e;rw [e] at hL;simp at hL;omega)
 simp only [Option.some.injEq,Addr.mk.injEq,and_true] at e
 obtain⟨rfl,rfl⟩:=e
 have:=hc (32 * i+j) (by omega)
 rw [Nat.zero_add] at this
 rw [this,zaB (by omega)]
theorem Lst.pgsO{w:World}{B:Nat}{v:Value}{g c m:Nat}{L:List Int}{l:List Nat}{S:Nat->Prop}(h:Lst (pgV g c) 2 84 w B v l)(hb:Bs w (some ⟨g,0,none⟩) c L)(hL:L.length=32 * m)(hl:∀ i∈l,i<m)(hm:m<=200)(hn:l.length<=1000)(hS:∀ k,S k->k<B)(hg:¬ S g) :
  ∃ a cap,v=.slice a l.length cap/\PgsO w S a cap (l.map fun i:Nat=>((i:Int),prt L i)):=by
 have hblk:=h.block
 obtain⟨a,cap,rfl,hs⟩:=h.sls (zya g c) (by omega)
 refine⟨a,cap,rfl,by rw [List.length_map];exact hs.1,by rw [List.length_map];omega,fun hne=>?_⟩
 obtain⟨b,off,rfl,hc⟩:=hs.2.2.2 (fun e=>hne (by rw [e];rfl))
 refine⟨b,off,rfl,fun hb2=>by have h1:=hS b hb2;have h2:=hblk b rfl;omega,fun i hi=>?_⟩
 rw [List.length_map] at hi
 have e:l[i]?=some l[i]:=List.getElem?_eq_getElem hi
 have eg:(l.map fun i:Nat=>((i:Int),prt L i)).getD i (0,[])=((l[i]:Int),prt L l[i]):=by simp [List.getD,hi]
 have hlt:=hl _ (List.getElem_mem hi)
 rw [eg]
 dsimp only
 have c0:=hc i _ e 0 _ rfl
 have c1:=hc i _ e 1 _ rfl
 rw [zaJ hL hlt]
 refine⟨by rw [Nat.add_zero] at c0;exact c0,some ⟨g,32 * l[i],none⟩,c-32 * l[i],by rw [Nat.add_assoc] at c1;exact c1,zBP hb hL hlt,fun _ x hx=>?_,by omega,by omega⟩
 obtain rfl:=Option.some.inj hx
 exact hg
theorem zxD{P:Program}{t:TypeId}(hu:P.underlying t=some (.slice 5))(hsz:(P.info? 5).map (·.size)=some 1)(g c N x:Nat)(hn:N<=c)(hlt:x<N)(w':World) :
  (Instr.slice t (.slice (some ⟨g,0,none⟩) N c) (some (.int .i64 x)) none none).run P w'=.ok (.slice (some ⟨g,x,none⟩) (N-x) (c-x)) w':=by
 have he:=elem_u8 hu
 rw [run_slice_l (P:=P) (w:=w') t (some ⟨g,0,none⟩) N c (by rw [he];exact hu) .i64 x (by omega) (by omega),he,run_size_u8 w' hsz]
 have t1:(x:Int).toNat=x:=Int.toNat_natCast x
 simp only [Result.andThen,sliced,t1]
 rw [if_neg (by omega)]
 simp [Addr.add]
 exact fun h=>h.symm
theorem zxE{P:Program}{t:TypeId}(hu:P.underlying t=some (.slice 5))(hsz:(P.info? 5).map (·.size)=some 1)(g c N x:Nat)(hn:32<=c)(w':World) :
  (Instr.slice t (.slice (some ⟨g,x,none⟩) N c) none (some (.int .i64 32)) none).run P w'=.ok (.slice (some ⟨g,x,none⟩) 32 c) w':=by
 have he:=elem_u8 hu
 rw [run_slice_h (P:=P) (w:=w') t (some ⟨g,x,none⟩) N c (by rw [he];exact hu) .i64 32 (by omega) (by omega),he,run_size_u8 w' hsz]
 simp only [Result.andThen,sliced]
 rw [if_neg (by omega)]
 simp [Addr.add]
theorem zdz{w:World}{B:Nat}{v:Value}{l:List Nat}(h:w.ownsRow B 3 1 v l.length ((l.map (fun i:Nat=>(i:Int))).map encZ)):∃ a c,v=.slice a l.length c/\l.length<=c/\∀ (j i:Nat),l[j]?=some i->∃ g,a=some ⟨g,0,none⟩/\w.cell? ⟨g,j,none⟩=some (.int .i64 (i:Int)):=by
 rcases h.2 with ⟨rfl,h0⟩ | ⟨g,cap,cur,rfl,hB,hc,h3,h4,h5,h6⟩
 ·refine⟨none,0,by rw [h0],by omega,fun j i hj=>?_⟩
  have hl0:=List.eq_nil_of_length_eq_zero h0
  subst hl0
  simp at hj
 ·refine⟨some ⟨g,0,none⟩,cap,rfl,h3,fun j i hj=>⟨g,rfl,?_⟩⟩
  have hlt:=(List.getElem?_eq_some_iff.1 hj).1
  have q:((l.map (fun i:Nat=>(i:Int))).map encZ)[j]?=some (.int .i64 (i:Int)):=by simp [hj,encZ]
  rw [<- h6,List.getElem?_take,if_pos (by omega)] at q
  rw [cell_of_row _ _ _ _ _ _ hc]
  simpa using q
section
variable {w0 w:World} {p q:Nat} {S:Nat->Prop} {D:DS} {s:Int} {m:Nat}
set_option maxRecDepth 100000 in
set_option maxHeartbeats 1000000 in
theorem zer(h:Live w0 w p S D)(hq:PgAt w q p s)(hqS:¬ S q)(hq0:w0.heap.size<=q)(hc:Zk D.secs.length=m)(hm:m<=200)(h0:0<=s)(h1:s<4294967295){a:Option Addr}{ca N:Nat}{K:List Int}(hk:Bs w a ca K)(hN:N=32 * m)(hK:K.length=N)
  {g cn:Nat} {L:List Int} (hl:Bs w (some ⟨g,0,none⟩) cn L) (hL:L.length=N) (hg:¬ S g) :
  Calls Tryz.prog 153 #[.pointer (some ⟨q,0,none⟩),.slice a N ca,.slice (some ⟨g,0,none⟩) N cn] w fun e w'=>e=.returned (zK (zc D s m (dfP K L m)).2.2)/\∃ S',Live w0 w' p S' (zc D s m (dfP K L m)).1/\PgAt w' q p (zc D s m (dfP K L m)).2.1/\¬ S' q/\Turn (plus S q) (plus S' q) w w':=by
 have HCH:=zb (zdp a (some ⟨g,0,none⟩) ca cn m N K L w hk hl hN hK hL hm)
 have hLN:L.length=32 * m:=by omega
 have hcap:N<=cn:=by have:=hl.2.1;omega
 have hlt:∀ i∈qz K L m,i<m:=fun i hi=>(zdE.1 hi).1
 have hfew:(qz K L m).length<=200:=by
  have:(qz K L m).length<=m:=by
   unfold qz
   exact Nat.le_trans (List.length_filter_le _ _) (by simp)
  omega
 have HLT:=zb hlt
 have HC:Hid (∀ (W:World) (a2:Option Addr) (c2:Nat),Below w.heap.size w W->PgsO W S a2 c2 (dfP K L m)->Calls Tryz.prog 206 #[.pointer (some ⟨q,0,none⟩),.slice a2 (qz K L m).length c2] W fun e w'=>e=.returned (zK (zc D s m (dfP K L m)).2.2)/\∃ S',Live w0 w' p S' (zc D s m (dfP K L m)).1/\PgAt w' q p (zc D s m (dfP K L m)).2.1/\¬ S' q/\Turn (plus S q) (plus S' q) w w'):=zb (fun W a2 c2 hb hp=>by
  have:=zpv (h.below hb) (hq.below hb) hqS hq0 a2 c2 (dfP K L m) hp hc h0 h1
  rw [zbF] at this
  refine this.mono ?_
  rintro e w' ⟨he,S',h2,h3,h4,ht⟩
  exact⟨he,S',h2,h3,h4,(Turn.of_below hb).trans ht⟩)
 have HPO:Hid (∀ (W:World) (B:Nat) (v:Value),Below w.heap.size w W->w.heap.size<=B->Lst (pgV g cn) 2 84 W B v (qz K L m)->∃ a2 c2,v=.slice a2 (qz K L m).length c2/\PgsO W S a2 c2 (dfP K L m)):=zb (fun W B v hb hB hv=>hv.pgsO (hl.below hb) hLN hlt hm (by omega) (fun k hk=>Nat.lt_of_lt_of_le (h.dev.lt k hk) hB) hg)
 obtain⟨ip,hp0,hp1,hp2,hp3⟩:=info_parts zvj
 have hlo:=fun(i:Nat) (hi:i<m)=>zxD (P:=Tryz.prog) (t:=29) Tryz.underlying29 zx g cn N (32 * i) hcap (by omega)
 have hhi:=fun(i:Nat) (hi:i<m)=>zxE (P:=Tryz.prog) (t:=29) Tryz.underlying29 zx g (cn-32 * i) (N-32 * i) (32 * i) (by omega)
 have HLO:=zb hlo
 have HHI:=zb hhi
 clear h hq hk hl hK hL hLN hlt hlo hhi hN hc
 generalize zc D s m (dfP K L m)=X at *
 generalize dfP K L m=DP at *
 generalize qz K L m=DR at *
 go_enter Tryz.func153,Tryz.ntmps153
 go_wp2_with fail
 refine(za HCH).mono ?_
 rintro e w1 ⟨v,rfl,hrow,hb1⟩
 obtain⟨an,cn2,rfl,hcap2,hcell⟩:=zdz hrow
 have HCL:=zb hcell
 have HB1:=zb hb1
 clear hrow hcell hb1 HCH
 generalize hn:DR.length=n at *
 have HN:=zb hn
 clear hn
 go_wp2_with fail
 go_loopw [9,23] (fun xv kv wr=>∃ k:Nat,k<=n/\kv=.int .i64 k/\Lst (pgV g cn) 2 84 wr w1.heap.size xv (DR.take k)/\Below w1.heap.size w1 wr) (fun _ kv _=>n-(intOf kv).toNat)
 case atStart=>exact⟨0,Nat.zero_le _,rfl,Lst.nil _ _,Below.refl _ _⟩
 case round =>
  obtain⟨k,hk,rfl,hlst,hbel⟩:=hrel
  by_cases hlt:k<n
  ·have hkl:k<DR.length:=by rw [za HN];exact hlt
   obtain⟨i,hi⟩:∃ i,DR[k]?=some i:=⟨_,List.getElem?_eq_getElem hkl⟩
   obtain⟨gd,rfl,hcd⟩:=za HCL k i hi
   have c0:=(hbel.cell (p:=⟨gd,k,none⟩) (block_lt_of_cell hcd)).trans hcd
   have him:=za HLT i (List.mem_of_getElem? hi)
   have hs1:=za HLO i him
   have hs2:=za HHI i him
   rw [show((32 * i:Nat):Int)=(i:Int) * 32 by omega] at hs1
   have hsucc:DR.take (k+1)=DR.take k++[i]:=by rw [List.take_add_one,hi];rfl
   have hBr:=hbel.size
   have HO:=zb (hlst.below ((Below.refl _ wr).alloc (Nat.le_refl _) (.cells (pgV g cn i).toArray 84)))
   have HGN:Hid ((wr.alloc (.cells (pgV g cn i).toArray 84)).heap[wr.heap.size]?=some (.cells (pgV g cn i).toArray 84 (0,0))):=zb (heap_alloc_new wr _)
   have HBA:=zb ((hbel).alloc hBr (.cells (pgV g cn i).toArray 84))
   have HSUCC:=zb hsucc
   have htl:Hid ((DR.take k).length<=200):=zb (by rw [List.length_take];omega)
   have e0:(k:Int)<(n:Int):=by omega
   have e1:(0:Int)<=(k:Int):=by omega
   have e2:(i:Int)<200:=by omega
   have e3:(0:Int)<=(i:Int):=by omega
   clear hlst hcd hsucc hi hbel
   go_wp2_with (at_builtin;refine zr rfl _ _ 82 rfl w1.heap.size ip (.agg #[.int .i64 0,.slice none 0 0]) 32 Tryz.underlying82 hp0 hp1 hp2 hp3 rfl (by decide) (by decide) _ _ rfl (za HO) wr.heap.size i rfl (za HGN) rfl (zx9 _ _ _) (Nat.le_trans (za htl) (by omega)) (by simp;omega) ?_)
   intro v9 w9 hl9 hb9
   rw [<- za HSUCC] at hl9
   have HL9:=zb hl9
   have HB9:=zb ((za HBA).trans hb9)
   clear hl9 hb9 HO HGN HBA HSUCC htl
   go_wp2
   go_roundw
   case rel=>exact⟨k+1,by omega,by go_num,za HL9,za HB9⟩
   case measure=>simp [intOf];omega
  ·obtain rfl:k=n:=by omega
   rw [<- za HN,List.take_length] at hlst
   have hbw:=(za HB1).trans (hbel.mono (za HB1).size)
   obtain⟨a2,c2,rfl,hpo⟩:=za HPO wr w1.heap.size _ hbw (za HB1).size hlst
   have hcm:=za HC wr a2 c2 hbw hpo
   have HCM:=zb hcm
   clear hlst hbel hpo hcm hbw
   go_wp2_with fail
   refine(za HCM).mono ?_
   rintro e w3 ⟨rfl,hrest⟩
   have HR:=zb hrest
   clear hrest HCM
   go_wp2
   go_ret
   exact⟨rfl,za HR⟩
end
end Go.Proofs.YtchmlnmhbfaclaaGreatDoor
namespace Go.Proofs.YtchmlnmhbfaclaaGreatDoor
open Go.RowKit
set_option linter.unusedVariables false
theorem zgE(K:List Int):∀ {n:Nat},K.length=n->(List.range n).map (fun j=>K.getD j 0)=K:=by
 intro n hn
 apply zJ
 ·simp [hn]
 ·intro i hi
  simp at hi
  rw [List.getD_eq_getElem?_getD,List.getElem?_map,List.getElem?_range hi]
  rfl
theorem zgJ{D:DS}{m:Nat}{K:List Int}(hK:K.length=32 * m)(h:∀ i,i<m->D.rd (48+i)=prt K i):Qk (zal D m) [] 0 (32 * m)=K:=by
 rw [<- zgE K hK]
 unfold Qk
 apply List.map_congr_left
 intro j hj
 have hj':=List.mem_range.1 hj
 unfold zcl vRd
 rw [Nat.zero_add]
 show((none:Option (List Int)).getD ((zal D m).getD (j / 32) [])).getD (j % 32) 0=K.getD j 0
 rw [Option.getD_none,zlO D (by omega),h _ (by omega),zaB (Nat.mod_lt _ (by decide)),show 32 * (j / 32)+j % 32=j by omega]
section
variable {w0 w:World} {p q:Nat} {S:Nat->Prop} {D:DS} {s:Int} {m:Nat}
set_option maxRecDepth 100000 in
theorem zfq(h:Dev w p S D)(hq:PgAt w q p s)(hc:Zk D.secs.length=m)(hm:m<=200)(hl:48+m<=D.secs.length)(hd:D.down=false) :
  Calls Tryz.prog 121 #[.pointer (some ⟨q,0,none⟩)] w fun e w'=>∃ g,e=.returned (.tuple #[.slice (some ⟨g,0,none⟩) (32 * m) (32 * m),.nilIface])/\w.heap.size<=g/\Blk w' g (Qk (zal D m) [] 0 (32 * m))/\Below w.heap.size w w':=by
 have HN:=zb (ztN h hq hc hm hl hd)
 have hkl:=Zf D m
 clear h hq
 generalize zal D m=KP at *
 obtain⟨N,hN⟩:∃ N,32 * m=N:=⟨_,rfl⟩
 rw [hN]
 have HNN:=zb hN
 have HKL:=zb hkl
 clear hN hkl hc
 go_enter Tryz.func121,Tryz.ntmps121
 go_wp2_with fail
 refine(za HN).mono ?_
 rintro e w1 ⟨v,gk,gm,rfl,hv,_,_,_,hb1⟩
 have hln:=zmv hv
 have hrd:=zpV hv 0 N (by rw [za HKL,za HNN];omega)
 rw [za HKL,za HNN] at hln
 have HL:=zb hln
 have HR:=zb hrd
 have HB1:=zb hb1
 clear hv hln hrd hb1 HN
 go_wp2_with fail
 refine(za HL).mono ?_
 rintro e w2 ⟨rfl,rfl⟩
 go_wp2_with fail
 refine(za HR).mono ?_
 rintro e w2 ⟨g,rfl,hg,hblk,hb2⟩
 have HBK:=zb hblk
 have HB2:=zb ((za HB1).trans (hb2.mono (za HB1).size))
 have hsz:=(za HB1).size
 clear hblk hb2 HL HR
 go_wp2
 go_ret2
 exact⟨g,rfl,by omega,za HBK,za HB2⟩
theorem Sto.made{w1 w2:World}(h:Live w0 w p S D)(hq:PgAt w q p s)(hqS:¬ S q)(hq0:w0.heap.size<=q)(hc:Zk D.secs.length=m){K:List Int}(hK:K.length=32 * m)(hby:Byt K)(hf:Fine K){gk x g c:Nat}
  (hg:w.heap.size<=gk) (hblk:Blk w1 gk K) (hb1:Below w.heap.size w w1) (hh:Hp w2 w1.heap.size x g c K) (hb2:Below w1.heap.size w1 w2) :
  Sto w0 (w2.alloc (.cells #[.pointer (some ⟨p,0,none⟩),.pointer (some ⟨q,0,none⟩),.pointer (some ⟨x,0,none⟩),.slice (some ⟨gk,0,none⟩) (32 * m) (32 * m),.bool false] 218)) w2.heap.size p q S D s m x g c K gk (32 * m) K false:=by
 have hsz0:=h.bel.size
 have hsz1:=hb1.size
 have hsz2:=hb2.size
 have hkl:gk<w1.heap.size:=hblk.lt
 have hb12:Below w.heap.size w w2:=hb1.trans (hb2.mono hsz1)
 have hbA:Below w2.heap.size w2 (w2.alloc (.cells #[.pointer (some ⟨p,0,none⟩),.pointer (some ⟨q,0,none⟩),.pointer (some ⟨x,0,none⟩),.slice (some ⟨gk,0,none⟩) (32 * m) (32 * m),.bool false] 218)):=(Below.refl _ _).alloc (Nat.le_refl _) _
 have hb3:=hb12.trans (hbA.mono hb12.size)
 have hxp:=hh.plt
 have hxg:=hh.glt
 have hbp:=hh.bp
 have hbg:=hh.bg
 have hl3:=h.below hb3
 have hSlt:=fun k hk=>h.dev.lt k hk
 have hqlt:=hq.lt
 have hplus:∀ k,plus S q k->k<w.heap.size:=fun k hk=>by
  rcases hk with hk | rfl
  ·exact hSlt k hk
  ·exact hqlt
 have hfoot:∀ k,zin w2.heap.size gk x g k->w.heap.size<=k/\k<w2.heap.size+1:=fun k hk=>by
  rcases hk with rfl | rfl | rfl | rfl <;> omega
 refine⟨by rw [hK];exact heap_alloc_new w2 _,⟨hl3,hq.below hb3,hqS,hq0,fun k hk hs=>?_,fun k hk=>?_,fun k hk=>?_⟩,?_,?_,hby,hf,hc,hK,hK,by omega,?_,?_⟩
 ·have h1:=hplus k hs
  have h2:=(hfoot k hk).1
  omega
 ·have:=(hfoot k hk).2
  simpa using this
 ·have:=(hfoot k hk).1
  omega
 ·obtain⟨cur,hr⟩:=hh.row
  have hh2:=hh.below hbA
  obtain⟨cur2,hr2⟩:=hh2.row
  exact⟨by omega,hh2.ne,hh2.blk,⟨cur2,hr2.low (by omega)⟩,hh2.byt,hh2.fine⟩
 ·have hr:=(hblk.row (B:=w0.heap.size) (by omega)).below (hb2.trans (hbA.mono hb2.size))
  rw [hK] at hr
  exact⟨_,hr⟩
 ·rintro (e | e) <;> omega
 ·rintro (e | e) <;> omega
set_option maxRecDepth 100000 in
theorem za0(h:Live w0 w p S D)(hq:PgAt w q p s)(hqS:¬ S q)(hq0:w0.heap.size<=q)(hc:Zk D.secs.length=m)(hm:m<=200)(hl:48+m<=D.secs.length)(hd:D.down=false){K:List Int}(hK:K.length=32 * m)(hrd:∀ i,i<m->D.rd (48+i)=prt K i)(hby:Byt K)(hf:Fine K) :
  Calls Tryz.prog 77 #[.pointer (some ⟨p,0,none⟩),.pointer (some ⟨q,0,none⟩)] w fun e w'=>∃ t x g c gk,e=.returned (.tuple #[.pointer (some ⟨t,0,none⟩),.nilIface])/\Sto w0 w' t p q S D s m x g c K gk (32 * m) K false/\(∀ k,zin t gk x g k->w.heap.size<=k)/\Below w.heap.size w w':=by
 have hby0:=zfq h.dev hq hc hm hl hd
 rw [zgJ hK hrd] at hby0
 have HBY:=zb hby0
 have HMK:Hid (∀ (w1 w2:World) (gk x g c:Nat),w.heap.size<=gk->Blk w1 gk K->Below w.heap.size w w1->Hp w2 w1.heap.size x g c K->Below w1.heap.size w1 w2->Sto w0 (w2.alloc (.cells #[.pointer (some ⟨p,0,none⟩),.pointer (some ⟨q,0,none⟩),.pointer (some ⟨x,0,none⟩),.slice (some ⟨gk,0,none⟩) (32 * m) (32 * m),.bool false] 218)) w2.heap.size p q S D s m x g c K gk (32 * m) K false) :=
  zb (fun w1 w2 gk x g c h1 h2 h3 h4 h5=>Sto.made h hq hqS hq0 hc hK hby hf h1 h2 h3 h4 h5)
 have HLD:Hid (∀ (W:World) (gk:Nat),Blk W gk K->Calls Tryz.prog 122 #[.slice (some ⟨gk,0,none⟩) (32 * m) (32 * m)] W fun e w'=>∃ p g c,e=.returned (.tuple #[.pointer (some ⟨p,0,none⟩),.nilIface])/\Hp w' W.heap.size p g c K/\Below W.heap.size W w'):=zb (fun W gk hb=>by
  have:=zke (some ⟨gk,0,none⟩) K.length K W (hb.bs hby (by omega)) hf
  rw [hK] at this
  exact this)
 clear h hq hby0 hrd hf hby hK
 generalize 32 * m=N at *
 go_enter Tryz.func77,Tryz.ntmps77
 go_wp2_with fail
 refine(za HBY).mono ?_
 rintro e w1 ⟨gk,rfl,hgk,hblk,hb1⟩
 have HL1:=zb (za HLD w1 gk hblk)
 have HBK:=zb hblk
 have HB1:=zb hb1
 clear hblk hb1 HBY HLD
 go_wp2_with fail
 refine(za HL1).mono ?_
 rintro e w2 ⟨x,g,c,rfl,hh,hb2⟩
 have HG:Hid (∀ k,zin w2.heap.size gk x g k->w.heap.size<=k):=zb (fun k hk=>by
  have h1:=hh.bp
  have h2:=hh.bg
  have h3:=(za HB1).size
  have h4:=hb2.size
  rcases hk with rfl | rfl | rfl | rfl <;> omega)
 have HS:=zb (za HMK w1 w2 gk x g c hgk (za HBK) (za HB1) hh hb2)
 have HB2:=zb (((za HB1).trans (hb2.mono (za HB1).size)).alloc (Nat.le_trans (za HB1).size hb2.size) (.cells #[.pointer (some ⟨p,0,none⟩),.pointer (some ⟨q,0,none⟩),.pointer (some ⟨x,0,none⟩),.slice (some ⟨gk,0,none⟩) N N,.bool false] 218))
 clear hh hb2 HL1 HMK HBK HB1
 go_wp2
 go_ret2
 exact⟨w2.heap.size,x,g,c,gk,rfl,za HS,za HG,za HB2⟩
end
def zW(D:DS)(k:Nat):DS×Int:=wsF (D,0) (fun i=>(48+(i:Int),zerosB 32)) k
theorem zdY(D:DS)(m:Nat):qU D m=Qr (zW D m):=rfl
theorem zxl{D:DS}{k:Nat}(h:(zW D k).2=0):zW D (k+1)=((zW D k).1.write (48+(k:Int)) (zerosB 32),(zW D k).1.writeE (48+(k:Int)) (zerosB 32)):=ziK h _ _
theorem zxm{D:DS}{k m:Nat}(h:(zW D k).2≠0)(hk:k<=m):qU D m=zW D k:=by
 rw [zdY]
 have:zW D m=zW D k:=zdf h m hk
 rw [this,QS h]
section
variable {w0 w:World} {p q:Nat} {S:Nat->Prop} {D:DS} {s:Int} {m:Nat}
set_option maxRecDepth 100000 in
theorem zkX(h:Live w0 w p S D)(m:Nat)(hm:m<=200) :
  Calls Tryz.prog 75 #[.pointer (some ⟨p,0,none⟩),.int .i64 m] w fun e w'=>e=.returned (zK (qU D m).2)/\∃ S',Live w0 w' p S' (qU D m).1/\Turn S S' w w':=by
 have H:=zb h
 obtain⟨i0,hi0,hz0,hz1,hz2⟩:=info_parts qG
 clear h
 go_enter Tryz.func75,Tryz.ntmps75
 go_wp2_with fail
 go_loopw [8] (fun kv wr=>∃ (k:Nat) (S1:Nat->Prop),k<=m/\kv=.int .i64 k/\(zW D k).2=0/\Live w0 wr p S1 (zW D k).1/\Turn S S1 w wr) (fun kv _=>m-(intOf kv).toNat)
 case atStart=>exact⟨0,S,Nat.zero_le _,rfl,rfl,za H,Turn.refl _ _⟩
 case round =>
  obtain⟨k,S1,hk,rfl,hz,hl,ht⟩:=hrel
  by_cases hlt:k<m
  ·have HZ:=zb (zxl hz)
   have HL:=zb hl
   have HT:=zb ht
   have e0:(k:Int)<(m:Int):=by omega
   have e1:(0:Int)<=(k:Int):=by omega
   have e2:(k:Int)<=200:=by omega
   clear hl ht hz
   go_wp2_with (at_make;refine wpList_make_u8 rfl _ _ 29 rfl i0 Tryz.underlying29 hi0 hz0 hz1 hz2 _ _ _ _ 32 rfl rfl rfl rfl (by omega) ?_)
   intro w2 hk2 hs2 hb2
   have hnS:∀ x:Addr,some (⟨wr.heap.size,0,none⟩:Addr)=some x->¬ S1 x.block:=fun x hx hs=>by
    obtain rfl:=Option.some.inj hx
    exact Nat.lt_irrefl _ ((za HL).dev.lt _ hs)
   have hwr:=((za HL).below hb2).write (48+(k:Int)) (a:=some ⟨wr.heap.size,0,none⟩) (cap:=(zerosB 32).length) (l:=zerosB 32) ⟨hk2.bs (byt_zerosB 32) (by rw [length_zerosB];decide),fun _=>hnS⟩
   rw [length_zerosB] at hwr
   have HTB:=zb ((za HT).trans (Turn.of_below hb2))
   clear hk2 hs2 hb2 hnS
   by_cases hE:(zW D k).1.writeE (48+(k:Int)) (zerosB 32)=0
   ·rw [hE,zf] at hwr
    have HW:=zb hwr
    have HZ2:Hid ((zW D (k+1)).2=0):=zb (by rw [za HZ];exact hE)
    clear hwr hE
    go_wp2_with fail
    refine(za HW).mono ?_
    rintro e w3 ⟨rfl,S2,hl3,ht3⟩
    have HL3:Hid (Live w0 w3 p S2 (zW D (k+1)).1):=zb (by rw [za HZ];exact hl3)
    have HT3:=zb ((za HTB).trans ht3)
    clear hl3 ht3 HW
    go_wp2
    go_roundw
    case rel=>exact⟨k+1,S2,by omega,by go_num,za HZ2,za HL3,za HT3⟩
    case measure=>simp [intOf];omega
   ·have hZ2:(zW D (k+1)).2≠0:=by rw [za HZ];exact hE
    have hlate:=zxm (m:=m) hZ2 (by omega)
    have e2:(qU D m).2=(zW D k).1.writeE (48+(k:Int)) (zerosB 32):=by rw [hlate,za HZ]
    have e1:(qU D m).1=(zW D k).1.write (48+(k:Int)) (zerosB 32):=by rw [hlate,za HZ]
    rw [<- e1,<- e2] at hwr
    rw [<- e2] at hE
    rw [zh _ hE] at hwr
    have HW:=zb hwr
    have HE:=zb hE
    clear hwr hE e1 e2 hlate hZ2 HZ
    go_wp2_with fail
    refine(za HW).mono ?_
    rintro e w3 ⟨rfl,S2,hl3,ht3⟩
    have HL3:=zb hl3
    have HT3:=zb ((za HTB).trans ht3)
    clear hl3 ht3 HW
    go_wp2
    go_ret
    exact⟨by rw [zh _ (za HE)];rfl,S2,za HL3,za HT3⟩
  ·obtain rfl:k=m:=by omega
   have hfl:=hl.flush
   have e2:(qU D k).2=(zW D k).1.flushE:=by rw [zdY,ziL hz]
   have e1:(qU D k).1=(zW D k).1.doFlush:=by rw [zdY,ziL hz]
   rw [<- e1,<- e2] at hfl
   have HF:=zb hfl
   have HT:=zb ht
   clear hl ht hz hfl e1 e2
   go_wp2_with fail
   refine(za HF).mono ?_
   rintro e w3 ⟨rfl,S2,hl3,ht3⟩
   have HL3:=zb hl3
   have HT3:=zb ((za HT).trans ht3)
   clear hl3 ht3 HF
   go_wp2
   go_ret
   exact⟨rfl,S2,za HL3,za HT3⟩
theorem zq9{m i:Nat}(hi:i<m):prt (zerosB (32 * m)) i=zerosB 32:=by
 unfold prt zerosB
 rw [List.drop_replicate,List.take_replicate,Nat.min_eq_left (by omega)]
theorem Neat.zeros{a:Nat}(h:Neat D m s (fun _=>zerosB 32) a []):Neat D m s (prt (zerosB (32 * m))) a [] :=
 ⟨h.ok,h.mem,h.down,h.len,h.lt,h.two,h.even,h.s1,h.s2,h.got,fun k hk=>(by cases hk),fun i hi=>by rw [zq9 hi];exact h.pages i hi,h.other,h.differs,h.less⟩
theorem Neat.rds{K:List Int}{a:Nat}{nl:List Int}(h:Neat D m s (prt K) a nl):∀ i,i<m->D.rd (48+i)=prt K i:=fun i hi=>by rw [zaz h.mem];exact h.pages i hi
def crD(n m:Nat):DS:=(qU (zD (DS.new n)).1 m).1
theorem znK{n:Nat}(h1:57<=n)(h2:n<=300)(hm:48+m<=n)(hm2:m<=200):(qU (zD (DS.new n)).1 m).2=0/\Neat (crD n m) m 2 (prt (zerosB (32 * m))) 0 []/\(crD n m).left<0/\(crD n m).secs.length=n:=by
 obtain⟨f1,f2,f3⟩:=zbb n (by omega) h2 m hm hm2
 obtain⟨z1,z2,z3,z4⟩:=zpL f2 (zc5 n)
 exact⟨z1,z2.zeros,z4,z3.trans f3⟩
theorem zsz{w0 w:World}{p:Nat}{S:Nat->Prop}{n:Nat}(h:Live w0 w p S (DS.new n))(h1:57<=n)(h2:n<=300)(hm:Zk n=m)(hm1:1<=m)(hm3:m<=200)(hm4:48+m<=n) :
  Calls Tryz.prog 74 #[.pointer (some ⟨p,0,none⟩)] w fun e w'=>∃ q,e=.returned (.tuple #[.pointer (some ⟨q,0,none⟩),.nilIface])/\∃ S',Live w0 w' p S' (zD (DS.new n)).1/\PgAt w' q p 2/\¬ S' q/\w0.heap.size<=q:=by
 obtain⟨hf1,hf2,hf3⟩:=zbb n (by omega) h2 m hm4 hm3
 refine(zhe h (by rw [show(DS.new n).secs.length=n by simp [DS.new],hm];omega)).mono ?_
 rintro e w' ⟨v,S',rfl,hl,_,hyes,_⟩
 obtain⟨q,rfl,hpg,hq,hout⟩:=hyes hf1
 have hsz:=h.bel.size
 exact⟨q,by rw [hf1];rfl,S',hl,hpg,hout,by omega⟩
set_option maxRecDepth 100000 in
set_option maxHeartbeats 400000 in
theorem zjc{n:Nat}(h:Live w0 w p S (DS.new n))(h1:57<=n)(h2:n<=300)(hm:Zk n=m) :
  Calls Tryz.prog 46 #[.pointer (some ⟨p,0,none⟩)] w fun e w'=>∃ t x,e=.returned (.tuple #[.pointer (some ⟨t,0,none⟩),.nilIface])/\∃ q S' g c gk,Sto w0 w' t p q S' (crD n m) 2 m x g c (zerosB (32 * m)) gk (32 * m) (zerosB (32 * m)) false:=by
 have hm2:9<=m/\m<=200/\48+m<=n:=by
  unfold Zk at hm
  split at hm <;> omega
 obtain⟨z1,z2,z4,z3⟩:=znK (m:=m) h1 h2 hm2.2.2 hm2.2.1
 have hfl:(zD (DS.new n)).1.secs.length=n:=(zbb n (by omega) h2 m hm2.2.2 hm2.2.1).2.2
 have hln:=zlK h.dev
 rw [show(DS.new n).secs.length=n by simp [DS.new]] at hln
 have HLN:=zb hln
 have HF:=zb (zsz h h1 h2 hm (by omega) hm2.2.1 hm2.2.2)
 have HLD:Hid (∀ (W:World) (q:Nat) (S1:Nat->Prop),Live w0 W p S1 (crD n m)->PgAt W q p 2->¬ S1 q->w0.heap.size<=q->Calls Tryz.prog 77 #[.pointer (some ⟨p,0,none⟩),.pointer (some ⟨q,0,none⟩)] W fun e w'=>∃ t x g c gk,e=.returned (.tuple #[.pointer (some ⟨t,0,none⟩),.nilIface])/\Sto w0 w' t p q S1 (crD n m) 2 m x g c (zerosB (32 * m)) gk (32 * m) (zerosB (32 * m)) false/\(∀ k,zin t gk x g k->W.heap.size<=k)/\Below W.heap.size W w') :=
  zb (fun W q S1 g1 g2 g3 g4=>za0 g1 g2 g3 g4 (by rw [z3];exact hm) hm2.2.1 (by rw [z3];exact hm2.2.2) z2.down (length_zerosB _) z2.rds (byt_zerosB _) (Qs (n:=32 * m) (by omega) (by omega)).1)
 have HPL:Hid (∀ (W:World) (q:Nat) (S1:Nat->Prop),Live w0 W p S1 (zD (DS.new n)).1->PgAt W q p 2->Calls Tryz.prog 76 #[.pointer (some ⟨q,0,none⟩)] W fun e w'=>e=.returned (.int .i64 m)/\W=w') :=
  zb (fun W q S1 g1 g2=>by
   have:=zhT g1.dev g2
   rw [hfl,hm] at this
   exact this)
 have HZR:Hid (∀ (W:World) (S1:Nat->Prop),Live w0 W p S1 (zD (DS.new n)).1->Calls Tryz.prog 75 #[.pointer (some ⟨p,0,none⟩),.int .i64 m] W fun e w'=>e=.returned .nilIface/\∃ S',Live w0 w' p S' (crD n m)/\Turn S1 S' W w') :=
  zb (fun W S1 g1=>by
   have:=zkX g1 m hm2.2.1
   rw [z1,zf] at this
   exact this)
 have e1:(57:Int)<=(n:Int):=by omega
 have e2:(n:Int)<=300:=by omega
 clear h hln hm z1 z2 z3 z4 hfl hm2
 generalize crD n m=CD at *
 generalize (zD (DS.new n)).1=FD at *
 generalize zerosB (32 * m)=Z at *
 go_enter Tryz.func46,Tryz.ntmps46
 go_wp2_with fail
 refine(za HLN).mono ?_
 rintro e w1 ⟨rfl,rfl⟩
 go_wp2_with fail
 refine(za HF).mono ?_
 rintro e w1 ⟨q,rfl,S1,hl1,hpg1,hout1,hq0⟩
 have HP1:=zb (za HPL w1 q S1 hl1 hpg1)
 have HZ:=zb (za HZR w1 S1 hl1)
 have HPG:=zb hpg1
 have HOUT:=zb hout1
 clear hl1 hpg1 hout1 HF HPL HLN HZR
 go_wp2_with fail
 refine(za HP1).mono ?_
 rintro e w2 ⟨rfl,rfl⟩
 go_wp2_with fail
 refine(za HZ).mono ?_
 rintro e w3 ⟨rfl,S2,hl3,ht3⟩
 obtain⟨hpg3,hout3⟩:=(za HPG).turn ht3 (za HOUT)
 have HL:=zb (za HLD w3 q S2 hl3 hpg3 hout3 hq0)
 clear hl3 ht3 hpg3 hout3 HZ HP1 HLD HPG HOUT
 go_wp2_with fail
 refine(za HL).mono ?_
 rintro e w4 ⟨t,x,g,c,gk,rfl,hs,_,hb⟩
 have HS:=zb hs
 clear hs hb HL
 go_wp2
 go_ret2
 exact⟨t,x,rfl,q,S2,g,c,gk,za HS⟩
end
section
variable {w0 w:World} {t p q:Nat} {S:Nat->Prop} {D:DS} {s:Int} {m x g c:Nat} {L:List Int} {gk ck:Nat} {K:List Int} {cut:Bool}
theorem zd5(h:Sto w0 w t p q S D s m x g c L gk ck K cut):Calls Tryz.prog 89 #[.pointer (some ⟨t,0,none⟩)] w fun e w'=>e=.returned (.pointer (some ⟨x,0,none⟩))/\w=w':=by
 have c2:=h.c2
 clear h
 go_enter Tryz.func89,Tryz.ntmps89
 go_wp2
 go_ret
 exact⟨rfl,rfl⟩
end
end Go.Proofs.YtchmlnmhbfaclaaGreatDoor
namespace Go.Proofs.YtchmlnmhbfaclaaGreatDoor
open Go.RowKit Go.Maps Go.Sort Go.Shelf
set_option linter.unusedVariables false
def Zj(S:Nat->Prop)(q t gk x g:Nat)(k:Nat):Prop:=plus S q k\/zin t gk x g k
section
variable {w0 w w':World} {t p q:Nat} {S:Nat->Prop} {D:DS} {s:Int} {m x g c g':Nat} {L:List Int} {gk ck:Nat} {K:List Int} {cut:Bool}
theorem zgK(h:Turn (foot x g) (foot x g') w w')(S:Nat->Prop)(q t gk:Nat):Turn (Zj S q t gk x g) (Zj S q t gk x g') w w' :=
 ⟨h.os,h.tape,h.output,h.size,fun k hk hn=>h.block k hk (fun hf=>hn (.inr (.inr (.inr hf)))),fun k hk hf=>by
  rcases hf with hf | hf | hf | hf
  ·exact .inl hf
  ·exact .inr (.inl hf)
  ·exact .inr (.inr (.inl hf))
  ·exact .inr (.inr (.inr (h.foot k hk hf)))⟩
theorem Sto.foot_lt(h:Sto w0 w t p q S D s m x g c L gk ck K cut):∀ k,Zj S q t gk x g k->k<w.heap.size:=fun k hk=>by
 rcases hk with hk | hk
 ·exact h.bsd.plt k hk
 ·exact h.bsd.tlt k hk
set_option maxRecDepth 100000 in
theorem zag(h:Sto w0 w t p q S D s m x g c L gk ck K cut) :
  Calls Tryz.prog 150 #[.pointer (some ⟨t,0,none⟩)] w fun e w'=>∃ v,e=.returned v/\w'.ownsRow w.heap.size 3 1 v (qz K L m).length (((qz K L m).map (fun i:Nat=>(i:Int))).map encZ)/\Below w.heap.size w w':=by
 have hm:=h.m200
 have c2:=h.c2
 have c3:=h.c3
 rw [h.klen] at c3
 have HBY:Hid (Calls Tryz.prog 143 #[.pointer (some ⟨x,0,none⟩)] w.drew fun e w'=>∃ a' c',e=.returned (.slice a' (32 * m) c')/\w'.cell? ⟨t,2,none⟩=some (.pointer (some ⟨x,0,none⟩))/\w'.cell? ⟨t,3,none⟩=some (.slice (some ⟨gk,0,none⟩) (32 * m) ck) /\
   Hid (Calls Tryz.prog 204 #[.slice (some ⟨gk,0,none⟩) (32 * m) ck,.slice a' (32 * m) c'] w' fun e w2=>∃ v,e=.returned (.tuple #[v,.nilIface])/\w2.cell? ⟨t,2,none⟩=some (.pointer (some ⟨x,0,none⟩))/\w2.cell? ⟨t,3,none⟩=some (.slice (some ⟨gk,0,none⟩) (32 * m) ck) /\
    Hid (w2.ownsRow w.heap.size 3 1 v (qz K L m).length (((qz K L m).map (fun i:Nat=>(i:Int))).map encZ)/\Below w.heap.size w w2))):=zb (by
  have hd:Below w.heap.size w w.drew:=qk (Below.refl _ _)
  have hb:=qu x g c w0.heap.size L w.drew (h.below hd).hp
  rw [h.len] at hb
  refine hb.mono ?_
  rintro e w1 ⟨a',c',rfl,ho,hb1⟩
  have hB1:=hd.trans (hb1.mono hd.size)
  have h1:=h.below hB1
  obtain⟨a2,c2',e2,hbs⟩:=ho.bs h.hp.byt (by have:=h.hp.fine.len;omega)
  rw [h.len] at e2
  simp only [Value.slice.injEq,true_and] at e2
  obtain⟨rfl,rfl⟩:=e2
  have d3:=h1.c3
  rw [h.klen] at d3
  refine⟨a',c',rfl,h1.c2,d3,zb ((zdp (some ⟨gk,0,none⟩) a' ck c' m (32 * m) K L w1 h1.kbs hbs rfl h.klen h.len hm.2.1).mono ?_)⟩
  rintro e w2 ⟨v,rfl,hr,hb2⟩
  have h2:=h1.below hb2
  have f3:=h2.c3
  rw [h.klen] at f3
  exact⟨v,rfl,h2.c2,f3,zb ⟨ownsRow_base_a hr hB1.size,hB1.trans (hb2.mono hB1.size)⟩⟩)
 clear h hm
 generalize 32 * m=N at *
 generalize qz K L m=DR at *
 go_enter Tryz.func150,Tryz.ntmps150
 go_wp2_with fail
 go_region_held3 (fun w'=>w'.cell? ⟨t,2,none⟩=some (.pointer (some ⟨x,0,none⟩))/\w'.cell? ⟨t,3,none⟩=some (.slice (some ⟨gk,0,none⟩) N ck)) (first | go_keep | (go_split_ands;refine⟨?_,?_⟩ <;> go_keep))
  (first | (go_at_call 143;refine(za HBY).mono ?_;rintro e w1 ⟨a',c',rfl,r0,r1,HP1⟩) | (go_at_call 204;refine(za HP1).mono ?_;rintro e w2 ⟨v,rfl,s0,s1,HX2⟩))
 clear r0 r1 s0 s1 HBY HP1 c2 c3
 go_wp2
 go_ret
 exact⟨v,rfl,(za HX2).1,(za HX2).2⟩
theorem Sto.done(h:Sto w0 w t p q S D s m x g c L gk ck K cut){w1 w2:World}{gn cn:Nat}{S':Nat->Prop}{D':DS}{s':Int}{cur:Array Value}(hb1:Below w.heap.size w w1)(hn:w.heap.size<=gn)(hr:Row w1 w.heap.size gn cn cur L)
  (hl:Live w0 w2 p S' D') (hp:PgAt w2 q p s') (ho:¬ S' q) (ht:Turn (plus S q) (plus S' q) w1 w2) (hc:D'.secs.length=D.secs.length) :
  Sto w0 (w2.setCell ⟨t,3,none⟩ (.slice (some ⟨gn,0,none⟩) L.length cn)) t p q S' D' s' m x g c L gn cn L cut/\Turn (Zj S q t gk x g) (Zj S' q t gn x g) w (w2.setCell ⟨t,3,none⟩ (.slice (some ⟨gn,0,none⟩) L.length cn)):=by
 have h1:=h.below hb1
 have h2:=h1.pages hl hp ho ht hc
 have hlt:=hr.lt
 have hnf:∀ k,Zj S q t gk x g k->k≠gn:=fun k hk e=>by
  have:=h.foot_lt k hk
  omega
 have hnp:¬ plus S q gn:=fun hk=>hnf gn (.inl hk) rfl
 have hr2:Row w2 w0.heap.size gn cn cur L:=(hr.low h.size).same (ht.block gn hlt hnp)
 have hnp2:¬ plus S' q gn:=fun hk=>hnp (ht.foot gn hlt hk)
 refine⟨h2.keep hr2 h.hp.byt h.hp.fine h.len hnp2 (fun e=>hnf t (.inr (.inl rfl)) e.symm) (fun hf=>hnf gn (.inr (.inr (.inr hf))) rfl),?_⟩
 have hs1:=hb1.size
 have hs2:=ht.size
 refine⟨?_,?_,?_,by simp;omega,fun k hk hn2=>?_,fun k hk hf=>?_⟩
 ·show w2.os=w.os
  rw [ht.os,hb1.os]
 ·show w2.tape=w.tape
  rw [ht.tape,hb1.tape]
 ·show w2.output=w.output
  rw [ht.output,hb1.output]
 ·rw [heap_setCell_other _ _ _ _ (show k≠t from fun e=>hn2 (.inr (.inl e))),ht.block k (by omega) (fun hf=>hn2 (.inl hf)),hb1.block k hk]
 ·rcases hf with hf | hf | hf | hf
  ·exact .inl (ht.foot k (by omega) hf)
  ·exact .inr (.inl hf)
  ·omega
  ·exact .inr (.inr (.inr hf))
set_option maxRecDepth 100000 in
set_option maxHeartbeats 1000000 in
theorem zjd(h:Sto w0 w t p q S D s m x g c L gk ck K false)(h0:0<=s)(h1:s<4294967295)(hX:(zc D s m (dfP K L m)).2.2=0) :
  Calls Tryz.prog 100 #[.pointer (some ⟨t,0,none⟩)] w fun e w'=>e=.returned .nilIface/\∃ S' gn cn,Sto w0 w' t p q S' (zc D s m (dfP K L m)).1 (zc D s m (dfP K L m)).2.1 m x g c L gn cn L false/\Turn (Zj S q t gk x g) (Zj S' q t gn x g) w w':=by
 have hm:=h.m200
 have hlL:=h.len
 have hlK:=h.klen
 have c2:=h.c2
 have hby:=qu x g c w0.heap.size L w h.hp
 rw [hlL] at hby
 have HBY:=zb hby
 have H:=zb h
 have hXl:=ZN D s m (dfP K L m)
 have HXL:=zb hXl
 have HCM:Hid (∀ (W:World) (gn cn:Nat),Below w.heap.size w W->w.heap.size<=gn->Bs W (some ⟨gn,0,none⟩) cn L->Calls Tryz.prog 153 #[.pointer (some ⟨q,0,none⟩),.slice (some ⟨gk,0,none⟩) (32 * m) ck,.slice (some ⟨gn,0,none⟩) (32 * m) cn] W fun e w'=>e=.returned .nilIface/\∃ S',Live w0 w' p S' (zc D s m (dfP K L m)).1/\PgAt w' q p (zc D s m (dfP K L m)).2.1/\¬ S' q/\Turn (plus S q) (plus S' q) W w'):=zb (fun W gn cn hb hg hbs=>by
  have hw:=h.below hb
  have:=zer hw.bsd.live hw.bsd.pg hw.bsd.out hw.bsd.base h.cnt hm.2.1 h0 h1 hw.kbs rfl hlK hbs hlL (fun hs=>by have:=h.bsd.plt gn (.inl hs);omega)
  rw [hX,zf] at this
  exact this)
 clear h hby hX hXl
 generalize zc D s m (dfP K L m)=X at *
 have HLL:=zb hlL
 obtain⟨N,hN⟩:∃ N,32 * m=N:=⟨_,rfl⟩
 rw [hN] at HBY HCM HLL hlK
 have HLK:=zb hlK
 clear hlL hlK hN
 go_enter Tryz.func100,Tryz.ntmps100
 go_wp2_with fail
 refine(za HBY).mono ?_
 rintro e w1 ⟨a1,kc,rfl,ho,hb1⟩
 obtain⟨gn,cur,rfl,hrow⟩:∃ gn cur,a1=some ⟨gn,0,none⟩/\Row w1 w.heap.size gn kc cur L:=by
  rw [<- za HLL] at ho
  obtain⟨gn,cur,e1,hr,_⟩:=ho.row (by intro e;have:=(za H).hp.fine.len;rw [e] at this;simp at this)
  exact⟨gn,cur,e1,hr⟩
 have HROW:=zb hrow
 have HB1:=zb hb1
 have hst1:=(za H).below hb1
 have HD:=zb (zag hst1)
 clear ho hrow hb1 hst1 HBY c2
 go_wp2_with fail
 refine(za HD).mono ?_
 rintro e w2 ⟨v,rfl,hr2,hb2⟩
 obtain⟨an,cn2,rfl,_,_⟩:=zdz hr2
 have hb12:=(za HB1).trans (hb2.mono (za HB1).size)
 have hst2:=(za H).below hb12
 have c0:=hst2.c0
 have c4:=hst2.c4
 have c1:=hst2.c1
 have c3:=hst2.c3
 rw [za HLK] at c3
 have HDN:=zb hst2.bsd.live.down
 have hnl:(qz K L m).length<=200:=by
  have:(qz K L m).length<=m:=by
   unfold qz
   exact Nat.le_trans (List.length_filter_le _ _) (by simp)
  omega
 have hgn:=(za HROW).1
 have hb2d:Below w.heap.size w w2.drew:=qk hb12
 have hrow2:=(za HROW).below (qk hb2)
 have hbs2:Bs w2.drew (some ⟨gn,0,none⟩) kc L:=hrow2.bs (za H).hp.byt (by have:=(za H).hp.fine.len;omega)
 have HC1:Hid (Calls Tryz.prog 153 #[.pointer (some ⟨q,0,none⟩),.slice (some ⟨gk,0,none⟩) N ck,.slice (some ⟨gn,0,none⟩) N kc] w2.drew fun e w'=>e=.returned .nilIface/\w'.cell? ⟨t,1,none⟩=some (.pointer (some ⟨q,0,none⟩))/\w'.cell? ⟨t,3,none⟩=some (.slice (some ⟨gk,0,none⟩) N ck)/\w'.frozen? ⟨t,3,none⟩=false /\
   Hid (∃ S',Sto w0 (w'.setCell ⟨t,3,none⟩ (.slice (some ⟨gn,0,none⟩) N kc)) t p q S' X.1 X.2.1 m x g c L gn kc L false/\Turn (Zj S q t gk x g) (Zj S' q t gn x g) w (w'.setCell ⟨t,3,none⟩ (.slice (some ⟨gn,0,none⟩) N kc)))):=zb (by
  refine(za HCM w2.drew gn kc hb2d hgn hbs2).mono ?_
  rintro e w4 ⟨rfl,S',hl,hp,ho,ht⟩
  have hst4:=((za H).below hb2d).pages hl hp ho ht (za HXL)
  have d3:=hst4.c3
  rw [za HLK] at d3
  have hdone:=(za H).done hb2d hgn hrow2 hl hp ho ht (za HXL)
  have hLN:=za HLL
  rw [hLN] at hdone
  exact⟨rfl,hst4.c1,d3,hst4.fr 3,zb ⟨S',hdone⟩⟩)
 clear hst2 hb2d hrow2 hbs2 hb12 hr2 hb2 HD HCM HLL HLK HROW HB1 HXL
 generalize (qz K L m).length=n at *
 go_wp2_with fail
 refine(za HDN).mono ?_
 rintro e w3 ⟨rfl,hw3⟩
 subst hw3
 clear HDN c0
 go_wp2_with fail
 go_region_held3 (fun w'=>w'.cell? ⟨t,1,none⟩=some (.pointer (some ⟨q,0,none⟩))/\w'.cell? ⟨t,3,none⟩=some (.slice (some ⟨gk,0,none⟩) N ck)) (first | go_keep | (go_split_ands;refine⟨?_,?_⟩ <;> go_keep))
  ((go_at_call 153;refine(za HC1).mono ?_;rintro e w4 ⟨rfl,r0,r1,r2,HX⟩))
 clear HC1 c1 c3 c4
 go_wp2
 go_ret
 obtain⟨S',hs,ht⟩:=za HX
 exact⟨rfl,S',gn,kc,hs,ht⟩
end
end Go.Proofs.YtchmlnmhbfaclaaGreatDoor
