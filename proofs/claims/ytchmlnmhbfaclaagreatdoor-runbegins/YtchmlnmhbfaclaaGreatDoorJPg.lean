/-
  Parts of the proofs, joined by program.
-/
import Derived.Test.YtchmlnmhbfaclaaGreatDoorJDev
import Derived.Test.YtchmlnmhbfaclaaGreatDoorJStm
import Derived.Test.YtchmlnmhbfaclaaGreatDoorJPgp
import Derived.BigQuiet
import Derived.Maps.OwnSet
import Derived.Maps.AppendAt
import Derived.Test.YtchmlnmhbfaclaaGreatDoorJNum
import Derived.Deep.RegionHeld3
import Derived.Deep.QuietTactic
namespace Go.Proofs.YtchmlnmhbfaclaaGreatDoor
open Go.RowKit
set_option linter.unusedVariables false
def PgAt(w:World)(q p:Nat)(s:Int):Prop:=w.heap[q]?=some (.cells #[.pointer (some ⟨p,0,none⟩),.int .i64 s] 212 (0,0))
theorem PgAt.c0{w:World}{q p:Nat}{s:Int}(h:PgAt w q p s):w.cell? ⟨q,0,none⟩=some (.pointer (some ⟨p,0,none⟩)):=by
 rw [cell_of_row w q 0 _ _ (0,0) h];rfl
theorem PgAt.c1{w:World}{q p:Nat}{s:Int}(h:PgAt w q p s):w.cell? ⟨q,1,none⟩=some (.int .i64 s):=by
 rw [cell_of_row w q 1 _ _ (0,0) h];rfl
theorem PgAt.lt{w:World}{q p:Nat}{s:Int}(h:PgAt w q p s):q<w.heap.size:=(Array.getElem?_eq_some_iff.1 h).1
theorem PgAt.fr{w:World}{q p:Nat}{s:Int}(h:PgAt w q p s)(i:Nat):w.frozen? ⟨q,i,none⟩=false:=frozen_of_row w q i _ _ h
theorem PgAt.same{w w':World}{q p:Nat}{s:Int}(h:PgAt w q p s)(e:w'.heap[q]?=w.heap[q]?):PgAt w' q p s:=e.trans h
theorem PgAt.below{w w':World}{q p:Nat}{s:Int}(h:PgAt w q p s)(hb:Below w.heap.size w w'):PgAt w' q p s:=h.same (hb.block q h.lt)
theorem PgAt.turn{w w':World}{S S':Nat->Prop}{q p:Nat}{s:Int}(h:PgAt w q p s)(ht:Turn S S' w w')(hn:¬ S q):PgAt w' q p s/\¬ S' q:=⟨h.same (ht.block q h.lt hn),fun hs=>hn (ht.foot q h.lt hs)⟩
theorem PgAt.set{w:World}{q p:Nat}{s:Int}(h:PgAt w q p s)(t:Int):PgAt (w.setCell ⟨q,1,none⟩ (.int .i64 t)) q p t:=by
 unfold PgAt
 rw [heap_setCell_same _ _ _ _ _ _ h]
 rfl
def Zk(n:Nat):Int:=if (n:Int)-48<=200 then (n:Int)-48 else 200
section
variable {w:World} {p q:Nat} {S:Nat->Prop} {D:DS} {s:Int}
theorem zar(h:Dev w p S D) :
  Calls Tryz.prog 115 #[.pointer (some ⟨p,0,none⟩)] w fun e w'=>e=.returned (.int .i64 (Zk D.secs.length))/\w=w':=by
 have hlen:=h.ok.len
 have HL:=zb (zlK h)
 clear h
 generalize D.secs.length=n at *
 unfold Zk
 by_cases hc:(n:Int)-48<=200
 ·rw [if_pos hc]
  go_enter Tryz.func115,Tryz.ntmps115
  go_wp2_with fail
  refine(za HL).mono ?_
  rintro e w1 ⟨rfl,rfl⟩
  go_wp2
  all_goals go_ret
  all_goals first | exact⟨rfl,rfl⟩ | (exfalso;omega) | exact⟨congrArg (fun z=>Ending.returned (Value.int .i64 z)) (by omega),rfl⟩
 ·rw [if_neg hc]
  go_enter Tryz.func115,Tryz.ntmps115
  go_wp2_with fail
  refine(za HL).mono ?_
  rintro e w1 ⟨rfl,rfl⟩
  go_wp2
  all_goals go_ret
  all_goals first | exact⟨rfl,rfl⟩ | (exfalso;omega) | exact⟨congrArg (fun z=>Ending.returned (Value.int .i64 z)) (by omega),rfl⟩
theorem zhT(h:Dev w p S D)(hq:PgAt w q p s) :
  Calls Tryz.prog 76 #[.pointer (some ⟨q,0,none⟩)] w fun e w'=>e=.returned (.int .i64 (Zk D.secs.length))/\w=w':=by
 have c0:=hq.c0
 have HC:=zb (zar h)
 clear h hq
 go_enter Tryz.func76,Tryz.ntmps76
 go_wp2_with fail
 refine(za HC).mono ?_
 rintro e w1 ⟨rfl,rfl⟩
 go_wp2
 go_ret
 exact⟨rfl,rfl⟩
theorem zoI(hq:PgAt w q p s) :
  Calls Tryz.prog 155 #[.pointer (some ⟨q,0,none⟩)] w fun e w'=>e=.returned (.int .i64 s)/\w=w':=by
 have c1:=hq.c1
 clear hq
 go_enter Tryz.func155,Tryz.ntmps155
 go_wp2
 go_ret
 exact⟨rfl,rfl⟩
def zzN(n:Nat)(i:Int):Bool:=decide (0<=i/\i<Zk n)
theorem zhU(h:Dev w p S D)(hq:PgAt w q p s)(i:Int) :
  Calls Tryz.prog 270 #[.pointer (some ⟨q,0,none⟩),.int .i64 i] w fun e w'=>e=.returned (.bool (zzN D.secs.length i))/\w=w':=by
 have HC:=zb (zhT h hq)
 clear h hq
 unfold zzN
 generalize Zk D.secs.length=n at *
 by_cases h0:0<=i
 ·by_cases h1:i<n
  ·rw [decide_eq_true ⟨h0,h1⟩]
   go_enter Tryz.func270,Tryz.ntmps270
   go_wp2_with fail
   refine(za HC).mono ?_
   rintro e w1 ⟨rfl,rfl⟩
   go_wp2
   go_ret
   exact⟨rfl,rfl⟩
  ·rw [decide_eq_false (fun h:0<=i/\i<n=>h1 h.2)]
   go_enter Tryz.func270,Tryz.ntmps270
   go_wp2_with fail
   refine(za HC).mono ?_
   rintro e w1 ⟨rfl,rfl⟩
   go_wp2
   go_ret
   exact⟨congrArg (fun z=>Ending.returned (Value.bool z)) (decide_eq_false (by omega)),rfl⟩
 ·rw [decide_eq_false (fun h=>h0 h.1)]
  go_enter Tryz.func270,Tryz.ntmps270
  go_wp2
  go_ret
  exact⟨rfl,rfl⟩
theorem zrc(h:Dev w p S D)(hq:PgAt w q p s) :
  Calls Tryz.prog 249 #[.pointer (some ⟨q,0,none⟩)] w fun e w'=>e=.returned (zK (if D.down then 9 else 0))/\w=w':=by
 have c0:=hq.c0
 obtain⟨sb,bm,pv,h'⟩:=h
 have HC:=zb (znF h')
 clear h' hq
 cases hd:D.down
 ·rw [hd] at HC
  go_enter Tryz.func249,Tryz.ntmps249
  go_wp2_with fail
  refine(za HC).mono ?_
  rintro e w1 ⟨rfl,rfl⟩
  go_wp2
  go_ret
  exact⟨rfl,rfl⟩
 ·rw [hd] at HC
  go_enter Tryz.func249,Tryz.ntmps249
  go_wp2_with fail
  refine(za HC).mono ?_
  rintro e w1 ⟨rfl,rfl⟩
  go_wp2
  go_ret
  exact⟨rfl,rfl⟩
theorem zrh(h:Dev w p S D)(hq:PgAt w q p s)(i:Nat)(hi:zzN D.secs.length i=true)(hd:D.down=false) :
  Calls Tryz.prog 214 #[.pointer (some ⟨q,0,none⟩),.int .i64 i] w fun e w'=>∃ g,e=.returned (.tuple #[.slice (some ⟨g,0,none⟩) 32 32,.nilIface])/\w.heap.size<=g/\Blk w' g (D.rd (48+i))/\Below w.heap.size w w':=by
 have c0:=hq.c0
 have hhas:=zhU h hq i
 rw [hi] at hhas
 have hb2:=of_decide_eq_true hi
 have hlt:48+i<D.secs.length/\i<200:=by
  have h2:=hb2.2
  unfold Zk at h2
  split at h2 <;> omega
 have hr:=zmV (48+i) h hlt.1 hd
 have hi2:=hlt.2
 rw [show((48+i:Nat):Int)=48+(i:Int) by omega] at hr
 have HC:=zb hhas
 have HR:=zb hr
 clear hhas h hq hr hb2 hi hlt
 go_enter Tryz.func214,Tryz.ntmps214
 go_wp2_with fail
 refine(za HC).mono ?_
 rintro e w1 ⟨rfl,rfl⟩
 go_wp2_with fail
 refine(za HR).mono ?_
 rintro e w1 ⟨g,rfl,h1,h2,h3⟩
 go_wp2
 go_ret2
 exact⟨g,rfl,h1,h2,h3⟩
theorem zgS(g:Nat)(a:Int)(k:Nat)(w:World)(ha:a=0\/a=1)(hk:k<=1000)(hg:w.cell? ⟨g,0,none⟩=some (.int .i64 a)) :
  Calls Tryz.prog 299 #[.int .i64 k,.pointer (some ⟨g,0,none⟩)] w fun e w'=>e=.returned (.int .i64 (2+23 * a+k))/\w=w':=by
 have h0:0<=a:=by omega
 have h1:a<=1:=by omega
 have e:2+a * 23+(k:Int)=2+23 * a+k:=by omega
 clear ha
 rw [<- e]
 clear e
 go_enter Tryz.func299,Tryz.ntmps299
 go_wp2
 go_ret
 exact⟨rfl,rfl⟩
theorem zj7(g:Nat)(b cap n:Nat)(k:Nat)(z:Int)(w:World)(hk:k<n)(hn:n<=1000)(hz:0<=z/\z<=1000)(hg:w.cell? ⟨g,0,none⟩=some (.slice (some ⟨b,0,none⟩) n cap))(hb:w.cell? ⟨b,k,none⟩=some (.int .i64 z)) :
  Calls Tryz.prog 300 #[.int .i64 k,.pointer (some ⟨g,0,none⟩)] w fun e w'=>e=.returned (.int .i64 (48+z))/\w=w':=by
 obtain⟨z0,z1⟩:=hz
 go_enter Tryz.func300,Tryz.ntmps300
 go_wp2
 go_ret
 exact⟨rfl,rfl⟩
theorem zmg(g:Nat)(a:Int)(k:Int)(w:World)(hg:w.cell? ⟨g,0,none⟩=some (.int .i64 a)) :
  Calls Tryz.prog 252 #[.int .i64 k,.pointer (some ⟨g,0,none⟩)] w fun e w'=>e=.returned (.int .i64 a)/\w=w':=by
 go_enter Tryz.func252,Tryz.ntmps252
 go_wp2
 go_ret
 exact⟨rfl,rfl⟩
theorem zlZ(k:Int)(w:World) :
  Calls Tryz.prog 118 #[.int .i64 k] w fun e w'=>e=.returned (.int .i64 k)/\w=w':=by
 go_enter Tryz.func118,Tryz.ntmps118
 go_wp2
 go_ret
 exact⟨rfl,rfl⟩
theorem zji(a:Int)(w:World) :
  Calls Tryz.prog 246 #[.int .i64 a] w fun e w'=>e=.returned (.func (.func 299) #[] #[.pointer (some ⟨w.heap.size,0,none⟩)])/\w'=w.alloc (.cells #[.int .i64 a] 3):=by
 go_enter Tryz.func246,Tryz.ntmps246
 go_wp2
 go_ret
 exact⟨rfl,rfl⟩
theorem zny(v:Option Addr)(n cap:Nat)(w:World) :
  Calls Tryz.prog 247 #[.slice v n cap] w fun e w'=>e=.returned (.func (.func 300) #[] #[.pointer (some ⟨w.heap.size,0,none⟩)])/\w'=w.alloc (.cells #[.slice v n cap] 90):=by
 go_enter Tryz.func247,Tryz.ntmps247
 go_wp2
 go_ret
 exact⟨rfl,rfl⟩
theorem zua(t:Int)(nv:Value)(w:World)(h0:0<=t)(h1:t<=4294967296) :
  Calls Tryz.prog 251 #[.agg #[.int .i64 t,nv]] w fun e w'=>e=.returned (.int .i64 (t % 2))/\Below w.heap.size w w':=by
 have hb:=zlT t h0 h1
 go_enter Tryz.func251,Tryz.ntmps251
 go_wp2
 go_ret
 refine⟨?_,(Below.refl _ _).alloc (Nat.le_refl _) _⟩
 first | rfl | (rw [hb])
end
def Bods(w:World)(S:Nat->Prop)(b n:Nat)(B:Nat->List Int):Prop :=
 ¬ S b/\∀ k,k<n->∃ ab capb,w.cell? ⟨b,k,none⟩=some (.slice ab (B k).length capb)/\Bs w ab capb (B k)/\(B k≠[]->∀ x,ab=some x->¬ S x.block)
theorem Bs.lt{w:World}{a:Option Addr}{cap:Nat}{l:List Int}(h:Bs w a cap l)(hne:l≠[]){x:Addr}(hx:a=some x):x.block<w.heap.size:=by
 obtain⟨b,off,rfl,hc⟩:=h.2.2.2.2 hne
 obtain rfl:=Option.some.inj hx
 exact block_lt_of_cell (hc 0 (by cases l with | nil=>exact absurd rfl hne | cons _ _=>simp))
theorem Bs.turns{w w':World}{S S':Nat->Prop}{a:Option Addr}{cap:Nat}{l:List Int}(h:Bs w a cap l)(hn:l≠[]->∀ x,a=some x->¬ S x.block)(ht:Turn S S' w w'):Bs w' a cap l/\(l≠[]->∀ x,a=some x->¬ S' x.block):=by
 by_cases h0:l=[]
 ·subst h0
  exact⟨⟨h.1,h.2.1,h.2.2.1,h.2.2.2.1,fun e=>absurd rfl e⟩,fun e=>absurd rfl e⟩
 ·exact⟨h.turn ht (hn h0),fun _ x hx hs=>hn h0 x hx (ht.foot _ (h.lt h0 hx) hs)⟩
theorem Bods.turn{w w':World}{S S':Nat->Prop}{b n:Nat}{B:Nat->List Int}(h:Bods w S b n B)(ht:Turn S S' w w')(hb:b<w.heap.size):Bods w' S' b n B:=by
 refine⟨fun hs=>h.1 (ht.foot b hb hs),fun k hk=>?_⟩
 obtain⟨ab,capb,h1,h2,h3⟩:=h.2 k hk
 obtain⟨h4,h5⟩:=h2.turns h3 ht
 exact⟨ab,capb,(World.cell?_of_block (a:=⟨b,k,none⟩) (ht.block b hb h.1)).trans h1,h4,h5⟩
section
variable {w0 w:World} {p:Nat} {S:Nat->Prop} {D:DS}
set_option maxRecDepth 100000 in
set_option maxHeartbeats 400000 in
theorem zbh(F g b n cap:Nat)(B:Nat->List Int)(f:Nat->Int)(h:Live w0 w p S D)(hb:Bods w S b n B)(hbl:b<w.heap.size)(hn:n<=300)(hnc:n<=cap)
  (hF:∀ args w',(callFunc F args).run Tryz.prog w'=.ok (.enter F args) w')
  (hf:∀ w' S',Turn S S' w w'->∀ k:Nat,k<n->Calls Tryz.prog F #[.int .i64 k,.pointer (some ⟨g,0,none⟩)] w' fun e w''=>e=.returned (.int .i64 (f k))/\w'=w'') :
  Calls Tryz.prog 117 #[.pointer (some ⟨p,0,none⟩),.slice (some ⟨b,0,none⟩) n cap,.func (.func F) #[] #[.pointer (some ⟨g,0,none⟩)]] w fun e w' =>
   e=.returned (zK (Qr (wsF (D,0) (fun i=>(f i,B i)) n)).2)/\∃ S',Live w0 w' p S' (Qr (wsF (D,0) (fun i=>(f i,B i)) n)).1/\Turn S S' w w':=by
 obtain⟨W,hW⟩:∃ W:Nat->DS×Int,W=wsF (D,0) (fun i=>(f i,B i)):=⟨_,rfl⟩
 have W0:W 0=(D,0):=by rw [hW];rfl
 have WS:∀ k,W (k+1)=Qq (W k) (f k) (B k):=by intro k;rw [hW];rfl
 have WL:∀ k,(W k).2≠0->∀ m,k<=m->W m=W k:=by intro k hk m hm;rw [hW] at hk ⊢;exact zdf hk m hm
 rw [<- hW]
 have H:=zb h
 have HB:=zb hb
 have HF:=zb hf
 have HFF:=zb hF
 clear h hb hf hW hF
 have HW:Hid (W 0=(D,0)/\(∀ k,W (k+1)=Qq (W k) (f k) (B k))/\∀ k,(W k).2≠0->∀ m,k<=m->W m=W k):=zb ⟨W0,WS,WL⟩
 clear W0 WS WL
 go_enter Tryz.func117,Tryz.ntmps117
 go_wp2_with fail
 go_loopw [12] (fun v wr=>∃ k:Nat,k<=n/\v=.int .i64 k/\(W k).2=0/\∃ S1,Live w0 wr p S1 (W k).1/\Turn S S1 w wr) (fun v _=>n-(intOf v).toNat)
 case atStart=>exact⟨0,Nat.zero_le _,rfl,by rw [(za HW).1],S,by rw [(za HW).1];exact za H,Turn.refl _ _⟩
 case round =>
  obtain⟨k,hk,rfl,hz,S1,hl,ht⟩:=hrel
  by_cases hlt:k<n
  ·have hbk:=(za HB).turn ht hbl
   obtain⟨ab,capb,hc1,hc2,hc3⟩:=hbk.2 k hlt
   have hcf:=za HF wr S1 ht k hlt
   have hwr:=hl.write (f k) (a:=ab) (cap:=capb) (l:=B k) ⟨hc2,hc3⟩
   have hstep:=(za HW).2.1 k
   rw [ziK hz] at hstep
   have HC:=zb hcf
   have HR:=zb hwr
   have HT:=zb ht
   have HS:=zb hstep
   have hblen:=hc2.2.2.1
   clear hcf hwr ht hc2 hc3 hbk hl hstep
   generalize (W k).1.writeE (f k) (B k)=E at HR HS
   generalize (W k).1.write (f k) (B k)=D2 at HR HS
   generalize (B k).length=bl at hc1 HR hblen
   generalize f k=fk at HR HC
   go_wp2_with fail
   rw [za HFF,Oper.upon_enter]
   refine(za HC).mono ?_
   rintro e w1 ⟨rfl,rfl⟩
   go_wp2_with fail
   refine(za HR).mono ?_
   rintro e w1 ⟨rfl,S2,hl2,ht2⟩
   by_cases hE0:E=0
   ·subst hE0
    rw [zf]
    go_wp2
    go_roundw
    case rel=>exact⟨k+1,by omega,by go_num,by rw [za HS],S2,by rw [za HS];exact hl2,(za HT).trans ht2⟩
    case measure=>simp [intOf];omega
   ·rw [zh _ hE0]
    go_wp2
    go_ret
    have he:W n=W (k+1):=(za HW).2.2 (k+1) (by rw [za HS];exact hE0) n (by omega)
    have hx:Qr (W n)=(D2,E):=by rw [he,za HS];exact QS hE0
    refine⟨by rw [hx];exact congrArg Ending.returned (zh _ hE0).symm,S2,by rw [hx];exact hl2,(za HT).trans ht2⟩
  ·obtain rfl:k=n:=by omega
   have hfl:=hl.flush
   have HR:=zb hfl
   have HT:=zb ht
   clear hfl ht hl
   go_wp2_with fail
   refine(za HR).mono ?_
   rintro e w1 ⟨rfl,S2,hl2,ht2⟩
   go_wp2
   go_ret
   rw [ziL hz]
   exact⟨rfl,S2,hl2,(za HT).trans ht2⟩
set_option maxRecDepth 100000 in
set_option maxHeartbeats 400000 in
theorem zkM(F b n cap:Nat)(B:Nat->List Int)(f:Nat->Int)(h:Live w0 w p S D)(hb:Bods w S b n B)(hbl:b<w.heap.size)(hn:n<=300)(hnc:n<=cap)
  (hF:∀ args w',(callFunc F args).run Tryz.prog w'=.ok (.enter F args) w')
  (hf:∀ w' S',Turn S S' w w'->∀ k:Nat,k<n->Calls Tryz.prog F #[.int .i64 k] w' fun e w''=>e=.returned (.int .i64 (f k))/\w'=w'') :
  Calls Tryz.prog 117 #[.pointer (some ⟨p,0,none⟩),.slice (some ⟨b,0,none⟩) n cap,.func (.func F) #[] #[]] w fun e w' =>
   e=.returned (zK (Qr (wsF (D,0) (fun i=>(f i,B i)) n)).2)/\∃ S',Live w0 w' p S' (Qr (wsF (D,0) (fun i=>(f i,B i)) n)).1/\Turn S S' w w':=by
 obtain⟨W,hW⟩:∃ W:Nat->DS×Int,W=wsF (D,0) (fun i=>(f i,B i)):=⟨_,rfl⟩
 have W0:W 0=(D,0):=by rw [hW];rfl
 have WS:∀ k,W (k+1)=Qq (W k) (f k) (B k):=by intro k;rw [hW];rfl
 have WL:∀ k,(W k).2≠0->∀ m,k<=m->W m=W k:=by intro k hk m hm;rw [hW] at hk ⊢;exact zdf hk m hm
 rw [<- hW]
 have H:=zb h
 have HB:=zb hb
 have HF:=zb hf
 have HFF:=zb hF
 clear h hb hf hW hF
 have HW:Hid (W 0=(D,0)/\(∀ k,W (k+1)=Qq (W k) (f k) (B k))/\∀ k,(W k).2≠0->∀ m,k<=m->W m=W k):=zb ⟨W0,WS,WL⟩
 clear W0 WS WL
 go_enter Tryz.func117,Tryz.ntmps117
 go_wp2_with fail
 go_loopw [12] (fun v wr=>∃ k:Nat,k<=n/\v=.int .i64 k/\(W k).2=0/\∃ S1,Live w0 wr p S1 (W k).1/\Turn S S1 w wr) (fun v _=>n-(intOf v).toNat)
 case atStart=>exact⟨0,Nat.zero_le _,rfl,by rw [(za HW).1],S,by rw [(za HW).1];exact za H,Turn.refl _ _⟩
 case round =>
  obtain⟨k,hk,rfl,hz,S1,hl,ht⟩:=hrel
  by_cases hlt:k<n
  ·have hbk:=(za HB).turn ht hbl
   obtain⟨ab,capb,hc1,hc2,hc3⟩:=hbk.2 k hlt
   have hcf:=za HF wr S1 ht k hlt
   have hwr:=hl.write (f k) (a:=ab) (cap:=capb) (l:=B k) ⟨hc2,hc3⟩
   have hstep:=(za HW).2.1 k
   rw [ziK hz] at hstep
   have HC:=zb hcf
   have HR:=zb hwr
   have HT:=zb ht
   have HS:=zb hstep
   have hblen:=hc2.2.2.1
   clear hcf hwr ht hc2 hc3 hbk hl hstep
   generalize (W k).1.writeE (f k) (B k)=E at HR HS
   generalize (W k).1.write (f k) (B k)=D2 at HR HS
   generalize (B k).length=bl at hc1 HR hblen
   generalize f k=fk at HR HC
   go_wp2_with fail
   rw [za HFF,Oper.upon_enter]
   refine(za HC).mono ?_
   rintro e w1 ⟨rfl,rfl⟩
   go_wp2_with fail
   refine(za HR).mono ?_
   rintro e w1 ⟨rfl,S2,hl2,ht2⟩
   by_cases hE0:E=0
   ·subst hE0
    rw [zf]
    go_wp2
    go_roundw
    case rel=>exact⟨k+1,by omega,by go_num,by rw [za HS],S2,by rw [za HS];exact hl2,(za HT).trans ht2⟩
    case measure=>simp [intOf];omega
   ·rw [zh _ hE0]
    go_wp2
    go_ret
    have he:W n=W (k+1):=(za HW).2.2 (k+1) (by rw [za HS];exact hE0) n (by omega)
    have hx:Qr (W n)=(D2,E):=by rw [he,za HS];exact QS hE0
    refine⟨by rw [hx];exact congrArg Ending.returned (zh _ hE0).symm,S2,by rw [hx];exact hl2,(za HT).trans ht2⟩
  ·obtain rfl:k=n:=by omega
   have hfl:=hl.flush
   have HR:=zb hfl
   have HT:=zb ht
   clear hfl ht hl
   go_wp2_with fail
   refine(za HR).mono ?_
   rintro e w1 ⟨rfl,S2,hl2,ht2⟩
   go_wp2
   go_ret
   rw [ziL hz]
   exact⟨rfl,S2,hl2,(za HT).trans ht2⟩
end
end Go.Proofs.YtchmlnmhbfaclaaGreatDoor
namespace Go.Proofs.YtchmlnmhbfaclaaGreatDoor
open Go.RowKit Go.MapKept Go.ChangeMaps
open Go.Maps (Keyed)
set_option linter.unusedVariables false
def PgsO(w:World)(S:Nat->Prop)(a:Option Addr)(cap:Nat)(l:List (Int×List Int)):Prop :=
 l.length<=cap/\l.length<=140737488351232/\(l≠[]->∃ b off,a=some ⟨b,off,none⟩/\¬ S b/\∀ i,i<l.length->w.cell? ⟨b,off+i * 2,none⟩=some (.int .i64 (l.getD i (0,[])).1) /\
  ∃ ab capb,w.cell? ⟨b,off+(i * 2+1),none⟩=some (.slice ab (l.getD i (0,[])).2.length capb)/\Bs w ab capb (l.getD i (0,[])).2/\((l.getD i (0,[])).2≠[]->∀ x,ab=some x->¬ S x.block)/\-9223372036854775808<=(l.getD i (0,[])).1/\(l.getD i (0,[])).1<=9223372036854775807)
def Plc(w:World)(m k:Nat)(l:List (Int×List Int)):Prop :=
 ∃ Dm:DataW Unit,w.ownsMap Tryz.prog 3 (plainElem Tryz.prog 3) m k Dm/\∀ z:Int,Maps.has Dm (.int .i64 z)=(List.range k).any (fun j=>(l.getD j (0,[])).1 == z)
theorem Plc.made(w:World)(l:List (Int×List Int)):Plc (w.alloc (.map #[] 0)) w.heap.size 0 l:=⟨.map [],World.ownsMap_made w _ _ _,fun z=>rfl⟩
theorem Plc.lt{w:World}{m k:Nat}{l:List (Int×List Int)}(h:Plc w m k l):m<w.heap.size:=by
 obtain⟨Dm,h1,_⟩:=h
 exact h1.lt
theorem Plc.same{w w':World}{m k:Nat}{l:List (Int×List Int)}(h:Plc w m k l)(hs:w'.heap[m]?=w.heap[m]?):Plc w' m k l:=by
 obtain⟨Dm,⟨es,clock,hb,r⟩,h2⟩:=h
 exact⟨Dm,⟨es,clock,hs.trans hb,r⟩,h2⟩
theorem ztE(w:World):(zeroValue 3).run Tryz.prog w=.ok (.int .i64 0) w:=by
 obtain⟨i0,hi0,hz0,hz1,hz2⟩:=info_parts zdG
 simp [zeroValue,typeInfo,hi0,hz0]
theorem Plc.look{w:World}{m k:Nat}{l:List (Int×List Int)}(h:Plc w m k l)(z:Int)(hz:-9223372036854775808<=z/\z<=9223372036854775807) :
  ∃ v,(Instr.lookup 303 (.map (some m)) (.int .i64 z) true).run Tryz.prog w=.ok (.tuple #[.int .i64 v,.bool ((List.range k).any (fun j=>(l.getD j (0,[])).1 == z))]) w:=by
 obtain⟨Dm,h1,h2⟩:=h
 have hwf:(Lit.int .i64 z).wf=true:=WalkArith.wf_i64 hz
 have hkey:=Maps.keyOf_int_mk (P:=Tryz.prog) Tryz.underlying3 hwf
 obtain⟨v,ps,hrun,hv⟩:=h1.look_ok (Maps.int_keyed Tryz.underlying3) Tryz.underlying303 (ztE w) (plainElem_int Tryz.underlying3 (a:=0) (by decide)) hkey
 obtain⟨a,rfl,_⟩:=plainElem_int_inv Tryz.underlying3 hv
 exact⟨a,by rw [hrun,h2 z]⟩
theorem Plc.store{w:World}{m k:Nat}{l:List (Int×List Int)}(h:Plc w m k l)(hk:k<=300)(hz:-9223372036854775808<=(l.getD k (0,[])).1/\(l.getD k (0,[])).1<=9223372036854775807) :
  ∃ w',(Instr.mapUpdate 303 (.map (some m)) (.int .i64 (l.getD k (0,[])).1) (.int .i64 k)).run Tryz.prog w=.ok () w'/\Plc w' m (k+1) l/\w.mapTurned w' m:=by
 obtain⟨Dm,h1,h2⟩:=h
 have hwf:(Lit.int .i64 (l.getD k (0,[])).1).wf=true:=WalkArith.wf_i64 hz
 have hkey:=Maps.keyOf_int_mk (P:=Tryz.prog) Tryz.underlying3 hwf
 obtain⟨w',hrun,hown',ht⟩:=h1.store (Maps.int_keyed Tryz.underlying3) Tryz.underlying303 (by unfold maxLen;omega) hkey (plainElem_int Tryz.underlying3 (a:=(k:Int)) (WalkArith.wf_i64 (by omega)))
 have hlit:WideAt.IsKeyLit (.int .i64 (l.getD k (0,[])).1):=(Maps.int_keyed Tryz.underlying3).key hkey
 refine⟨w',hrun,⟨_,hown',fun z=>?_⟩,ht⟩
 rw [List.range_succ,List.any_append]
 by_cases hj:z=(l.getD k (0,[])).1
 ·subst hj
  rw [Maps.has_put_same h1.isMap hlit]
  simp
 ·have hne:Lit.int .i64 z≠Lit.int .i64 (l.getD k (0,[])).1:=by
   intro e;simp only [Lit.int.injEq,true_and] at e;exact hj e
  rw [Maps.has_put_other hne,h2 z]
  have e0:((l.getD k (0,[])).1 == z)=false:=by
   rw [beq_eq_false_iff_ne]
   exact fun e=>hj e.symm
  rw [List.any_cons,List.any_nil,e0,Bool.or_false,Bool.or_false]
theorem zkE{L:Int}{l:List (Int×List Int)}{k:Nat}(h:zeL L l k≠0):∀ m,k<=m->zeL L l m=zeL L l k
 | 0,hm=>by rw [show k=0 by omega]
 | m+1,hm=>by
  by_cases e:k=m+1
  ·rw [e]
  ·show(if zeL L l m=0 then _ else _)=_
   rw [zkE h m (by omega),if_neg h]
section
variable {w:World} {p q:Nat} {S:Nat->Prop} {D:DS} {s:Int}
theorem zpz(hq:PgAt w q p s)(a:Option Addr)(n cap:Nat)(hn:23<n)(hm:n<=140737488351232) :
  Calls Tryz.prog 248 #[.pointer (some ⟨q,0,none⟩),.slice a n cap] w fun e w'=>e=.returned (zK 4)/\w=w':=by
 go_enter Tryz.func248,Tryz.ntmps248
 go_wp2
 go_ret
 exact⟨rfl,rfl⟩
set_option maxRecDepth 100000 in
set_option maxHeartbeats 400000 in
theorem zpx(h:Dev w p S D)(hq:PgAt w q p s)(b off cap:Nat)(l:List (Int×List Int))(hl:PgsO w S (some ⟨b,off,none⟩) cap l)(hne:l≠[])(hn:l.length<=23) :
  Calls Tryz.prog 248 #[.pointer (some ⟨q,0,none⟩),.slice (some ⟨b,off,none⟩) l.length cap] w fun e w'=>e=.returned (zK (zeL (Zk D.secs.length) l l.length))/\Below w.heap.size w w':=by
 obtain⟨hl1,hl2,hl3⟩:=hl
 obtain⟨b',off',e',hSb,hcell⟩:=hl3 hne
 simp only [Option.some.injEq,Addr.mk.injEq,and_true] at e'
 obtain⟨rfl,rfl⟩:=e'
 have hmm:=@run_makeMap Tryz.prog
 generalize hL:Zk D.secs.length=L at *
 have H:=zb h
 have HQ:=zb hq
 have HC:=zb hcell
 have HL:=zb hL
 clear h hq hcell hl3 hL hne
 generalize hN:l.length=N at *
 have HN:=zb hN
 clear hN
 go_enter Tryz.func248,Tryz.ntmps248
 go_wp2_with fail
 go_loopw [17] (fun v wr=>∃ k:Nat,k<=N/\v=.int .i64 k/\Plc wr w.heap.size k l/\Below w.heap.size w wr/\zeL L l k=0) (fun v _=>N-(intOf v).toNat)
 case atStart=>exact⟨0,Nat.zero_le _,rfl,Plc.made w l,(Below.refl _ _).alloc (Nat.le_refl _) _,rfl⟩
 case round =>
  obtain⟨k,hk,rfl,hplc,hbel,hz⟩:=hrel
  by_cases hlt:k<N
  ·obtain⟨c0,ab,capb,c1,hbs,_,hr1,hr2⟩:=za HC k hlt
   rw [<- hbel.cell (block_lt_of_cell c0)] at c0
   rw [<- hbel.cell (block_lt_of_cell c1)] at c1
   rw [<- Nat.add_assoc] at c1
   have hblen:=hbs.2.2.1
   have hb1:Below w.heap.size w (wr.alloc (.cells #[.int .i64 (l.getD k (0,[])).1,.slice ab (l.getD k (0,[])).2.length capb] 84)):=hbel.alloc hbel.size _
   have hp1:Plc (wr.alloc (.cells #[.int .i64 (l.getD k (0,[])).1,.slice ab (l.getD k (0,[])).2.length capb] 84)) w.heap.size k l:=hplc.same (heap_alloc_old _ _ hplc.lt)
   have hhas:=zhU ((za H).same hb1.size (fun j hj=>hb1.block j ((za H).lt j hj))) ((za HQ).same (hb1.block q (za HQ).lt)) (l.getD k (0,[])).1
   obtain⟨v,hlook⟩:=hp1.look (l.getD k (0,[])).1 ⟨hr1,hr2⟩
   obtain⟨w2,hst,hp2,htn⟩:=hp1.store (by omega) ⟨hr1,hr2⟩
   have hbel2:Below w.heap.size w w2:=hb1.grown htn.grown hb1.size (fun j hj=>by cases hj;exact Nat.le_refl _)
   have hch:zeL L l (k+1)=ZM L l k:=by show(if zeL L l k=0 then _ else _)=_;rw [if_pos hz]
   have hlate:ZM L l k≠0->zeL L l N=ZM L l k:=fun hp=>by rw [zkE (k:=k+1) (by rw [hch];exact hp) N (by omega),hch]
   unfold ZM at hch hlate
   unfold zzN at hhas
   rw [za HL] at hhas
   have HH:=zb hhas
   have HP2:=zb hp2
   have HB2:=zb hbel2
   have HB1:=zb hb1
   have HCH:=zb hch
   have HLT:=zb hlate
   clear hhas hp2 hp1 hbel2 hb1 htn hbel hplc hz hbs hch hlate
   generalize (l.getD k (0,[])).1=z at *
   generalize (l.getD k (0,[])).2.length=bl at *
   generalize (List.range k).any (fun j=>(l.getD j (0,[])).1 == z)=A at *
   by_cases hc1:z<0\/L<=z
   ·rw [decide_eq_false (by omega)] at HH
    have HE:Hid (zeL L l N=1):=zb (by have:=za HLT;rw [if_pos hc1] at this;exact this (by decide))
    clear HLT HCH hlook hst hc1
    go_wp2_with fail
    refine(za HH).mono ?_
    rintro e w1 ⟨rfl,rfl⟩
    go_wp2
    go_ret
    exact⟨by rw [za HE];rfl,za HB1⟩
   ·rw [decide_eq_true (by omega)] at HH
    have HLT2:=HLT
    have HCH2:=HCH
    rw [if_neg hc1] at HLT2 HCH2
    by_cases hc2:bl≠32
    ·have HE:Hid (zeL L l N=3):=zb (by have:=za HLT2;rw [if_pos hc2] at this;exact this (by decide))
     have hc2':¬ (bl:Int)=32:=by omega
     clear HLT HCH HLT2 HCH2 hlook hst hc1 hc2
     go_wp2_with fail
     refine(za HH).mono ?_
     rintro e w1 ⟨rfl,rfl⟩
     go_wp2
     go_ret
     exact⟨by rw [za HE];rfl,za HB1⟩
    ·rw [if_neg hc2] at HLT2 HCH2
     obtain rfl:bl=32:=by omega
     cases A
     ·have HE:Hid (zeL L l (k+1)=0):=zb (by have:=za HCH2;rw [if_neg (by decide)] at this;exact this)
      clear HLT HCH HLT2 HCH2 hc1 hc2
      go_wp2_with fail
      refine(za HH).mono ?_
      rintro e w1 ⟨rfl,rfl⟩
      go_wp2
      go_roundw
      case rel=>exact⟨k+1,by omega,by go_num,za HP2,za HB2,za HE⟩
      case measure=>simp [intOf];omega
     ·have HE:Hid (zeL L l N=7):=zb (by have:=za HLT2;rw [if_pos rfl] at this;exact this (by decide))
      clear HLT HCH HLT2 HCH2 hc1 hc2 hst
      go_wp2_with fail
      refine(za HH).mono ?_
      rintro e w1 ⟨rfl,rfl⟩
      go_wp2
      go_ret
      exact⟨by rw [za HE];rfl,za HB1⟩
  ·obtain rfl:k=N:=by omega
   go_wp2
   go_ret
   exact⟨by rw [hz];rfl,hbel⟩
end
end Go.Proofs.YtchmlnmhbfaclaaGreatDoor
namespace Go.Proofs.YtchmlnmhbfaclaaGreatDoor
open Go.RowKit
set_option linter.unusedVariables false
section
variable {w:World} {p q:Nat} {S:Nat->Prop} {D:DS} {s:Int}
theorem zkF(a:Option Addr)(cap:Nat) :
  Calls Tryz.prog 248 #[.pointer (some ⟨q,0,none⟩),.slice a 0 cap] w fun e w'=>e=.returned (zK 0)/\Below w.heap.size w w':=by
 have hmm:=@run_makeMap Tryz.prog
 go_enter Tryz.func248,Tryz.ntmps248
 go_wp2_with fail
 go_loop [17] (fun v=>v=.int .i64 0) (fun _=>0)
 case atStart=>rfl
 case round =>
  subst hrel
  go_wp2
  go_ret
  exact⟨rfl,(Below.refl _ _).alloc (Nat.le_refl _) _⟩
theorem zg0(h:Dev w p S D)(hq:PgAt w q p s)(a:Option Addr)(cap:Nat)(l:List (Int×List Int))(hl:PgsO w S a cap l) :
  Calls Tryz.prog 248 #[.pointer (some ⟨q,0,none⟩),.slice a l.length cap] w fun e w'=>e=.returned (zK (zZ (Zk D.secs.length) l))/\Below w.heap.size w w':=by
 unfold zZ
 by_cases h1:23<l.length
 ·rw [if_pos h1]
  exact(zpz hq a l.length cap h1 hl.2.1).mono fun e w' ⟨he,hw⟩=>⟨he,by rw [hw];exact Below.refl _ _⟩
 ·rw [if_neg h1]
  by_cases h0:l=[]
  ·subst h0
   exact zkF a cap
  ·obtain⟨b,off,rfl,_⟩:=hl.2.2 h0
   exact zpx h hq b off cap l hl h0 (by omega)
def zBR(w:World)(b off i:Nat):Value:=(w.cell? ⟨b,off+(i * 2+1),none⟩).getD undef
theorem zrn(v:Option Addr)(n c:Nat):∀ u∈[Value.slice v n c],u.oneCell'=true:=by
 intro u hu
 simp at hu
 subst hu;rfl
theorem zdx{base e size:Nat}{v:Value}{n:Nat}{xs:List Value}(h:w.ownsRow base e size v n xs):∀ k,v.ownBlock=some k->base<=k:=by
 intro k hk
 rcases h.2 with ⟨rfl,_⟩ | ⟨g,cap,cur,rfl,hB,_⟩
 ·cases hk
 ·simp [Value.ownBlock] at hk
  omega
theorem zjI{base e size base' e' size':Nat}{v v':Value}{n n':Nat}{xs xs':List Value}(h:w.ownsRow base e size v n xs)(h':w.ownsRow base' e' size' v' n' xs')(he:e≠e'):∀ g,v.ownBlock=some g->v'.ownBlock≠some g:=by
 intro g hg hg'
 obtain⟨cur,h1⟩:=qI h hg
 obtain⟨cur',h2⟩:=qI h' hg'
 rw [h1] at h2
 simp at h2
 exact he h2.2
theorem zeS{w':World}{base e size:Nat}{v:Value}{n:Nat}{xs:List Value}{row:Option Nat}(h:w.ownsRow base e size v n xs)(hg:w.grownBy w' row)(hn:∀ g,v.ownBlock=some g->row≠some g):w'.ownsRow base e size v n xs :=
 qC h (fun g hg'=>hg.block g (by
  obtain⟨cur,h1⟩:=qI h hg'
  exact(Array.getElem?_eq_some_iff.1 h1).1) (fun e=>hn g hg' e.symm))
theorem zwL{base e size:Nat}{v:Value}{n:Nat}{xs:List Value}(h:w.ownsRow base e size v n xs):∀ g,v.ownBlock=some g->g<w.heap.size:=by
 intro g hg
 obtain⟨cur,h1⟩:=qI h hg
 exact(Array.getElem?_eq_some_iff.1 h1).1
theorem zgm(w:World)(x:Value)(t:TypeId):∀ j u,([x]:List Value)[j]?=some u->(w.alloc (.cells #[x] t)).cell? (Addr.add ⟨w.heap.size,0,none⟩ j)=some u:=by
 intro j u hj
 cases j with
 | zero =>
  simp at hj
  subst hj
  rw [addr_add,cell_of_row _ _ _ _ _ (0,0) (heap_alloc_new w _)]
  rfl
 | succ j=>simp at hj
def zyh(l:List (Int×List Int))(k:Nat):List Value:=(List.range k).map (fun i=>.int .i64 (l.getD i (0,[])).1)
def zkI(w:World)(b off k:Nat):List Value:=(List.range k).map (zBR w b off)
theorem zrq(l:List (Int×List Int))(k:Nat):zyh l (k+1)=zyh l k++[.int .i64 (l.getD k (0,[])).1]:=by simp [zyh,List.range_succ]
theorem zpE(w:World)(b off k:Nat):zkI w b off (k+1)=zkI w b off k++[zBR w b off k]:=by simp [zkI,List.range_succ]
set_option maxRecDepth 100000 in
set_option maxHeartbeats 400000 in
theorem zrf(b off cap:Nat)(l:List (Int×List Int))(hl:PgsO w S (some ⟨b,off,none⟩) cap l)(hne:l≠[])(hn:l.length<=23) :
  Calls Tryz.prog 250 #[.slice (some ⟨b,off,none⟩) l.length cap] w fun e w'=>∃ nv bv,e=.returned (.tuple #[nv,bv])/\w'.ownsRow w.heap.size 3 1 nv l.length (zyh l l.length)/\w'.ownsRow w.heap.size 29 1 bv l.length (zkI w b off l.length)/\Below w.heap.size w w':=by
 obtain⟨hl1,hl2,hl3⟩:=hl
 obtain⟨b',off',e',hSb,hcell⟩:=hl3 hne
 simp only [Option.some.injEq,Addr.mk.injEq,and_true] at e'
 obtain⟨rfl,rfl⟩:=e'
 have HC:=zb hcell
 clear hcell hl3 hne
 generalize hN:l.length=N at *
 have HN:=zb hN
 clear hN
 obtain⟨i0,hi0,hz0,hz1,hz2⟩:=info_parts zdG
 obtain⟨i1,hi1,hy0,hy1,hy2⟩:=info_parts zhc
 go_enter Tryz.func250,Tryz.ntmps250
 go_wp2_with fail
 go_loopw [2,3,8] (fun nv bv v wr=>∃ k:Nat,k<=N/\v=.int .i64 k/\wr.ownsRow w.heap.size 3 1 nv k (zyh l k)/\wr.ownsRow w.heap.size 29 1 bv k (zkI w b off k)/\Below w.heap.size w wr) (fun _ _ v _=>N-(intOf v).toNat)
 case atStart=>exact⟨0,Nat.zero_le _,rfl,World.ownsRow_nil _ _ _ _,World.ownsRow_nil _ _ _ _,Below.refl _ _⟩
 case round =>
  obtain⟨k,hk,rfl,hnv,hbv,hbel⟩:=hrel
  by_cases hlt:k<N
  ·obtain⟨c0,ab,capb,c1,hbs,_,hr1,hr2⟩:=za HC k hlt
   have hV:zBR w b off k=.slice ab (l.getD k (0,[])).2.length capb:=by unfold zBR;rw [c1];rfl
   rw [<- hbel.cell (block_lt_of_cell c0)] at c0
   rw [<- hbel.cell (block_lt_of_cell c1)] at c1
   rw [<- Nat.add_assoc] at c1
   have hblen:=hbs.2.2.1
   have hsz:=hbel.size
   have HO1:=zb (World.ownsRow.alloc (World.ownsRow.alloc hnv (.cells #[.int .i64 (l.getD k (0,[])).1,.slice ab (l.getD k (0,[])).2.length capb] 84)) (.cells #[.int .i64 (l.getD k (0,[])).1] 3))
   have HO2:=zb (World.ownsRow.alloc (World.ownsRow.alloc hbv (.cells #[.int .i64 (l.getD k (0,[])).1,.slice ab (l.getD k (0,[])).2.length capb] 84)) (.cells #[.int .i64 (l.getD k (0,[])).1] 3))
   have HB1:=zb ((hbel.alloc hsz (.cells #[.int .i64 (l.getD k (0,[])).1,.slice ab (l.getD k (0,[])).2.length capb] 84)).alloc (by simp;omega) (.cells #[.int .i64 (l.getD k (0,[])).1] 3))
   have HBK:=zb (zdx hnv)
   have HBK2:=zb (zdx hbv)
   have HAP:=zb (zjI hnv hbv (by decide))
   have HNS:=zb (zrq l k)
   have HBS:=zb (zpE w b off k)
   rw [hV] at HBS
   have HLT:=zb (zwL hnv)
   have HPG:Hid (∀ o:Obj,(wr.alloc o).heap[wr.heap.size]?=some o):=zb (fun o=>heap_alloc_new wr o)
   clear hnv hbv hbel hbs hV
   generalize (l.getD k (0,[])).1=z at *
   generalize (l.getD k (0,[])).2.length=bl at *
   go_wp2_with (at_builtin;refine wpList_append_own_at _ rfl _ _ 90 rfl w.heap.size 3 i0 (.int .i64 0) 1 8 Tryz.underlying90 hi0 hz0 hz1 hz2 rfl (by decide) _ _ _ rfl (za HO1) ⟨wr.heap.size+1,0,none⟩ 1 1 [.int .i64 z] rfl rfl (zdT _ _ _ _) (zlv _) (by unfold maxLen;omega) (by omega) (by simp;omega) ?_)
   intro v9 w9 hown9 hgrow9 _ _
   rw [<- za HNS] at hown9
   have hpg:w9.heap[wr.heap.size]?=some (.cells #[.int .i64 z,.slice ab bl capb] 84 (0,0)):=by
    rw [hgrow9.block wr.heap.size (by simp;omega) (fun e=>by have:=za HLT wr.heap.size e.symm;omega),heap_alloc_old _ _ (by simp),heap_alloc_new]
   have c3:w9.cell? ⟨wr.heap.size,1,none⟩=some (.slice ab bl capb):=by rw [cell_of_row w9 _ 1 _ _ (0,0) hpg];rfl
   have hb9:=(za HB1).grown hgrow9 (by simp;omega) (za HBK)
   have HB9:=zb (hb9.alloc hb9.size (.cells #[.slice ab bl capb] 29))
   have hsz9:=hb9.size
   have HN9:=zb (World.ownsRow.alloc hown9 (.cells #[.slice ab bl capb] 29))
   have hbv9:=zeS (za HO2) hgrow9 (fun g hg e=>za HAP g e hg)
   have HAP2:=zb (zjI hbv9 hown9 (by decide))
   have HO3:=zb (World.ownsRow.alloc hbv9 (.cells #[.slice ab bl capb] 29))
   clear hown9 hgrow9 hpg hb9 hbv9 HB1 HO1 HO2 HAP HNS HPG
   go_wp2_with (at_builtin;refine wpList_append_own_at _ rfl _ _ 60 rfl w.heap.size 29 i1 (.slice none 0 0) 1 24 Tryz.underlying60 hi1 hy0 hy1 hy2 rfl (by decide) _ _ _ rfl (za HO3) ⟨w9.heap.size,0,none⟩ 1 1 [.slice ab bl capb] rfl rfl (zgm _ _ _) (zrn _ _ _) (by unfold maxLen;omega) (by omega) (by simp;omega) ?_)
   intro v10 w10 hown10 hgrow10 _ _
   rw [<- za HBS] at hown10
   have HB10:=zb ((za HB9).grown hgrow10 (by simp;omega) (za HBK2))
   have HN10:=zb (zeS (za HN9) hgrow10 (fun g hg e=>za HAP2 g e hg))
   have HO10:=zb hown10
   clear hown10 hgrow10 HB9 HN9 HO3 HAP2 HBS
   go_wp2
   go_roundw
   case rel=>exact⟨k+1,by omega,by go_num,za HN10,za HO10,za HB10⟩
   case measure=>simp [intOf];omega
  ·obtain rfl:k=N:=by omega
   go_wp2
   go_ret2
   exact⟨_,_,rfl,hnv,hbv,hbel⟩
end
def Nums(w:World)(v:Value)(l:List Int):Prop:=Byt l/\∃ a cap,v=.slice a l.length cap/\(l≠[]->∃ g,a=some ⟨g,0,none⟩/\∀ i,i<l.length->w.cell? ⟨g,i,none⟩=some (.int .i64 (l.getD i 0)))
theorem Nums.nil(w:World):Nums w (.slice none 0 0) []:=⟨fun z hz=>(by cases hz),none,0,rfl,fun h=>absurd rfl h⟩
def ZU(l:List Int)(k:Nat):List Int:=(l.length:Int) :: l.take k
theorem zo0{l:List Int}{k:Nat}(h:k<l.length):ZU l (k+1)=ZU l k++[l.getD k 0]:=by
 unfold ZU
 rw [List.take_succ_eq_append_getElem h]
 simp [List.getD,h]
theorem zuF{w:World}{B g:Nat}{x:Int}(hB:B<=g)(h:w.heap[g]?=some (.cells #[.int .u8 x] 5 (0,0))):OwnV w B (.slice (some ⟨g,0,none⟩) 1 1) [x] :=
 ⟨rfl,.inr ⟨g,1,#[.int .u8 x],rfl,hB,h,Nat.le_refl _,by decide,rfl,rfl⟩⟩
section
variable {w:World}
set_option maxRecDepth 100000 in
set_option maxHeartbeats 400000 in
theorem zgT(t:Int)(nv:Value)(l:List Int)(hn:Nums w nv l)(hl:l.length<=23)(ht1:¬ t<1)(ht2:¬ 4294967295<t) :
  Calls Tryz.prog 116 #[.agg #[.int .i64 t,nv]] w fun e w'=>∃ g,e=.returned (.tuple #[.slice (some ⟨g,0,none⟩) 32 32,.nilIface])/\w.heap.size<=g/\Blk w' g (qQ t (ZU l l.length))/\Below w.heap.size w w':=by
 obtain⟨hbyt,a,cap,rfl,hcell⟩:=hn
 have HC:=zb hcell
 have HBY:=zb hbyt
 have HM:Hid (∀ (w1:World) a1 c1,Bs w1 a1 c1 (ZU l l.length)->Calls Tryz.prog 165 #[.int .i64 t,.slice a1 (l.length+1) c1] w1 fun e w'=>∃ g,e=.returned (.tuple #[.slice (some ⟨g,0,none⟩) 32 32,.nilIface])/\w1.heap.size<=g/\Blk w' g (qQ t (ZU l l.length))/\Below w1.heap.size w1 w'):=zb (fun w1 a1 c1 h=>by
  have:=znb t a1 c1 (ZU l l.length) w1 h ht1 ht2 (by simp [ZU];omega)
  rwa [show(ZU l l.length).length=l.length+1 by simp [ZU]] at this)
 generalize qQ t (ZU l l.length)=Z at *
 clear hcell hbyt
 obtain⟨i0,hi0,hz0,hz1,hz2⟩:=info_parts qG
 have hlb:(l.length:Int)<=255:=by omega
 go_enter Tryz.func116,Tryz.ntmps116
 go_wp2_with fail
 obtain⟨w1,hw1⟩:∃ w1,w1=w.alloc (.cells #[.int .i64 t,.slice a l.length cap] 207):=⟨_,rfl⟩
 have hs1:w1.heap.size=w.heap.size+1:=by rw [hw1];simp
 have hb1:Below w.heap.size w w1:=by rw [hw1];exact(Below.refl _ _).alloc (Nat.le_refl _) _
 have hm1:w1.heap[w.heap.size]?=some (.cells #[.int .i64 t,.slice a l.length cap] 207 (0,0)):=by rw [hw1];exact heap_alloc_new _ _
 rw [<- hw1]
 clear hw1
 have HS1:=zb hs1
 have HB1:=zb hb1
 have HM1:=zb hm1
 clear hs1 hb1 hm1
 go_loopw [4,15] (fun bv v wr=>∃ k:Nat,k<=l.length/\v=.int .i64 k/\OwnV wr (w.heap.size+1) bv (ZU l k)/\Below (w.heap.size+1) w1 wr) (fun _ v _=>l.length-(intOf v).toNat)
 case atStart =>
  refine⟨0,Nat.zero_le _,rfl,?_,?_⟩
  ·refine zuF (Nat.le_refl _) ?_
   rw [<- za HS1]
   exact heap_alloc_new _ _
  ·rw [<- za HS1]
   exact(Below.refl _ _).alloc (Nat.le_refl _) _
 case round =>
  obtain⟨k,hk,rfl,hown,hbel⟩:=hrel
  have hm:=(hbel.block w.heap.size (by omega)).trans (za HM1)
  have hsz:=hbel.size
  rw [za HS1] at hsz
  by_cases hlt:k<l.length
  ·obtain⟨g,rfl,hc⟩:=za HC (by intro e;rw [e] at hlt;cases hlt)
   have hc0:=hc k hlt
   have hblt:=block_lt_of_cell hc0
   rw [<- (za HB1).cell hblt,<- (hbel.mono (by omega:w.heap.size<=w.heap.size+1)).cell (Nat.lt_of_lt_of_le hblt (by have:=za HS1;omega))] at hc0
   obtain⟨z0,z1⟩:=(za HBY).getD k
   have HSU:=zb (zo0 hlt)
   unfold OwnV at hown
   rw [show(ZU l k).length=k+1 by simp [ZU];omega] at hown
   have HO:=zb (World.ownsRow.alloc hown (.cells #[.int .u8 (l.getD k 0)] 5))
   have HB2:=zb (hbel.alloc hsz (.cells #[.int .u8 (l.getD k 0)] 5))
   have HBK:=zb (zdx hown)
   clear hown hbel hm hc hblt
   generalize l.getD k 0=z at *
   go_wp2_with (at_builtin;refine wpList_append_own_at _ rfl _ _ 29 rfl (w.heap.size+1) 5 i0 (.int .u8 0) 1 1 Tryz.underlying29 hi0 hz0 hz1 hz2 rfl (by decide) _ _ _ rfl (za HO) ⟨wr.heap.size,0,none⟩ 1 1 [.int .u8 z] rfl rfl (zgm _ _ _) (oneCell_u8 [z]) (by unfold maxLen;omega) (by omega) (by simp;omega) ?_)
   intro v9 w9 hown9 hgrow9 _ _
   have HO9:Hid (OwnV w9 (w.heap.size+1) v9 (ZU l (k+1))):=zb (by
    unfold OwnV
    rw [za HSU,List.map_append]
    rw [show(ZU l k++[z]).length=k+1+1 by simp [ZU];omega]
    exact hown9)
   have HB9:=zb ((za HB2).grown hgrow9 (by simp;omega) (za HBK))
   clear hown9 hgrow9 HO HB2 HBK HSU
   go_wp2
   go_roundw
   case rel=>exact⟨k+1,by omega,by go_num,za HO9,za HB9⟩
   case measure=>simp [intOf];omega
  ·obtain rfl:k=l.length:=by omega
   have hbyt:Byt (ZU l l.length):=by
    intro z hz
    unfold ZU at hz
    rcases List.mem_cons.1 hz with rfl | hz
    ·omega
    ·exact za HBY z (List.mem_of_mem_take hz)
   have hmlen:(ZU l l.length).length=l.length+1:=by simp [ZU]
   obtain⟨a1,c1,rfl,hbs⟩:=hown.bs hbyt (by omega)
   have hmk:=za HM wr a1 c1 hbs
   rw [hmlen]
   have c0:wr.cell? ⟨w.heap.size,0,none⟩=some (.int .i64 t):=by rw [cell_of_row _ _ _ _ _ _ hm];rfl
   have HMK:=zb hmk
   have HBEL:=zb ((za HB1).trans (hbel.mono (by omega:w.heap.size<=w.heap.size+1)))
   clear hmk hbs hown hbel hm HM hbyt hmlen
   go_wp2_with fail
   refine(za HMK).mono ?_
   rintro e w2 ⟨g2,rfl,hg2,h2,h3⟩
   go_wp2
   go_ret2
   exact⟨g2,rfl,Nat.le_trans (za HBEL).size hg2,h2,(za HBEL).trans (h3.mono (za HBEL).size)⟩
end
def plus(S:Nat->Prop)(q:Nat):Nat->Prop:=fun k=>S k\/k=q
theorem Turn.plus{S S':Nat->Prop}{w w':World}(h:Turn S S' w w')(q:Nat):Turn (plus S q) (plus S' q) w w' :=
 ⟨h.os,h.tape,h.output,h.size,fun k hk hn=>h.block k hk (fun hs=>hn (.inl hs)),fun k hk hs=>by
  rcases hs with hs | hs
  ·exact .inl (h.foot k hk hs)
  ·exact .inr hs⟩
theorem zue:qQ 2 [0]=qQ 2 []:=by decide
theorem zxo(x:DS×Int)(f:Nat->Int×List Int):wsF x f 1=Qq x (f 0).1 (f 0).2:=rfl
theorem zxn(x:DS×Int)(f:Nat->Int×List Int):wsF x f 2=Qq (Qq x (f 0).1 (f 0).2) (f 1).1 (f 1).2:=rfl
def zwZ(i:Nat):List Int:=if i=0 then qQ 2 [] else zerosB 32
section
variable {w0 w:World} {p:Nat} {S:Nat->Prop} {D:DS}
set_option maxRecDepth 100000 in
set_option maxHeartbeats 400000 in
theorem zhe(h:Live w0 w p S D)(hc:¬ Zk D.secs.length<1) :
  Calls Tryz.prog 74 #[.pointer (some ⟨p,0,none⟩)] w fun e w'=>∃ v S',e=.returned (.tuple #[v,zK (zD D).2])/\Live w0 w' p S' (zD D).1/\Turn S S' w w' /\
   ((zD D).2=0->∃ q,v=.pointer (some ⟨q,0,none⟩)/\PgAt w' q p 2/\w.heap.size<=q/\¬ S' q)/\((zD D).2≠0->v=.pointer none):=by
 have HC:=zb (zar h.dev)
 have hsec:=zgT 2 (.slice none 0 0) [] (Nums.nil w) (by decide) (by decide) (by decide)
 have hmo:qQ 2 (ZU [] ([]:List Int).length)=qQ 2 []:=zue
 rw [hmo] at hsec
 have HSEC:=zb hsec
 have H:=zb h
 obtain⟨i0,hi0,hz0,hz1,hz2⟩:=info_parts qG
 generalize Zk D.secs.length=L at *
 clear h hsec hmo
 generalize hX:zD D=X
 have HX:=zb hX
 clear hX
 go_enter Tryz.func74,Tryz.ntmps74
 go_wp2_with fail
 refine(za HC).mono ?_
 rintro e w1 ⟨rfl,rfl⟩
 go_wp2_with fail
 refine(za HSEC).mono ?_
 rintro e w1 ⟨g1,rfl,hg1,hb1,hbel1⟩
 have HB1:=zb hb1
 have HBEL1:=zb hbel1
 clear hb1 hbel1 HSEC HC
 go_wp2_with (at_make;refine wpList_make_u8 rfl _ _ 29 rfl i0 Tryz.underlying29 hi0 hz0 hz1 hz2 _ _ _ _ 32 rfl rfl rfl rfl (by omega) ?_)
 intro w2 hk2 hs2 hbel2
 have hw1:w.heap.size<=w1.heap.size:=(za HBEL1).size
 have hbelA:Below w.heap.size w (w2.alloc (.cells #[.slice (some ⟨g1,0,none⟩) 32 32,.slice (some ⟨w1.heap.size,0,none⟩) 32 32] 29)):=((za HBEL1).trans (hbel2.mono hw1)).alloc (by omega) _
 have hlA:=(za H).below hbelA
 have hrow:=heap_alloc_new w2 (.cells #[.slice (some ⟨g1,0,none⟩) 32 32,.slice (some ⟨w1.heap.size,0,none⟩) 32 32] 29)
 have hbods:Bods (w2.alloc (.cells #[.slice (some ⟨g1,0,none⟩) 32 32,.slice (some ⟨w1.heap.size,0,none⟩) 32 32] 29)) S (w1.heap.size+1) 2 zwZ:=by
  rw [hs2] at hrow
  refine⟨fun hs=>by have:=(za H).dev.lt _ hs;omega,fun k hk=>?_⟩
  have hk2':k=0\/k=1:=by omega
  rcases hk2' with rfl | rfl
  ·refine⟨some ⟨g1,0,none⟩,32,?_,?_,fun _ x hx hs=>?_⟩
   ·rw [cell_of_row _ _ _ _ _ _ hrow,show zwZ 0=qQ 2 [] from rfl,zfu.1];rfl
   ·rw [show zwZ 0=qQ 2 [] from rfl]
    exact(zdW ((za HB1).below hbel2) zfu).below ((Below.refl _ _).alloc (Nat.le_refl _) _)
   ·obtain rfl:=Option.some.inj hx
    have:=(za H).dev.lt _ hs
    dsimp only at this
    omega
  ·refine⟨some ⟨w1.heap.size,0,none⟩,32,?_,?_,fun _ x hx hs=>?_⟩
   ·rw [cell_of_row _ _ _ _ _ _ hrow,show zwZ 1=zerosB 32 from rfl,length_zerosB];rfl
   ·rw [show zwZ 1=zerosB 32 from rfl]
    exact(zdW hk2 za2).below ((Below.refl _ _).alloc (Nat.le_refl _) _)
   ·obtain rfl:=Option.some.inj hx
    have:=(za H).dev.lt _ hs
    dsimp only at this
    omega
 have hwr:=zkM 118 (w1.heap.size+1) 2 2 zwZ (fun i=>(i:Int)) hlA hbods (by rw [size_alloc];omega) (by decide) (by decide) Tryz.call118 (fun w' S' ht k hk=>zlZ k w')
 rw [zxn] at hwr
 have hrun:Qr (Qq (Qq (D,0) ((0:Nat):Int) (zwZ 0)) ((1:Nat):Int) (zwZ 1))=zD D:=rfl
 rw [hrun,za HX] at hwr
 have HWR:=zb hwr
 have HBELA:=zb hbelA
 clear hwr hbods hrow hlA hbelA hrun HB1 HBEL1 hk2 hbel2
 go_wp2_with fail
 refine(za HWR).mono ?_
 rintro e w3 ⟨rfl,S3,hl3,ht3⟩
 have HL3:=zb hl3
 have HT3:=zb ((Turn.of_below (S:=S) (za HBELA)).trans ht3)
 clear hl3 ht3 HWR HBELA
 by_cases hE:X.2=0
 ·rw [hE,zf]
  go_wp2
  go_ret2
  have hq:=heap_alloc_new w3 (.cells #[.pointer (some ⟨p,0,none⟩),.int .i64 2] 212)
  refine⟨_,S3,by rw [hE];rfl,(za HL3).below ((Below.refl _ _).alloc (Nat.le_refl _) _),(za HT3).trans (Turn.alloc S3 _ _),fun _=>⟨w3.heap.size,rfl,hq,(za HT3).size,fun hs=>?_⟩,fun h=>absurd hE h⟩
  have:=(za HL3).dev.lt _ hs
  omega
 ·rw [zh _ hE]
  go_wp2
  go_ret2
  exact⟨_,S3,by rw [zh _ hE];rfl,za HL3,za HT3,fun h=>absurd h hE,fun _=>rfl⟩
end
theorem PgsO.turn{w w':World}{S S':Nat->Prop}{a:Option Addr}{cap:Nat}{l:List (Int×List Int)}(h:PgsO w S a cap l)(ht:Turn S S' w w'):PgsO w' S' a cap l:=by
 obtain⟨h1,h2,h3⟩:=h
 refine⟨h1,h2,fun hne=>?_⟩
 obtain⟨b,off,h4,h5,h6⟩:=h3 hne
 have hpos:0<l.length:=List.length_pos_iff.2 hne
 have hlt:b<w.heap.size:=block_lt_of_cell (h6 0 hpos).1
 refine⟨b,off,h4,fun hs=>h5 (ht.foot b hlt hs),fun i hi=>?_⟩
 obtain⟨c0,ab,capb,c1,hbs,hn,hr⟩:=h6 i hi
 obtain⟨q1,q2⟩:=hbs.turns hn ht
 exact⟨(World.cell?_of_block (a:=⟨b,off+i * 2,none⟩) (ht.block b hlt h5)).trans c0,ab,capb,(World.cell?_of_block (a:=⟨b,off+(i * 2+1),none⟩) (ht.block b hlt h5)).trans c1,q1,q2,hr⟩
theorem PgsO.below{w w':World}{S:Nat->Prop}{a:Option Addr}{cap:Nat}{l:List (Int×List Int)}(h:PgsO w S a cap l)(hb:Below w.heap.size w w'):PgsO w' S a cap l:=h.turn (Turn.of_below hb)
theorem zfG{w:World}{base e:Nat}{v:Value}{n:Nat}{xs:List Value}(h:w.ownsRow base e 1 v n xs)(hn:0<n):∃ g cap,v=.slice (some ⟨g,0,none⟩) n cap/\base<=g/\n<=cap/\g<w.heap.size/\∀ i,i<n->w.cell? ⟨g,i,none⟩=xs[i]?:=by
 rcases h.2 with ⟨_,h0⟩ | ⟨g,cap,cur,rfl,hB,hc,h3,h4,h5,h6⟩
 ·omega
 ·refine⟨g,cap,rfl,hB,h3,(Array.getElem?_eq_some_iff.1 hc).1,fun i hi=>?_⟩
  rw [cell_of_row _ _ _ _ _ _ hc,<- h6,List.getElem?_take,if_pos (by omega)]
  simp
structure Kit (w:World) (S:Nat->Prop) (q p:Nat) (s:Int) (m:Nat) (t:Int) (nv:Value) (gn n:Nat) (num:Nat->Int) (gb:Nat) (B:Nat->List Int) (gs:Nat) (X:List Int) (sb:Nat) (sd:Int):Prop where
 pg:PgAt w q p s
 npg:¬ S q
 mrk:w.heap[m]?=some (.cells #[.int .i64 t,nv] 207 (0,0))
 nm:¬ S m
 nums:∀ i,i<n->w.cell? ⟨gn,i,none⟩=some (.int .i64 (num i))
 nn:¬ S gn
 ln:gn<w.heap.size
 bods:Bods w S gb n B
 lb:gb<w.heap.size
 sec:Blk w gs X
 ns:¬ S gs
 sid:w.cell? ⟨sb,0,none⟩=some (.int .i64 sd)
 nsb:¬ S sb
section
variable {w w':World} {S S':Nat->Prop} {q p:Nat} {s:Int} {m:Nat} {t:Int} {nv:Value} {gn n:Nat} {num:Nat->Int} {gb:Nat} {B:Nat->List Int} {gs:Nat} {X:List Int} {sb:Nat} {sd:Int}
theorem Kit.turn(h:Kit w S q p s m t nv gn n num gb B gs X sb sd)(ht:Turn S S' w w'):Kit w' S' q p s m t nv gn n num gb B gs X sb sd:=by
 have lm:m<w.heap.size:=(Array.getElem?_eq_some_iff.1 h.mrk).1
 have lsb:sb<w.heap.size:=block_lt_of_cell h.sid
 exact⟨(h.pg.turn ht h.npg).1,(h.pg.turn ht h.npg).2,(ht.block m lm h.nm).trans h.mrk,fun hs=>h.nm (ht.foot m lm hs),fun i hi=>(World.cell?_of_block (a:=⟨gn,i,none⟩) (ht.block gn h.ln h.nn)).trans (h.nums i hi),
  fun hs=>h.nn (ht.foot gn h.ln hs),Nat.lt_of_lt_of_le h.ln ht.size,h.bods.turn ht h.lb,Nat.lt_of_lt_of_le h.lb ht.size,h.sec.same (ht.block gs h.sec.lt h.ns),fun hs=>h.ns (ht.foot gs h.sec.lt hs),(World.cell?_of_block (a:=⟨sb,0,none⟩) (ht.block sb lsb h.nsb)).trans h.sid,fun hs=>h.nsb (ht.foot sb lsb hs)⟩
theorem Kit.below(h:Kit w S q p s m t nv gn n num gb B gs X sb sd)(hb:Below w.heap.size w w'):Kit w' S q p s m t nv gn n num gb B gs X sb sd:=h.turn (Turn.of_below hb)
theorem Kit.m0(h:Kit w S q p s m t nv gn n num gb B gs X sb sd):w.cell? ⟨m,0,none⟩=some (.int .i64 t):=by rw [cell_of_row _ _ _ _ _ _ h.mrk];rfl
end
section
variable {w0 w:World} {p q:Nat} {S:Nat->Prop} {D:DS} {s:Int}
theorem zpu(h:Live w0 w p S D)(hq:PgAt w q p s)(a:Option Addr)(cap:Nat)(l:List (Int×List Int))(hl:PgsO w S a cap l)(he:zZ (Zk D.secs.length) l≠0) :
  Calls Tryz.prog 206 #[.pointer (some ⟨q,0,none⟩),.slice a l.length cap] w fun e w'=>e=.returned (zK (zZ (Zk D.secs.length) l))/\Below w.heap.size w w':=by
 have HC:=zb (zg0 h.dev hq a cap l hl)
 clear h hq hl
 generalize zZ (Zk D.secs.length) l=E at *
 generalize l.length=N at *
 rw [zh _ he] at *
 go_enter Tryz.func206,Tryz.ntmps206
 go_wp2_with fail
 refine(za HC).mono ?_
 rintro e w1 ⟨rfl,hb⟩
 go_wp2
 go_ret
 exact⟨rfl,hb⟩
theorem zmd(h:Live w0 w p S D)(hq:PgAt w q p s)(a:Option Addr)(cap:Nat) :
  Calls Tryz.prog 206 #[.pointer (some ⟨q,0,none⟩),.slice a 0 cap] w fun e w'=>e=.returned (zK (if D.down then 9 else 0))/\Below w.heap.size w w':=by
 have HC:=zb (zkF (w:=w) (q:=q) a cap)
 rw [zf] at HC
 have HP:Hid (∀ w1,Below w.heap.size w w1->Calls Tryz.prog 249 #[.pointer (some ⟨q,0,none⟩)] w1 fun e w'=>e=.returned (zK (if D.down then 9 else 0))/\w1=w'):=zb (fun w1 hb=>zrc (h.below hb).dev (hq.below hb))
 clear h hq
 generalize (if D.down=true then (9:Int) else 0)=E at *
 go_enter Tryz.func206,Tryz.ntmps206
 go_wp2_with fail
 refine(za HC).mono ?_
 rintro e w1 ⟨rfl,hb⟩
 have HB:=zb hb
 have HP1:=zb (za HP w1 hb)
 clear hb HP
 go_wp2_with fail
 refine(za HP1).mono ?_
 rintro e w2 ⟨rfl,rfl⟩
 go_wp2
 go_ret
 exact⟨rfl,za HB⟩
end
theorem zgi{D:DS}{s:Int}{L:Nat}{l:List (Int×List Int)}(hv:zZ L l=0)(hl:l≠[])(hL:48<=D.secs.length)(h0:0<=s)(h1:s<4294967295){X1 X2 X3:DS×Int}
  (e1:X1=Qr (wsF (D,0) (fun i=>(2+23 * ((s+1) % 2)+i,(l.getD i (0,[])).2)) l.length))
  (e2:X2=Qr (wsF (X1.1,0) (fun i=>((s+1) % 2,qQ (s+1) (qm l))) 1))
  (e3:X3=Qr (wsF (X2.1,0) (fun i=>(48+(l.getD i (0,[])).1,(l.getD i (0,[])).2)) l.length)) :
  (X1.2≠0->zc D s L l=(X1.1,s,X1.2))/\(X1.2=0->X2.2≠0->zc D s L l=(X2.1,s,X2.2))/\(X1.2=0->X2.2=0->X3.2≠0->zc D s L l=(X3.1,s,X3.2))/\(X1.2=0->X2.2=0->X3.2=0->zc D s L l=(X3.1,s+1,0)):=by
 have hval:=zbk hv
 have hm:qO (s+1) (qm l)=(qQ (s+1) (qm l),0):=(zak hval (by omega) (by omega)).1
 have hA:zE D ((s+1) % 2) l=X1:=e1.symm
 have hB:X1.2=0->zA X1 ((s+1) % 2) (s+1) l=X2:=fun hx=>by
  unfold zA
  rw [if_pos hx,hm,if_pos rfl,e2,zxo,<- zrg hx]
 have hB2:X1.2≠0->zA X1 ((s+1) % 2) (s+1) l=X1:=fun hx=>by
  unfold zA
  rw [if_neg hx,QS hx]
 have hC:X2.2=0->QM X2 l=X3:=fun hx=>by
  unfold QM
  rw [e3,<- zrg hx]
 have hC2:∀ X:DS×Int,X.2≠0->QM X l=X:=fun X hx=>by
  unfold QM
  rw [zfc hx,QS hx]
 rw [ziA hv hl hL (by omega)]
 unfold zi
 rw [hA]
 refine⟨fun hx=>?_,fun hx hy=>?_,fun hx hy hz=>?_,fun hx hy hz=>?_⟩
 ·rw [hB2 hx,hC2 _ hx,if_neg hx]
 ·rw [hB hx,hC2 _ hy,if_neg hy]
 ·rw [hB hx,hC hy,if_neg hz]
 ·rw [hB hx,hC hy,if_pos hz,hz]
theorem ztf{L:Nat}{l:List (Int×List Int)}(hv:zbg L l)(hL:L<=200):Byt (qm l):=by
 intro z hz
 unfold qm at hz
 rcases List.mem_cons.1 hz with rfl | hz
 ·have:=hv.len;omega
 ·obtain⟨x,hx,rfl⟩:=List.mem_map.1 hz
  obtain⟨j,hj,hje⟩:=List.getElem_of_mem hx
  have:=hv.num j hj
  have hg:l.getD j (0,[])=x:=by simp [List.getD,hj,hje]
  rw [hg] at this
  omega
section
variable {w0 w:World} {p q:Nat} {S:Nat->Prop} {D:DS} {s:Int}
set_option maxRecDepth 100000 in
set_option maxHeartbeats 1000000 in
theorem zs7{L:Nat}(h:Live w0 w p S D)(hq:PgAt w q p s)(hqS:¬ S q)(hq0:w0.heap.size<=q)(b off cap:Nat)(l:List (Int×List Int))(hl:PgsO w S (some ⟨b,off,none⟩) cap l)(hL:Zk D.secs.length=L)(hne:l≠[])(he:zZ L l=0)(h0:0<=s)(h1:s<4294967295) :
  Calls Tryz.prog 206 #[.pointer (some ⟨q,0,none⟩),.slice (some ⟨b,off,none⟩) l.length cap] w fun e w'=>e=.returned (zK (zc D s L l).2.2)/\∃ S',Live w0 w' p S' (zc D s L l).1/\PgAt w' q p (zc D s L l).2.1/\¬ S' q/\Turn (plus S q) (plus S' q) w w':=by
 have hval:=zbk he
 have hlen:=hval.len
 have hpos:0<l.length:=List.length_pos_iff.2 hne
 have hL48:48<=D.secs.length/\L<=200:=by
  unfold Zk at hL
  split at hL <;> omega
 obtain⟨X1,e1⟩:∃ X1,X1=Qr (wsF (D,0) (fun i=>(2+23 * ((s+1) % 2)+i,(l.getD i (0,[])).2)) l.length):=⟨_,rfl⟩
 obtain⟨X2,e2⟩:∃ X2,X2=Qr (wsF (X1.1,0) (fun i=>((s+1) % 2,qQ (s+1) (qm l))) 1):=⟨_,rfl⟩
 obtain⟨X3,e3⟩:∃ X3,X3=Qr (wsF (X2.1,0) (fun i=>(48+(l.getD i (0,[])).1,(l.getD i (0,[])).2)) l.length):=⟨_,rfl⟩
 have HSTEPS:=zb (zgi he hne hL48.1 h0 h1 e1 e2 e3)
 generalize hR:zc D s L l=R at *
 clear hR
 have hck:=zg0 h.dev hq (some ⟨b,off,none⟩) cap l hl
 rw [hL,he,zf] at hck
 have HCK:=zb hck
 have HPT:Hid (∀ w1,Below w.heap.size w w1->Calls Tryz.prog 250 #[.slice (some ⟨b,off,none⟩) l.length cap] w1 fun e w'=>∃ nv bv,e=.returned (.tuple #[nv,bv])/\w'.ownsRow w1.heap.size 3 1 nv l.length (zyh l l.length)/\w'.ownsRow w1.heap.size 29 1 bv l.length (zkI w1 b off l.length)/\Below w1.heap.size w1 w'):=zb (fun w1 hb=>zrf b off cap l (hl.below hb) hne hlen)
 have H:=zb h
 have HQ:=zb hq
 have HL:=zb hl
 have HVAL:=zb hval
 have E1:=zb e1
 have E2:=zb e2
 have E3:=zb e3
 clear h hq hl hval hck hL e1 e2 e3
 generalize hN:l.length=N at *
 have HN:=zb hN
 clear hN
 go_enter Tryz.func206,Tryz.ntmps206
 go_wp2_with fail
 refine(za HCK).mono ?_
 rintro e w1 ⟨rfl,hb1⟩
 have HP1:=zb (za HPT w1 hb1)
 have HB1:=zb hb1
 clear hb1 HPT HCK
 go_wp2_with fail
 refine(za HP1).mono ?_
 rintro e w2 ⟨nv,bv,rfl,hnv,hbv,hb2⟩
 obtain⟨gn,cn,rfl,hgn,hcn,hgnl,hnc⟩:=zfG hnv hpos
 obtain⟨gb,cb,rfl,hgb,hcb,hgbl,hbc⟩:=zfG hbv hpos
 have hpq:=((za HQ).below (za HB1)).below hb2
 have c1:=hpq.c1
 have hs1:=(za HB1).size
 have hs2:=hb2.size
 have HPQ:=zb hpq
 have HB2:=zb ((za HB1).trans (hb2.mono (za HB1).size))
 have HB12:=zb hb2
 have HNC:=zb hnc
 have HBC:=zb hbc
 have hsp:s+1<=4294967295:=by omega
 clear hnv hbv hb2 hpq hnc hbc HP1
 go_wp2_with fail
 have hb3:Below w2.heap.size w2 (w2.alloc (.cells #[.int .i64 (s+1),.slice (some ⟨gn,0,none⟩) N cn] 207)):=(Below.refl _ _).alloc (Nat.le_refl _) _
 have hm3:=heap_alloc_new w2 (.cells #[.int .i64 (s+1),.slice (some ⟨gn,0,none⟩) N cn] 207)
 have hs3:(w2.alloc (.cells #[.int .i64 (s+1),.slice (some ⟨gn,0,none⟩) N cn] 207)).heap.size=w2.heap.size+1:=by simp
 have hnum:∀ i,i<N->w2.cell? ⟨gn,i,none⟩=some (.int .i64 (l.getD i (0,[])).1):=fun i hi=>by
  rw [za HNC i hi]
  simp [zyh,hi]
 generalize w2.alloc (.cells #[.int .i64 (s+1),.slice (some ⟨gn,0,none⟩) N cn] 207)=w3 at *
 have hnums:Nums w3 (.slice (some ⟨gn,0,none⟩) N cn) (l.map (·.1)):=by
  refine⟨fun z hz=>?_,some ⟨gn,0,none⟩,cn,by rw [List.length_map,za HN],fun _=>⟨gn,rfl,fun i hi=>?_⟩⟩
  ·obtain⟨x,hx,rfl⟩:=List.mem_map.1 hz
   obtain⟨j,hj,hje⟩:=List.getElem_of_mem hx
   have:=(za HVAL).num j hj
   have hg:l.getD j (0,[])=x:=by simp [List.getD,hj,hje]
   rw [hg] at this
   omega
  ·rw [List.length_map,za HN] at hi
   have e:=hnum i hi
   rw [hb3.cell (block_lt_of_cell e),e,zcf l (by rw [za HN];exact hi)]
 have hsec:=zgT (s+1) _ _ hnums (by rw [List.length_map,za HN];exact hlen) (by omega) (by omega)
 have hmk:ZU (l.map (·.1)) (l.map (·.1)).length=qm l:=by
  unfold ZU qm
  rw [List.take_of_length_le (Nat.le_refl _),List.length_map]
 rw [hmk] at hsec
 have HSEC:=zb hsec
 have HM3:=zb hm3
 have HNUM:=zb hnum
 have HB3:=zb hb3
 clear hsec hm3 hnums hmk hnum hb3 HNC
 refine(za HSEC).mono ?_
 rintro e w4 ⟨g4,rfl,hg4,hk4,hb4⟩
 have hm4:=(hb4.block w2.heap.size (by omega)).trans (za HM3)
 have m0:w4.cell? ⟨w2.heap.size,0,none⟩=some (.int .i64 (s+1)):=by rw [cell_of_row _ _ _ _ _ _ hm4];rfl
 have m1:w4.cell? ⟨w2.heap.size,1,none⟩=some (.slice (some ⟨gn,0,none⟩) N cn):=by rw [cell_of_row _ _ _ _ _ _ hm4];rfl
 have HM4:=zb hm4
 have HK4:=zb hk4
 have hs4:=hb4.size
 have HB4:=zb ((za HB3).trans (hb4.mono (by omega)))
 clear hm4 hk4 hb4 HSEC HM3 HB3
 go_wp2_with fail
 refine(zua (s+1) _ w4 (by omega) (by omega)).mono ?_
 rintro e w5 ⟨rfl,hb5⟩
 have hsd2:(s+1) % 2=0\/(s+1) % 2=1:=by omega
 generalize (s+1) % 2=sd at *
 clear m0 m1
 have hs5:=hb5.size
 -- all that is laid aside
 have hb6:Below w4.heap.size w4 (w5.alloc (.cells #[.int .i64 sd] 3)):=hb5.alloc hb5.size _
 have hb46:Below w2.heap.size w2 (w5.alloc (.cells #[.int .i64 sd] 3)):=(za HB4).trans (hb6.mono (by omega))
 have hbA:Below w.heap.size w (w5.alloc (.cells #[.int .i64 sd] 3)):=(za HB2).trans (hb46.mono (by omega))
 have hout:∀ k,w.heap.size<=k->¬ S k:=fun k hk hs=>by have:=(za H).dev.lt k hs;omega
 have hkit:Kit (w5.alloc (.cells #[.int .i64 sd] 3)) S q p s w2.heap.size (s+1) (.slice (some ⟨gn,0,none⟩) N cn) gn N (fun i=>(l.getD i (0,[])).1) gb (fun i=>(l.getD i (0,[])).2) g4 (qQ (s+1) (qm l)) w5.heap.size sd:=by
  refine⟨(za HPQ).below hb46,hqS,(hb6.block _ (by omega)).trans (za HM4),hout _ (by omega),fun i hi=>?_,hout _ (by omega),by simp;omega,⟨hout _ (by omega),fun i hi=>?_⟩,by simp;omega,(za HK4).below hb6,hout _ (by omega),?_,hout _ (by omega)⟩
  ·have e:=za HNUM i hi
   rw [hb46.cell (block_lt_of_cell e),e]
  ·have hpl:=((za HL).below (za HB1))
   obtain⟨b',off',e',hSb,hcell⟩:=hpl.2.2 hne
   simp only [Option.some.injEq,Addr.mk.injEq,and_true] at e'
   obtain⟨rfl,rfl⟩:=e'
   obtain⟨_,ab,capb,d1,hbs,hn,_⟩:=hcell i (by rw [za HN];exact hi)
   have e:=za HBC i hi
   have e2:(zkI w1 b off N)[i]?=some (.slice ab (l.getD i (0,[])).2.length capb):=by
    simp only [zkI,List.getElem?_map,List.getElem?_range hi,Option.map_some]
    unfold zBR
    rw [d1];rfl
   rw [e2] at e
   have hbw:Below w1.heap.size w1 (w5.alloc (.cells #[.int .i64 sd] 3)):=by
    have h12:Below w1.heap.size w1 w2:=za HB12
    exact h12.trans (hb46.mono h12.size)
   exact⟨ab,capb,(hb46.cell (block_lt_of_cell e)).trans e,hbs.below hbw,hn⟩
  ·rw [cell_of_row _ _ _ _ _ _ (heap_alloc_new _ _)];rfl
 have HKIT:=zb hkit
 have HBA:=zb hbA
 have HLV:=zb ((za H).below hbA)
 have c0:=hkit.pg.c0
 have c5:=hkit.sid
 clear hb5 hb6 hb46 hbA hkit HB4 HK4 HM4 HPQ HNUM HBC HB12 c1
 go_wp2_with fail
 generalize w5.alloc (.cells #[.int .i64 sd] 3)=w6 at *
 have HW1:Hid (∀ wx g,Below w6.heap.size w6 wx->w6.heap.size<=g->wx.cell? ⟨g,0,none⟩=some (.int .i64 sd)->Calls Tryz.prog 117 #[.pointer (some ⟨p,0,none⟩),.slice (some ⟨gb,0,none⟩) N cb,.func (.func 299) #[] #[.pointer (some ⟨g,0,none⟩)]] wx fun e w'=>e=.returned (zK X1.2)/\∃ S',Live w0 w' p S' X1.1/\Turn S S' w6 w'):=zb (fun wx g hbx hg hc=>by
  have hk:=(za HKIT).below hbx
  have hgl:=block_lt_of_cell hc
  have hgs:¬ S g:=fun hs=>by have:=(za HLV).dev.lt g hs;omega
  have:=zbh 299 g gb N cb (fun i=>(l.getD i (0,[])).2) (fun i=>2+23 * sd+i) ((za HLV).below hbx) hk.bods hk.lb (by omega) hcb Tryz.call299 (fun w' S' ht k hk=>zgS g sd k w' hsd2 (by omega) ((World.cell?_of_block (a:=⟨g,0,none⟩) (ht.block g hgl hgs)).trans hc))
  rw [<- za E1] at this
  exact this.mono fun e w' ⟨he,S',hl,ht⟩=>⟨he,S',hl,(Turn.of_below hbx).trans ht⟩)
 have hq6:q<w6.heap.size:=(za HKIT).pg.lt
 have hsb6:w5.heap.size<w6.heap.size:=block_lt_of_cell c5
 go_region_held3 (fun w'=>w'.cell? ⟨q,0,none⟩=some (.pointer (some ⟨p,0,none⟩))/\w'.cell? ⟨w5.heap.size,0,none⟩=some (.int .i64 sd)) (first | go_keep | (go_split_ands;refine⟨?_,?_⟩ <;> go_keep))
  (first
   | (go_at_call 246;refine(zji _ _).mono ?_;rintro e wa ⟨rfl,hwa⟩;have hba:Below w6.heap.size w6 wa:=(by rw [hwa];exact(below_drewN (Below.refl _ _) _).alloc (Nat.le_refl _) _);have hca:wa.cell? ⟨w6.heap.size,0,none⟩=some (.int .i64 sd):=(by rw [hwa];exact cell_of_row _ _ _ _ _ _ (heap_alloc_new _ _));clear hwa;have hka:=(za HKIT).below hba;have ra1:=hka.pg.c0;have ra2:=hka.sid)
   | (go_at_call 117;refine(za HW1 _ _ (by exact⟨hba.os,hba.tape,hba.output,hba.size,hba.block⟩) (by exact Nat.le_refl _) (by exact hca)).mono ?_;rintro e wb ⟨rfl,S7,hl7,ht7⟩;have hk7:=(za HKIT).turn ht7;have rb1:=hk7.pg.c0;have rb2:=hk7.sid))
 all_goals
  have HT7:=zb ((Turn.of_below (S:=S) (za HBA)).trans ht7)
  have HL7:=zb hl7
  have HK7:=zb hk7
  have hSEC:Sec (qQ (s+1) (qm l)):=⟨qJ _ _ (by rw [QP,za HN];omega),zbI _ _ (ztf (za HVAL) (by omega))⟩
  clear hl7 hk7 ht7 hka hba hca ra1 ra2 HW1 HLV HKIT HBA HB1 HB2 rb2 c0 c5 hq6 hsb6
  by_cases hX1:X1.2=0
  ·rw [hX1,zf]
   have hb8:Below wb.heap.size wb (wb.alloc (.cells #[.slice (some ⟨g4,0,none⟩) 32 32] 29)):=(Below.refl _ _).alloc (Nat.le_refl _) _
   have hk8:=(za HK7).below hb8
   have hl8:=(za HL7).below hb8
   have hbods:Bods (wb.alloc (.cells #[.slice (some ⟨g4,0,none⟩) 32 32] 29)) S7 wb.heap.size 1 (fun _=>qQ (s+1) (qm l)):=by
    refine⟨fun hs=>by have:=(za HL7).dev.lt _ hs;omega,fun k hk=>?_⟩
    obtain rfl:k=0:=by omega
    refine⟨some ⟨g4,0,none⟩,32,?_,zdW hk8.sec hSEC,fun _ x hx hs=>?_⟩
    ·rw [cell_of_row _ _ _ _ _ _ (heap_alloc_new _ _),hSEC.1];rfl
    ·obtain rfl:=Option.some.inj hx
     exact hk8.ns hs
   have hsid:=hk8.sid
   have hnsb:=hk8.nsb
   have hwr:=zbh 252 w5.heap.size wb.heap.size 1 1 (fun _=>qQ (s+1) (qm l)) (fun _=>sd) hl8 hbods (by rw [size_alloc];omega) (by decide) (by decide) Tryz.call252 (fun w' S' ht k hk=>zmg w5.heap.size sd k w' ((World.cell?_of_block (a:=⟨w5.heap.size,0,none⟩) (ht.block _ (block_lt_of_cell hsid) hnsb)).trans hsid))
   rw [<- za E2] at hwr
   have HWR:=zb hwr
   have HK8:=zb hk8
   clear hwr hk8 hl8 hbods hsid hnsb hb8 hSEC
   go_wp2_with fail
   refine(za HWR).mono ?_
   rintro e w9 ⟨rfl,S9,hl9,ht9⟩
   have hk9:=(za HK8).turn ht9
   have HT9:=zb (((za HT7).trans (Turn.alloc S7 _ _)).trans ht9)
   have HL9:=zb hl9
   have HK9:=zb hk9
   have rq:=hk9.pg.c0
   clear hl9 hk9 ht9 HWR HK8 HT7 HL7 HK7 rb1
   by_cases hX2:X2.2=0
   ·rw [hX2,zf]
    have HW3:Hid (∀ wx g,Below w9.heap.size w9 wx->w9.heap.size<=g->wx.cell? ⟨g,0,none⟩=some (.slice (some ⟨gn,0,none⟩) N cn)->Calls Tryz.prog 117 #[.pointer (some ⟨p,0,none⟩),.slice (some ⟨gb,0,none⟩) N cb,.func (.func 300) #[] #[.pointer (some ⟨g,0,none⟩)]] wx fun e w'=>e=.returned (zK X3.2)/\∃ S',Live w0 w' p S' X3.1/\Turn S9 S' w9 w'):=zb (fun wx g hbx hg hc=>by
     have hk:=(za HK9).below hbx
     have hgl:=block_lt_of_cell hc
     have hgs:¬ S9 g:=fun hs=>by have:=(za HL9).dev.lt g hs;omega
     have:=zbh 300 g gb N cb (fun i=>(l.getD i (0,[])).2) (fun i=>48+(l.getD i (0,[])).1) ((za HL9).below hbx) hk.bods hk.lb (by omega) hcb Tryz.call300 (fun w' S' ht k hkk=>zj7 g gn cn N k (l.getD k (0,[])).1 w' hkk (by omega) (by have:=(za HVAL).num k (by rw [za HN];exact hkk);omega) ((World.cell?_of_block (a:=⟨g,0,none⟩) (ht.block g hgl hgs)).trans hc) ((World.cell?_of_block (a:=⟨gn,k,none⟩) (ht.block gn hk.ln hk.nn)).trans (hk.nums k hkk)))
     rw [<- za E3] at this
     exact this.mono fun e w' ⟨he,S',hl,ht⟩=>⟨he,S',hl,(Turn.of_below hbx).trans ht⟩)
    go_wp2_with fail
    go_region_held3 (fun w'=>w'.cell? ⟨q,0,none⟩=some (.pointer (some ⟨p,0,none⟩))) (go_keep)
     (first
      | (go_at_call 247;refine(zny _ _ _ _).mono ?_;rintro e wa ⟨rfl,hwa⟩;have hba:Below w9.heap.size w9 wa:=(by rw [hwa];exact(below_drewN (Below.refl _ _) _).alloc (Nat.le_refl _) _);have hca:wa.cell? ⟨w9.heap.size,0,none⟩=some (.slice (some ⟨gn,0,none⟩) N cn):=(by rw [hwa];exact cell_of_row _ _ _ _ _ _ (heap_alloc_new _ _));clear hwa;have hka:=(za HK9).below hba;have ra1:=hka.pg.c0)
      | (go_at_call 117;refine(za HW3 _ _ (by exact⟨hba.os,hba.tape,hba.output,hba.size,hba.block⟩) (by exact Nat.le_refl _) (by exact hca)).mono ?_;rintro e wc ⟨rfl,S11,hl11,ht11⟩;have hk11:=(za HK9).turn ht11;have rc1:=hk11.pg.c0))
    all_goals
     have HT11:=zb ((za HT9).trans ht11)
     have HL11:=zb hl11
     have HK11:=zb hk11
     have m0:=hk11.m0
     have q1:=hk11.pg.c1
     have qf:=hk11.pg.fr 1
     clear hl11 hk11 ht11 hka hba hca ra1 HW3 HT9 HL9 HK9 rc1 rq
     by_cases hX3:X3.2=0
     ·rw [hX3,zf]
      go_wp2
      go_ret
      have hR:=(za HSTEPS).2.2.2 hX1 hX2 hX3
      rw [hR]
      exact⟨rfl,S11,(za HL11).setOther (za HK11).npg hq0,(za HK11).pg.set _,(za HK11).npg,((za HT11).plus q).trans (Turn.setCell (S:=plus S11 q) wc _ (.inr rfl))⟩
     ·rw [zh _ hX3]
      go_wp2
      go_ret
      have hR:=(za HSTEPS).2.2.1 hX1 hX2 hX3
      rw [hR]
      exact⟨by rw [zh _ hX3];rfl,S11,za HL11,(za HK11).pg,(za HK11).npg,(za HT11).plus q⟩
   ·rw [zh _ hX2]
    go_wp2
    go_ret
    have hR:=(za HSTEPS).2.1 hX1 hX2
    rw [hR]
    exact⟨by rw [zh _ hX2];rfl,S9,za HL9,(za HK9).pg,(za HK9).npg,(za HT9).plus q⟩
  ·rw [zh _ hX1]
   go_wp2
   go_ret
   have hR:=(za HSTEPS).1 hX1
   rw [hR]
   exact⟨by rw [zh _ hX1];rfl,S7,za HL7,(za HK7).pg,(za HK7).npg,(za HT7).plus q⟩
end
theorem zpv{w0 w:World}{p q:Nat}{S:Nat->Prop}{D:DS}{s:Int}{L:Nat}(h:Live w0 w p S D)(hq:PgAt w q p s)(hqS:¬ S q)(hq0:w0.heap.size<=q)(a:Option Addr)(cap:Nat)(l:List (Int×List Int))(hl:PgsO w S a cap l)(hL:Zk D.secs.length=L)(h0:0<=s)(h1:s<4294967295) :
  Calls Tryz.prog 206 #[.pointer (some ⟨q,0,none⟩),.slice a l.length cap] w fun e w'=>e=.returned (zK (zc D s L l).2.2)/\∃ S',Live w0 w' p S' (zc D s L l).1/\PgAt w' q p (zc D s L l).2.1/\¬ S' q/\Turn (plus S q) (plus S' q) w w':=by
 by_cases he:zZ L l=0
 ·by_cases hne:l=[]
  ·subst hne
   have e:zc D s L []=(D,s,if D.down then 9 else 0):=by
    unfold zc
    rw [if_neg (by rw [he];exact fun h=>h rfl)]
    cases D.down <;> rfl
   rw [e]
   exact(zmd h hq a cap).mono fun e w' ⟨he,hb⟩=>⟨he,S,h.below hb,hq.below hb,hqS,(Turn.of_below hb).plus q⟩
  ·obtain⟨b,off,rfl,_⟩:=hl.2.2 hne
   exact zs7 h hq hqS hq0 b off cap l hl hL hne he h0 h1
 ·have e:zc D s L l=(D,s,zZ L l):=by unfold zc;rw [if_pos he]
  rw [e]
  have:=zpu h hq a cap l hl (by rw [hL];exact he)
  rw [hL] at this
  exact this.mono fun e w' ⟨he,hb⟩=>⟨he,S,h.below hb,hq.below hb,hqS,(Turn.of_below hb).plus q⟩
theorem zrO(g:Nat)(L z:Int)(w:World)(hz:0<=z/\z<=255)(hg:w.cell? ⟨g,0,none⟩=some (.int .i64 L)) :
  Calls Tryz.prog 328 #[.int .u8 z,.pointer (some ⟨g,0,none⟩)] w fun e w'=>e=.returned (.bool (decide (L<=z)))/\w=w':=by
 obtain⟨z0,z1⟩:=hz
 go_enter Tryz.func328,Tryz.ntmps328
 go_wp2
 go_ret
 exact⟨rfl,rfl⟩
def zcO(L:Int):List Int->Int->Int
 | [],_=>-1
 | z :: r,i=>if L<=z then i else zcO L r (i+1)
theorem zgq{L:Int}:∀ {l:List Int} {i:Int},0<=i->(0<=zcO L l i ↔ ∃ z∈l,L<=z)
 | [],i,h=>by simp [zcO]
 | z :: r,i,h=>by
  unfold zcO
  by_cases hz:L<=z
  ·rw [if_pos hz]
   exact⟨fun _=>⟨z,by simp,hz⟩,fun _=>h⟩
  ·rw [if_neg hz,zgq (by omega)]
   constructor
   ·rintro ⟨x,hx,hx2⟩;exact⟨x,by simp [hx],hx2⟩
   ·rintro ⟨x,hx,hx2⟩
    rcases List.mem_cons.1 hx with rfl | hx
    ·exact absurd hx2 hz
    ·exact⟨x,hx,hx2⟩
section
variable {w:World}
set_option maxRecDepth 100000 in
set_option maxHeartbeats 400000 in
theorem zsc(g:Nat)(L:Int)(a:Option Addr)(cap:Nat)(l:List Int)(hb:Bs w a cap l)(hg:w.cell? ⟨g,0,none⟩=some (.int .i64 L)) :
  Calls Tryz.prog 236 #[.slice a l.length cap,.func (.func 328) #[] #[.pointer (some ⟨g,0,none⟩)]] w fun e w'=>e=.returned (.int .i64 (zcO L l 0))/\w=w':=by
 have hl:=hb.2.2.1
 have HB:=zb hb
 have HK:Hid (∀ k,k<l.length->0<=l.getD k 0/\l.getD k 0<=255):=zb (fun k hk=>hb.1.getD k)
 have HD:Hid (∀ k,k<l.length->zcO L (l.drop k) k=if L<=l.getD k 0 then (k:Int) else zcO L (l.drop (k+1)) (k+1)):=zb (fun k hk=>by
  rw [List.drop_eq_getElem_cons hk]
  show(if L<=l[k] then (k:Int) else zcO L (l.drop (k+1)) (k+1))=_
  simp [List.getD,hk])
 clear hb
 go_enter Tryz.func236,Tryz.ntmps236
 go_wp2_with fail
 go_loop [8] (fun i=>∃ k:Nat,k<=l.length/\i=.int .i64 k/\zcO L l 0=zcO L (l.drop k) k) (fun i=>l.length-(intOf i).toNat)
 case atStart=>exact⟨0,by omega,rfl,rfl⟩
 case round =>
  obtain⟨k,hk,rfl,hall⟩:=hrel
  by_cases hlt:k<l.length
  ·obtain⟨b,off,rfl,hc⟩:=(za HB).2.2.2.2 (by intro e;rw [e] at hlt;cases hlt)
   have hck:=hc k hlt
   have HC:=zb (zrO g L (l.getD k 0) w (za HK k hlt) hg)
   rw [za HD k hlt] at hall
   obtain⟨z0,z1⟩:=za HK k hlt
   clear hc
   generalize l.getD k 0=z at *
   by_cases hz:L<=z
   ·rw [if_pos hz] at hall
    rw [decide_eq_true hz] at HC
    have HA:=zb hall
    clear hall hz
    go_wp2_with (go_at_call 328;refine(za HC).mono ?_;rintro e w' ⟨rfl,rfl⟩)
    go_ret
    exact⟨by rw [za HA];rfl,rfl⟩
   ·rw [if_neg hz] at hall
    rw [decide_eq_false hz] at HC
    have HA:=zb hall
    clear hall hz
    go_wp2_with (go_at_call 328;refine(za HC).mono ?_;rintro e w' ⟨rfl,rfl⟩)
    go_round
    case rel=>exact⟨k+1,by omega,by go_num,by rw [za HA];rfl⟩
    case measure=>simp [intOf];omega
  ·obtain rfl:k=l.length:=by omega
   have hd:l.drop l.length=[]:=List.drop_eq_nil_of_le (Nat.le_refl _)
   rw [hd] at hall
   go_wp2
   go_ret
   exact⟨rfl,rfl⟩
theorem zhV(g:Nat)(L:Int)(a:Option Addr)(cap:Nat)(l:List Int)(hb:Bs w a cap l)(hg:w.cell? ⟨g,0,none⟩=some (.int .i64 L)) :
  Calls Tryz.prog 195 #[.slice a l.length cap,.func (.func 328) #[] #[.pointer (some ⟨g,0,none⟩)]] w fun e w'=>e=.returned (.bool (decide (0<=zcO L l 0)))/\w=w':=by
 have HC:=zb (zsc g L a cap l hb hg)
 clear hb
 generalize zcO L l 0=r at *
 generalize l.length=n at *
 go_enter Tryz.func195,Tryz.ntmps195
 go_wp2_with fail
 refine(za HC).mono ?_
 rintro e w1 ⟨rfl,rfl⟩
 go_wp2
 go_ret
 exact⟨rfl,rfl⟩
end
end Go.Proofs.YtchmlnmhbfaclaaGreatDoor
