/-
  Parts of the proofs, joined by program.
-/
import Derived.Test.YtchmlnmhbfaclaaGreatDoorJImp
import Derived.Test.YtchmlnmhbfaclaaGreatDoorJNum
import Derived.Laws.ResultCell
import Derived.Lib.SliceRun
import Derived.Maps.AppendAt
import Derived.Deep.RegionWith
namespace Go.Proofs.YtchmlnmhbfaclaaGreatDoor
open Go.RowKit
set_option linter.unusedVariables false
theorem qn(n:Int)(w:World) :
  Calls Tryz.prog 185 #[.int .i64 n] w fun e w'=>e=.returned (.bool (Zi n))/\w=w':=by
 unfold Zi
 by_cases h1:288<=n
 ·rw [decide_eq_true h1,Bool.true_and]
  go_enter Tryz.func185,Tryz.ntmps185
  go_wp2
  go_ret
  exact⟨rfl,rfl⟩
 ·rw [decide_eq_false h1,Bool.false_and]
  go_enter Tryz.func185,Tryz.ntmps185
  go_wp2
  go_ret
  exact⟨rfl,rfl⟩
theorem qS(n:Int)(w:World) :
  Calls Tryz.prog 231 #[.int .i64 n] w fun e w'=>e=.returned (.bool (zaT n))/\w=w':=by
 unfold zaT
 by_cases h1:1<=n
 ·rw [decide_eq_true h1,Bool.true_and]
  go_enter Tryz.func231,Tryz.ntmps231
  go_wp2
  go_ret
  exact⟨rfl,rfl⟩
 ·rw [decide_eq_false h1,Bool.false_and]
  go_enter Tryz.func231,Tryz.ntmps231
  go_wp2
  go_ret
  exact⟨rfl,rfl⟩
def ztz(n:Int):Bool:=decide (0<=n) && decide (n<=15)
def zwr(n:Int):Bool:=decide (1<=n) && decide (n<=1000)
def zzT(n a l:Int):Bool:=decide (288<=a) && decide (l<=n-a)
theorem zfX(n:Int)(w:World) :
  Calls Tryz.prog 232 #[.int .i64 n] w fun e w'=>e=.returned (.bool (ztz n))/\w=w':=by
 unfold ztz
 by_cases h1:0<=n
 ·rw [decide_eq_true h1,Bool.true_and]
  go_enter Tryz.func232,Tryz.ntmps232
  go_wp2
  go_ret
  exact⟨rfl,rfl⟩
 ·rw [decide_eq_false h1,Bool.false_and]
  go_enter Tryz.func232,Tryz.ntmps232
  go_wp2
  go_ret
  exact⟨rfl,rfl⟩
theorem zeh(n:Int)(w:World) :
  Calls Tryz.prog 233 #[.int .i64 n] w fun e w'=>e=.returned (.bool (zwr n))/\w=w':=by
 unfold zwr
 by_cases h1:1<=n
 ·rw [decide_eq_true h1,Bool.true_and]
  go_enter Tryz.func233,Tryz.ntmps233
  go_wp2
  go_ret
  exact⟨rfl,rfl⟩
 ·rw [decide_eq_false h1,Bool.false_and]
  go_enter Tryz.func233,Tryz.ntmps233
  go_wp2
  go_ret
  exact⟨rfl,rfl⟩
theorem zez(n a l:Int)(w:World)(hn:0<=n/\n<=6400)(ha:-9223372036854775808<=a/\a<=9223372036854775807) :
  Calls Tryz.prog 234 #[.int .i64 n,.agg #[.int .i64 a,.int .i64 l]] w fun e w'=>e=.returned (.bool (zzT n a l))/\Below w.heap.size w w':=by
 obtain⟨n1,n2⟩:=hn
 obtain⟨a1,a2⟩:=ha
 unfold zzT
 by_cases h1:288<=a
 ·rw [decide_eq_true h1,Bool.true_and]
  go_enter Tryz.func234,Tryz.ntmps234
  go_wp2
  go_ret
  exact⟨rfl,(Below.refl _ _).alloc (Nat.le_refl _) _⟩
 ·rw [decide_eq_false h1,Bool.false_and]
  go_enter Tryz.func234,Tryz.ntmps234
  go_wp2
  go_ret
  exact⟨rfl,(Below.refl _ _).alloc (Nat.le_refl _) _⟩
theorem QL(h:Int)(w:World)(h1:1<=h)(h2:h<=40) :
  Calls Tryz.prog 192 #[.int .i64 h] w fun e w'=>e=.returned (.int .i64 (plc h))/\w=w':=by
 have e:((plc h:Nat):Int)=(h-1) * 5:=by unfold plc;omega
 rw [e]
 go_enter Tryz.func192,Tryz.ntmps192
 go_wp2
 go_ret
 exact⟨rfl,rfl⟩
theorem zct(i:Nat)(w:World)(h:i<=8) :
  Calls Tryz.prog 194 #[.int .i64 i] w fun e w'=>e=.returned (.int .i64 ((200+11 * i:Nat):Int))/\w=w':=by
 have e:((200+11 * i:Nat):Int)=200+(i:Int) * 11:=by omega
 rw [e]
 go_enter Tryz.func194,Tryz.ntmps194
 go_wp2
 go_ret
 exact⟨rfl,rfl⟩
theorem zsm(a:Option Addr)(cap:Nat)(l:List Int)(h:Int)(w:World)(hb:Bs w a cap l)(hl:288<=l.length)(h1:1<=h)(h2:h<=40) :
  Calls Tryz.prog 186 #[.slice a l.length cap,.int .i64 h] w fun e w'=>e=.returned (.bool (zg l h != 0))/\w=w':=by
 have hp:=qx h1 h2
 obtain⟨b,off,rfl,hcell⟩:=hb.at (plc h) (by omega)
 have h3:=hb.2.2.1
 have HE:=zb (QL h w h1 h2)
 unfold zg
 have hlt:(plc h:Int)<l.length:=by omega
 clear hb
 generalize l.getD (plc h) 0=c at *
 generalize plc h=p at *
 go_enter Tryz.func186,Tryz.ntmps186
 go_wp2_with fail
 refine(za HE).mono ?_
 rintro e w1 ⟨rfl,rfl⟩
 go_wp2
 go_ret
 exact⟨rfl,rfl⟩
theorem zdR(a:Option Addr)(cap:Nat)(l:List Int)(h:Int)(w:World)(hb:Bs w a cap l) :
  Calls Tryz.prog 193 #[.slice a l.length cap,.int .i64 h] w fun e w'=>e=.returned (zK (zO l h))/\w=w':=by
 have h3:=hb.2.2.1
 have HL:=zb (qn l.length w)
 have HH:=zb (qS h w)
 unfold zO
 cases hq:Zi l.length with
 | false =>
  rw [if_pos rfl]
  rw [hq] at HL
  clear hq
  go_enter Tryz.func193,Tryz.ntmps193
  go_wp2_with fail
  refine(za HL).mono ?_
  rintro e w1 ⟨rfl,rfl⟩
  go_wp2
  go_ret
  exact⟨rfl,rfl⟩
 | true =>
  rw [if_neg (by simp)]
  rw [hq] at HL
  have hlen:=zM.1 hq
  cases hh:zaT h with
  | false =>
   rw [if_pos rfl]
   rw [hh] at HH
   clear hq hh
   go_enter Tryz.func193,Tryz.ntmps193
   go_wp2_with fail
   refine(za HL).mono ?_
   rintro e w1 ⟨rfl,rfl⟩
   go_wp2_with fail
   refine(za HH).mono ?_
   rintro e w1 ⟨rfl,rfl⟩
   go_wp2
   go_ret
   exact⟨rfl,rfl⟩
  | true =>
   rw [if_neg (by simp)]
   rw [hh] at HH
   have hhn:=zm.1 hh
   have HA:=zb (zsm a cap l h w hb (by omega) hhn.1 hhn.2)
   clear hq hh hb
   by_cases ht:zg l h=0
   ·rw [if_pos ht]
    rw [ht] at HA
    clear ht
    go_enter Tryz.func193,Tryz.ntmps193
    go_wp2_with fail
    refine(za HL).mono ?_
    rintro e w1 ⟨rfl,rfl⟩
    go_wp2_with fail
    refine(za HH).mono ?_
    rintro e w1 ⟨rfl,rfl⟩
    go_wp2_with fail
    refine(za HA).mono ?_
    rintro e w1 ⟨rfl,rfl⟩
    go_wp2
    go_ret
    exact⟨rfl,rfl⟩
   ·rw [if_neg ht]
    rw [bne_iff_ne.2 ht] at HA
    clear ht
    go_enter Tryz.func193,Tryz.ntmps193
    go_wp2_with fail
    refine(za HL).mono ?_
    rintro e w1 ⟨rfl,rfl⟩
    go_wp2_with fail
    refine(za HH).mono ?_
    rintro e w1 ⟨rfl,rfl⟩
    go_wp2_with fail
    refine(za HA).mono ?_
    rintro e w1 ⟨rfl,rfl⟩
    go_wp2
    go_ret
    exact⟨rfl,rfl⟩
theorem qF(w:World)(o:Obj):(w.alloc o).heap.size=w.heap.size+1:=by simp
def zgF(e:(Int×Int×Int×Int)):Value:=.agg #[.int .i64 e.1,.int .i64 e.2.1,.int .i64 e.2.2.1,.int .i64 e.2.2.2]
def EnB(w:World)(g:Nat)(e:(Int×Int×Int×Int)):Prop:=w.heap[g]?=some (.cells #[.int .i64 e.1,.int .i64 e.2.1,.int .i64 e.2.2.1,.int .i64 e.2.2.2] 126 (0,0))
section
variable {w:World} {g:Nat} {e:(Int×Int×Int×Int)}
theorem EnB.lt(h:EnB w g e):g<w.heap.size:=(Array.getElem?_eq_some_iff.1 h).1
theorem EnB.cells(h:EnB w g e):w.cell? ⟨g,0,none⟩=some (.int .i64 e.1)/\w.cell? ⟨g,1,none⟩=some (.int .i64 e.2.1)/\w.cell? ⟨g,2,none⟩=some (.int .i64 e.2.2.1)/\w.cell? ⟨g,3,none⟩=some (.int .i64 e.2.2.2):=by
 simp only [cell_of_row _ _ _ _ _ _ h]
 exact⟨rfl,rfl,rfl,rfl⟩
theorem EnB.fr(h:EnB w g e)(i:Nat):w.frozen? ⟨g,i,none⟩=false:=frozen_of_row w g i _ _ h
theorem EnB.below{w':World}{B:Nat}(h:EnB w g e)(hb:Below B w w')(hg:g<B):EnB w' g e:=(hb.block g hg).trans h
end
theorem EnB.new(w:World)(e:(Int×Int×Int×Int)):EnB (w.alloc (.cells #[.int .i64 e.1,.int .i64 e.2.1,.int .i64 e.2.2.1,.int .i64 e.2.2.2] 126)) w.heap.size e:=heap_alloc_new w _
theorem zt9:(Tryz.prog.info? 126).map (·.size)=some 4:=by kernel_rfl
theorem zfz{fn:Func}{p q:Tmp}(h:fn.results=#[.cell p 126,.tmp q])(tmps:Array Value)(w:World)(g:Nat)(e:(Int×Int×Int×Int))
  (hp:tmps.getD p undef=.pointer (some ⟨g,0,none⟩)) (hg:EnB w g e) :
  (results fn tmps).run Tryz.prog w=.ok (.tuple #[zgF e,tmps.getD q undef]) w:=by
 rw [results_cell_tmp h,hp]
 have:=run_loadVar_row (P:=Tryz.prog) w g 126 126 _ (0,0) _ hg Tryz.underlying126 rfl (by rw [zt9];rfl)
 simp [asAddr,this,Result.andThen]
 rfl
theorem zsf(a:Option Addr)(cap:Nat)(l:List Int)(h:Int)(w:World)(hb:Bs w a cap l)(hc:zO l h≠0) :
  Calls Tryz.prog 187 #[.slice a l.length cap,.int .i64 h] w fun e w'=>e=.returned (.tuple #[zgF zBz,zK (zO l h)])/\Below w.heap.size w w':=by
 have hb0:Below w.heap.size w (w.alloc (.cells #[.int .i64 0,.int .i64 0,.int .i64 0,.int .i64 0] 126)):=(Below.refl _ _).alloc (Nat.le_refl _) _
 have HC:=zb (zdR a cap l h _ (hb.below hb0))
 have HB0:=zb hb0
 rw [zh _ hc] at HC ⊢
 generalize zO l h=c at *
 generalize l.length=N at *
 clear hb hc hb0
 go_enter Tryz.func187,Tryz.ntmps187
 go_wp2_with fail
 refine(za HC).mono ?_
 rintro e w1 ⟨rfl,hw1⟩
 subst hw1
 go_wp2
 refine bodyPost_ret (zfz Tryz.results187 _ _ w.heap.size zBz rfl (EnB.new w zBz)) rfl ?_
 exact⟨rfl,za HB0⟩
set_option maxHeartbeats 1000000 in
theorem ze1(a:Option Addr)(cap:Nat)(l:List Int)(h:Int)(w:World)(hb:Bs w a cap l)(hc:zO l h=0) :
  Calls Tryz.prog 187 #[.slice a l.length cap,.int .i64 h] w fun e w'=>e=.returned (.tuple #[zgF (ze l h),.nilIface])/\Below w.heap.size w w':=by
 obtain⟨hl0,hh0,ht⟩:=zq.1 hc
 have hl1:=zM.1 hl0
 have hh1:=zm.1 hh0
 have hp:=qx hh1.1 hh1.2
 have hb0:Below w.heap.size w (w.alloc (.cells #[.int .i64 0,.int .i64 0,.int .i64 0,.int .i64 0] 126)):=(Below.refl _ _).alloc (Nat.le_refl _) _
 have hb1:=hb.below hb0
 have HC:=zb (zdR a cap l h _ hb1)
 rw [hc,zf] at HC
 have HE:=zb (QL h (w.alloc (.cells #[.int .i64 0,.int .i64 0,.int .i64 0,.int .i64 0] 126)) hh1.1 hh1.2)
 obtain⟨a',hlo,hb2⟩:=slice_lo (P:=Tryz.prog) (t:=29) Tryz.underlying29 zx hb1 (plc h) (by omega)
 have hdl:(l.drop (plc h)).length=l.length-plc h:=by simp
 have HG1:=zb (zaP a' (cap-plc h) (l.drop (plc h)) 1 2 _ hb2 (by omega) (by omega) (by omega) (by omega))
 have HG2:=zb (zaP a' (cap-plc h) (l.drop (plc h)) 3 2 _ hb2 (by omega) (by omega) (by omega) (by omega))
 obtain⟨b,off,rfl,hcell⟩:=hb2.at 0 (by omega)
 rw [hdl] at HG1 HG2
 have e1:Qj (l.drop (plc h)) (1:Int).toNat (2:Int).toNat=Qj l (plc h+1) 2:=by
  unfold Qj;rw [List.drop_drop];rfl
 have e3:Qj (l.drop (plc h)) (3:Int).toNat (2:Int).toNat=Qj l (plc h+3) 2:=by
  unfold Qj;rw [List.drop_drop];rfl
 rw [e1] at HG1
 rw [e3] at HG2
 have hc0:(l.drop (plc h)).getD 0 0=zg l h:=by rw [zaq,Nat.add_zero];rfl
 rw [hc0,Nat.add_zero] at hcell
 have hbd:=hb.1.getD (plc h)
 have hbd':0<=zg l h/\zg l h<=255:=hbd
 have h3:=hb.2.2.1
 have hcap:=hb.2.1
 unfold ze
 have hmore:((0:Nat):Int)<((l.length-plc h:Nat):Int):=by omega
 clear hb hb1 hb2 hb0 e1 e3 hc0 hbd hdl ht hc hl0 hh0
 generalize Qj l (plc h+1) 2=x at *
 generalize Qj l (plc h+3) 2=y at *
 generalize zg l h=t at *
 generalize plc h=p at *
 generalize l.length=N at *
 go_enter Tryz.func187,Tryz.ntmps187
 go_wp2_with fail
 refine(za HC).mono ?_
 rintro e w1 ⟨rfl,hw1⟩
 subst hw1
 go_wp2_with fail
 refine(za HE).mono ?_
 rintro e w1 ⟨rfl,hw1⟩
 subst hw1
 go_wp2_with fail
 refine(za HG1).mono ?_
 rintro e w1 ⟨rfl,hw1⟩
 subst hw1
 go_wp2_with fail
 refine(za HG2).mono ?_
 rintro e w1 ⟨rfl,hw1⟩
 subst hw1
 go_wp2
 refine bodyPost_ret (zfz Tryz.results187 _ _ w.heap.size (h,x,y,t-1) rfl (EnB.new w (h,x,y,t-1))) rfl ?_
 exact⟨rfl,(Below.refl _ _).alloc (Nat.le_refl _) _⟩
theorem znu(a:Option Addr)(cap:Nat)(l:List Int)(h:Int)(w:World)(hb:Bs w a cap l) :
  Calls Tryz.prog 187 #[.slice a l.length cap,.int .i64 h] w fun e w'=>e=.returned (.tuple #[zgF (zaQ l h),zK (zO l h)])/\Below w.heap.size w w':=by
 unfold zaQ
 by_cases hc:zO l h=0
 ·rw [if_pos hc,hc,zf]
  exact ze1 a cap l h w hb hc
 ·rw [if_neg hc]
  exact zsf a cap l h w hb hc
section
variable {α:Type} {enc:α->List Value} {k T:Nat}
def Lst(enc:α->List Value)(k T:Nat)(w:World)(B:Nat)(v:Value)(l:List α):Prop:=w.ownsRow B T k v l.length (l.flatMap enc)
def Sls(enc:α->List Value)(k:Nat)(w:World)(a:Option Addr)(cap:Nat)(l:List α):Prop :=
 l.length<=cap/\(a=none->cap=0)/\l.length<=8796093021952/\(l≠[]->∃ b off,a=some ⟨b,off,none⟩/\∀ i x,l[i]?=some x->∀ j u,(enc x)[j]?=some u->w.cell? ⟨b,off+i * k+j,none⟩=some u)
theorem znE(hk:∀ x,(enc x).length=k)(l:List α):(l.flatMap enc).length=l.length * k:=by
 induction l with
 | nil=>simp
 | cons e r ih=>rw [List.flatMap_cons,List.length_append,ih,List.length_cons,hk,Nat.succ_mul];omega
theorem zsF(hk:∀ x,(enc x).length=k):∀ (l:List α) (i:Nat) (x:α),l[i]?=some x->∀ j u,(enc x)[j]?=some u->(l.flatMap enc)[i * k+j]?=some u
 | [],i,x,h=>by simp at h
 | e :: r,0,x,h=>by
  obtain rfl:e=x:=by simpa using h
  intro j u hj
  have hlt:j<(enc e).length:=(List.getElem?_eq_some_iff.1 hj).1
  rw [List.flatMap_cons,Nat.zero_mul,Nat.zero_add,List.getElem?_append_left hlt]
  exact hj
 | e :: r,i+1,x,h=>by
  intro j u hj
  have:=zsF hk r i x (by simpa using h) j u hj
  rw [List.flatMap_cons,List.getElem?_append_right (by rw [hk,Nat.succ_mul];omega),hk,Nat.succ_mul,show i * k+k+j-k=i * k+j by omega]
  exact this
theorem Lst.nil(w:World)(B:Nat):Lst enc k T w B (.slice none 0 0) []:=⟨by simp,.inl ⟨rfl,rfl⟩⟩
theorem Lst.sls(hk:∀ x,(enc x).length=k){w:World}{B:Nat}{v:Value}{l:List α}(h:Lst enc k T w B v l)(hl:l.length<=8796093021952):∃ a c,v=.slice a l.length c/\Sls enc k w a c l:=by
 rcases h.2 with ⟨rfl,h0⟩ | ⟨g,cap,cur,rfl,hB,hc,h3,h4,h5,h6⟩
 ·have:l=[]:=List.eq_nil_of_length_eq_zero h0
  subst this
  exact⟨none,0,rfl,Nat.le_refl _,fun _=>rfl,by simp,fun h=>absurd rfl h⟩
 ·refine⟨some ⟨g,0,none⟩,cap,rfl,h3,fun e=>(by cases e),hl,fun _=>⟨g,0,rfl,fun i x hx j u hj=>?_⟩⟩
  have q:=zsF hk l i x hx j u hj
  have hlt:=(List.getElem?_eq_some_iff.1 q).1
  rw [znE hk] at hlt
  rw [<- h6,List.getElem?_take,if_pos hlt] at q
  rw [cell_of_row _ _ _ _ _ _ hc,Nat.zero_add]
  simpa using q
theorem Lst.below{w w':World}{B:Nat}{v:Value}{l:List α}(h:Lst enc k T w B v l)(hb:Below w.heap.size w w'):Lst enc k T w' B v l:=by
 refine⟨h.1,?_⟩
 rcases h.2 with h0 | ⟨g,cap,cur,rfl,hB,hc,h3⟩
 ·exact .inl h0
 ·exact .inr ⟨g,cap,cur,rfl,hB,(hb.block g (Array.getElem?_eq_some_iff.1 hc).1).trans hc,h3⟩
theorem Lst.shape{w:World}{B:Nat}{v:Value}{l:List α}(h:Lst enc k T w B v l):∃ a m c,v=.slice a m c:=by
 rcases h.2 with ⟨rfl,_⟩ | ⟨g,cap,cur,rfl,_⟩
 ·exact⟨_,_,_,rfl⟩
 ·exact⟨_,_,_,rfl⟩
theorem Lst.block{w:World}{B:Nat}{v:Value}{l:List α}(h:Lst enc k T w B v l):∀ g,v.ownBlock=some g->B<=g:=by
 intro g hg
 rcases h.2 with ⟨rfl,_⟩ | ⟨g',cap,cur,rfl,hB,_⟩
 ·cases hg
 ·simp [Value.ownBlock] at hg
  omega
theorem Sls.below{w w':World}{a:Option Addr}{cap:Nat}{l:List α}(h:Sls enc k w a cap l)(hb:Below w.heap.size w w'):Sls enc k w' a cap l:=by
 obtain⟨h1,h2,h3,h4⟩:=h
 refine⟨h1,h2,h3,fun hne=>?_⟩
 obtain⟨b,off,rfl,hc⟩:=h4 hne
 refine⟨b,off,rfl,fun i x hx j u hj=>?_⟩
 have q:=hc i x hx j u hj
 exact(hb.cell (block_lt_of_cell q)).trans q
theorem zr{P:Program}{w:World}{ops:Array Oper}{rest:List Oper}{o:Oper}{a:Act}{Q:Exit->Act->World->Prop}(hgd:o.guard=none)(s x:Operand)(t:TypeId)
  (ho:o.op=.call { callee:=.builtin .append,args:=#[s,x],argTypes:=#[t,t]}) (B:Nat) (i0:TypeInfo) (z:Value) (bytes:Nat)
  (ht:P.underlying t=some (.slice T)) (hi:P.info? T=some i0) (hz:i0.zero=some z) (hsize:i0.size=k) (hby:i0.bytes=bytes) (hzs:z.cells.size=k) (hsz:0<k) (hbb:bytes<=100)
  (v:Value) (l:List α) (hs:a.eval s=v) (hown:Lst enc k T w B v l) (g:Nat) (y:α) (hx:a.eval x=.slice (some ⟨g,0,none⟩) 1 1)
  (hy:w.heap[g]?=some (.cells (enc y).toArray T (0,0))) (hk:(enc y).length=k) (h1:∀ u∈enc y,u.oneCell'=true) (hn:l.length<=1000) (hB:B<=w.heap.size)
  (h:∀ v' w',Lst enc k T w' B v' (l++[y])->Below B w w'->wpList P ops Q rest (a.put o.dst v') w') :
  wpList P ops Q (o :: rest) a w:=by
 refine wpList_append_own w hgd s x t ho B T i0 z k bytes ht hi hz hsize hby hzs hsz v l.length (l.flatMap enc) hs hown ⟨g,0,none⟩ 1 1 (enc y) hx (by rw [hk,Nat.one_mul]) (fun j u hj=>?_) h1 (by unfold maxLen;omega) (Nat.le_trans (Nat.mul_le_mul (show l.length+1<=1001 by omega) hbb) (by decide)) hB ?_
 ·rw [addr_add,Nat.zero_add,cell_of_row _ _ _ _ _ _ hy]
  simpa using hj
 ·intro v' w' ho' hg' _
  refine h v' w' ?_ ((Below.refl _ _).grown hg' hB (fun k hk=>hown.block k hk))
  unfold Lst
  rw [List.length_append,List.flatMap_append]
  simpa using ho'
end
def enC(e:(Int×Int×Int×Int)):List Value:=[.int .i64 e.1,.int .i64 e.2.1,.int .i64 e.2.2.1,.int .i64 e.2.2.2]
theorem zda(e:(Int×Int×Int×Int)):(enC e).length=4:=rfl
theorem zy7(e:(Int×Int×Int×Int)):∀ u∈enC e,u.oneCell'=true:=by
 intro u hu
 unfold enC at hu
 rcases List.mem_cons.1 hu with rfl | hu
 ·rfl
 rcases List.mem_cons.1 hu with rfl | hu
 ·rfl
 rcases List.mem_cons.1 hu with rfl | hu
 ·rfl
 rw [List.mem_singleton.1 hu]
 rfl
theorem zvm:(Tryz.prog.info? 126).map (fun i=>(i.zero,i.size,i.bytes))=some (some (.agg #[.int .i64 0,.int .i64 0,.int .i64 0,.int .i64 0]),4,32):=by kernel_rfl
theorem Sls.ent{w:World}{b off cap:Nat}{l:List (Int×Int×Int×Int)}(hc:∀ i x,l[i]?=some x->∀ j u,(enC x)[j]?=some u->w.cell? ⟨b,off+i * 4+j,none⟩=some u){i:Nat}{e:(Int×Int×Int×Int)}(h:l[i]?=some e) :
  w.cell? ⟨b,off+i * 4,none⟩=some (.int .i64 e.1)/\w.cell? ⟨b,off+i * 4+1,none⟩=some (.int .i64 e.2.1)/\w.cell? ⟨b,off+i * 4+2,none⟩=some (.int .i64 e.2.2.1)/\w.cell? ⟨b,off+i * 4+3,none⟩=some (.int .i64 e.2.2.2) :=
 ⟨hc i e h 0 _ rfl,hc i e h 1 _ rfl,hc i e h 2 _ rfl,hc i e h 3 _ rfl⟩
def roC(r:(ByteArray×Int)):List Value:=[.string r.1,.int .i64 r.2]
theorem zhL(r:(ByteArray×Int)):(roC r).length=2:=rfl
theorem zxV(r:(ByteArray×Int)):∀ u∈roC r,u.oneCell'=true:=by
 intro u hu
 unfold roC at hu
 rcases List.mem_cons.1 hu with rfl | hu
 ·rfl
 rw [List.mem_singleton.1 hu]
 rfl
theorem zr9:(Tryz.prog.info? 136).map (fun i=>(i.zero,i.size,i.bytes))=some (some (.agg #[.string ByteArray.empty,.int .i64 0]),2,24):=by kernel_rfl
theorem Sls.root{w:World}{b off cap:Nat}{l:List (ByteArray×Int)}(hc:∀ i x,l[i]?=some x->∀ j u,(roC x)[j]?=some u->w.cell? ⟨b,off+i * 2+j,none⟩=some u){i:Nat}{e:(ByteArray×Int)}(h:l[i]?=some e) :
  w.cell? ⟨b,off+i * 2,none⟩=some (.string e.1)/\w.cell? ⟨b,off+i * 2+1,none⟩=some (.int .i64 e.2) :=
 ⟨hc i e h 0 _ rfl,hc i e h 1 _ rfl⟩
def Row(w:World)(B g c:Nat)(cur:Array Value)(l:List Int):Prop :=
 B<=g/\w.heap[g]?=some (.cells cur 5 (0,0))/\l.length<=c/\cur.size=c/\cur.toList.take l.length=l.map (Value.int .u8)
theorem Row.bs{w:World}{B g c:Nat}{cur:Array Value}{l:List Int}(h:Row w B g c cur l)(hb:Byt l)(hl:l.length<=140737488351232):Bs w (some ⟨g,0,none⟩) c l:=by
 obtain⟨h1,h2,h3,h4,h5⟩:=h
 refine⟨hb,h3,hl,fun e=>(by cases e),fun _=>⟨g,0,rfl,fun i hi=>?_⟩⟩
 rw [cell_of_row _ _ _ _ _ _ h2]
 have e:(cur.toList.take l.length)[i]?=some (.int .u8 (l.getD i 0)):=by
  rw [h5]
  simp [List.getD,hi]
 rw [List.getElem?_take,if_pos hi] at e
 simpa using e
theorem Row.of_own{w:World}{B g cap:Nat}{l:List Int}(h:Own w B g cap l):∃ cur,Row w B g cap cur l:=by
 rcases h.2 with ⟨h',_⟩ | ⟨g',cap',cur,h',hb,h2,h3,h4,h5,h6⟩
 ·simp at h'
 ·simp only [Value.slice.injEq,Option.some.injEq,Addr.mk.injEq,and_true,true_and] at h'
  obtain⟨rfl,rfl⟩:=h'
  exact⟨cur,hb,h2,h3,by omega,by rw [Nat.mul_one] at h6;exact h6⟩
def za8(w:World)(g:Nat)(cur:Array Value)(off:Nat)(l:List Int):World:=w.setRow g (splice cur.toList off (l.map (Value.int .u8))).toArray
theorem zcb{w:World}{B g c off:Nat}{cur:Array Value}{l r:List Int}(h:Row w B g c cur l)(hfit:off+r.length<=l.length):Row (za8 w g cur off r) B g c (splice cur.toList off (r.map (Value.int .u8))).toArray (splice l off r):=by
 obtain⟨h1,h2,h3,h4,h5⟩:=h
 have hs:=length_splice hfit
 refine⟨h1,setRow_heap w g _ _ _ _ h2,by rw [hs];exact h3,?_,?_⟩
 ·rw [List.size_toArray,Go.length_splice _ _ _ (by simp;omega)]
  simpa using h4
 ·rw [hs]
  have hcl:l.length<=cur.toList.length:=by simp;omega
  generalize cur.toList=L at *
  unfold splice
  have e1:(L.take off)=(l.take off).map (Value.int .u8):=by
   rw [List.map_take,<- h5,List.take_take,Nat.min_eq_left (by omega)]
  have e2:(L.drop (off+r.length)).take (l.length-off-r.length)=(l.drop (off+r.length)).map (Value.int .u8):=by
   rw [List.map_drop,<- h5,List.drop_take]
   congr 1
   omega
  rw [List.take_append,List.take_append,List.map_append,List.map_append]
  have l1:(List.take off L).length=off:=by rw [List.length_take];omega
  have t1:List.take l.length (List.take off L)=(l.take off).map (Value.int .u8):=by rw [List.take_take,Nat.min_eq_right (by omega)];exact e1
  have t2:List.take (l.length-off) (r.map (Value.int .u8))=r.map (Value.int .u8):=List.take_of_length_le (by simp;omega)
  rw [l1,List.length_map,e2,t1,t2]
theorem zbA{w w0:World}{B g off:Nat}{cur:Array Value}{l:List Int}(hb:Below B w0 w)(hBg:B<=g):Below B w0 (za8 w g cur off l):=below_setRow hb hBg _
theorem ZS{P:Program}(w:World)(dT sT ty:TypeId)(hu:P.underlying dT=some (.slice 5))(hsz:(P.info? 5).map (·.size)=some 1)
  (B g off dLen dCap c:Nat) (cur:Array Value) (sp:Option Addr) (sCap:Nat) (z l:List Int) (hl:l.length<=dLen) (h0:l≠[]) (hfit:off+l.length<=z.length) (hg:Row w B g c cur z) (hb:Bs w sp sCap l) :
  (Builtin.copy_ #[dT,sT] ty #[.slice (some ⟨g,off,none⟩) dLen dCap,.slice sp l.length sCap]).run P w=.ok (.int .i64 l.length) (za8 w g cur off l):=by
 obtain⟨h1,h2,h3,h4,h5⟩:=hg
 obtain⟨b,o2,rfl,hc⟩:=hb.2.2.2.2 h0
 have hrun:=run_copy_row (P:=P) w dT sT ty 5 g off dLen dCap ⟨b,o2,none⟩ l.length sCap cur 5 (l.map (Value.int .u8)) hu hsz h2 (by simp [Nat.min_eq_left hl]) ?_ (by simp;omega) (oneCell_u8 l)
 ·rw [hrun]
  simp [goInt,za8,splice]
 ·intro j v hj
  have hjl:j<l.length:=by
   rcases Nat.lt_or_ge j l.length with h1 | h1
   ·exact h1
   ·rw [List.getElem?_eq_none (by simpa using h1)] at hj;cases hj
  have:=hc j hjl
  simp [hjl] at hj
  subst hj
  rw [addr_add]
  simpa [List.getD,hjl] using this
theorem zl9{P:Program}{t:TypeId}(hu:P.underlying t=some (.slice 5))(hsz:(P.info? 5).map (·.size)=some 1)(g c n p:Nat)(hp:p<=n)(hn:n<=c)(hlt:p<c)(w':World) :
  (Instr.slice t (.slice (some ⟨g,0,none⟩) n c) (some (.int .i64 p)) none none).run P w'=.ok (.slice (some ⟨g,p,none⟩) (n-p) (c-p)) w':=by
 have he:=elem_u8 hu
 rw [run_slice_l (P:=P) (w:=w') t (some ⟨g,0,none⟩) n c (by rw [he];exact hu) .i64 p (by omega) (by omega),he,run_size_u8 w' hsz]
 simp only [Result.andThen,sliced]
 rw [if_neg (by omega)]
 simp [Addr.add]
 exact fun h=>h.symm
set_option maxHeartbeats 1000000 in
theorem znM(a:Option Addr)(cap:Nat)(l:List Int)(w:World)(hb:Bs w a cap l)(hne:l≠[]) :
  Calls Tryz.prog 235 #[.slice a l.length cap] w fun e w'=>∃ g c,e=.returned (.slice (some ⟨g,0,none⟩) l.length c)/\Own w' w.heap.size g c l/\Below w.heap.size w w':=by
 obtain⟨i0,hi,hz0,hz1,hz2⟩:=info_parts qG
 obtain⟨b,off,rfl,hc⟩:=hb.2.2.2.2 hne
 have hl:=hb.2.2.1
 have q22:∀ (w:World) (a:Option Addr) (n c n' c':Nat),(binOp .eql 29 (.slice a n c) (.slice none n' c')).run Tryz.prog w=.ok (.bool a.isNone) w:=fun w a n c n' c'=>Lib.run_eql_slice_nil w _ _ a n c n' c' Tryz.underlying29
 have HN:=zb (zrv (hb.below ((Below.refl _ w).alloc (Nat.le_refl _) (.cells #[] 5))))
 have hpos:0<l.length:=by
  cases l with
  | nil=>exact absurd rfl hne
  | cons _ _=>simp
 clear hc hb
 go_enter Tryz.func235,Tryz.ntmps235
 go_wp2_with (at_builtin;refine wpList_append_own _ rfl _ _ 29 rfl w.heap.size 5 i0 (.int .u8 0) 1 1 Tryz.underlying29 hi hz0 hz1 hz2 rfl (by decide) _ _ _ rfl (World.ownsRow_made w #[] 0 (Nat.le_refl _) (Nat.zero_le _) (by simp)) ⟨b,off,none⟩ l.length cap (l.map (Value.int .u8)) rfl (by simp) (za HN) (oneCell_u8 l) (by unfold maxLen;omega) (by omega) (by simp) ?_)
 intro v' w1 hown hgrow hnil
 obtain⟨g,c,rfl⟩:∃ g c,v'=.slice (some ⟨g,0,none⟩) l.length c:=by
  rcases hown.2 with ⟨_,h0⟩ | ⟨g,c,_,hv,_⟩
  ·omega
  ·exact⟨g,c,hv⟩
 have HO:=zb hown
 clear hown HN
 go_wp2
 go_ret
 exact⟨g,c,rfl,za HO,((Below.refl _ w).alloc (Nat.le_refl _) _).grown hgrow (by simp) (by intro k hk;simp [Value.ownBlock] at hk;omega)⟩
theorem zhv(a:Option Addr)(cap:Nat)(l:List Int)(p:Nat)(ra:Option Addr)(rc:Nat)(r:List Int)(w:World)(hb:Bs w a cap l)(hr:Bs w ra rc r)(h0:r≠[])(hfit:p+r.length<=l.length) :
  Calls Tryz.prog 191 #[.slice a l.length cap,.int .i64 p,.slice ra r.length rc] w fun e w'=>∃ a' c',e=.returned (.slice a' l.length c')/\Bs w' a' c' (splice l p r)/\Below w.heap.size w w':=by
 have hrl:0<r.length:=by
  cases r with
  | nil=>exact absurd rfl h0
  | cons _ _=>simp
 have HC:=zb (znM a cap l w hb (by intro e;rw [e] at hfit;simp only [List.length_nil] at hfit;omega))
 have HR:=zb hr
 have hbl:=hb.2.2.1
 have HBY:=zb (qv (off:=p) hb.1 hr.1)
 clear hb hr
 go_enter Tryz.func191,Tryz.ntmps191
 go_wp2_with fail
 refine(za HC).mono ?_
 rintro e w1 ⟨g,c,rfl,hown,hb1⟩
 obtain⟨cur,hrow⟩:=Row.of_own hown
 have hcut:=zl9 (P:=Tryz.prog) Tryz.underlying29 zx g c l.length p (by omega) hrow.2.2.1 (by have:=hrow.2.2.1;omega)
 have hcopy:Sem.run Tryz.prog (Builtin.copy_ #[29,29] 3 #[.slice (some ⟨g,p,none⟩) (l.length-p) (c-p),.slice ra r.length rc]) w1=.ok (.int .i64 r.length) (za8 w1 g cur p r) :=
  ZS w1 _ _ _ Tryz.underlying29 zx _ g p _ _ c cur ra rc l r (by omega) h0 hfit hrow ((za HR).below hb1)
 have HW:=zb (zcb hrow hfit)
 have HB:=zb (zbA (cur:=cur) (l:=r) (off:=p) hb1 hrow.1)
 clear hown hrow hb1 HC HR
 go_wp2
 go_ret
 exact⟨_,c,rfl,(za HW).bs (za HBY) (by rw [length_splice hfit];omega),za HB⟩
theorem zul(x a l t:Int)(ht:0<=t/\t<=15):zbw (zbw ((zerosB 5).set 0 (t+1)) 1 a 2) 3 l 2=zax (x,a,l,t):=by
 have e:(t+1) % 256=t+1:=by omega
 simp [zbw,zax,zerosB,e]
set_option maxRecDepth 100000 in
set_option maxHeartbeats 1000000 in
theorem zeE(x a l t:Int)(w:World)(ht:0<=t/\t<=15)(ha:0<=a/\a<=65535)(hl:0<=l/\l<=65535) :
  Calls Tryz.prog 190 #[.agg #[.int .i64 x,.int .i64 a,.int .i64 l,.int .i64 t]] w fun e w'=>∃ g,e=.returned (.tuple #[.slice (some ⟨g,0,none⟩) 5 5,.nilIface])/\Bs w' (some ⟨g,0,none⟩) 5 (zax (x,a,l,t))/\Below w.heap.size w w':=by
 obtain⟨i0,hi,hz0,hz1,hz2⟩:=info_parts qG
 have hb0:Below w.heap.size w (w.alloc (.cells #[.int .i64 x,.int .i64 a,.int .i64 l,.int .i64 t] 126)):=(Below.refl _ _).alloc (Nat.le_refl _) _
 have HEN:=zb (EnB.new w (x,a,l,t))
 have HB0:=zb hb0
 clear hb0
 obtain⟨t1,t2⟩:=ht
 go_enter Tryz.func190,Tryz.ntmps190
 go_wp2_with (at_make;refine wpList_make_u8 rfl _ _ 29 rfl i0 Tryz.underlying29 hi hz0 hz1 hz2 _ _ _ _ 5 rfl rfl rfl rfl (by omega) ?_;intro w2 hk2 hs2 hb2;rw [qF] at hk2 hs2;have hen:=(za HEN).below hb2 (by simp);obtain⟨c0,c1,c2,c3⟩:=hen.cells;have hcl:=hk2.cell 0 (by rw [length_zerosB];omega);have hfz:=hk2.frozen 0;have HB2:=zb ((za HB0).trans (hb2.mono (by simp)));have HK2:=zb hk2;have HEN2:=zb hen;clear hk2 hb2 hen)
 have hk3:=(za HK2).set 0 (t+1)
 have hb3:Below w.heap.size w (w2.setCell ⟨w.heap.size+1,0,none⟩ (.int .u8 (t+1))):=(za HB2).setCell (by exact Nat.le_succ _) _
 have hen3:EnB (w2.setCell ⟨w.heap.size+1,0,none⟩ (.int .u8 (t+1))) w.heap.size (x,a,l,t):=(heap_setCell_other _ _ _ _ (by show w.heap.size≠w.heap.size+1;omega)).trans (za HEN2)
 clear HK2 HB2 HEN2 HEN HB0 c0 c1 c2 c3 hcl hfz
 generalize w2.setCell ⟨w.heap.size+1,0,none⟩ (.int .u8 (t+1))=w3 at *
 have hR:=zul x a l t ⟨t1,t2⟩
 have hl0:((zerosB 5).set 0 (t+1)).length=5:=by simp [zerosB]
 have hby:Byt ((zerosB 5).set 0 (t+1)):=zmm (byt_zerosB 5) 0 _ (by omega)
 generalize (zerosB 5).set 0 (t+1)=R0 at *
 have HP1:=zb (zhP (some ⟨w.heap.size+1,0,none⟩) R0.length R0 1 2 a w3 (hk3.bs hby (by omega)) (by omega) (by omega) ha.1 (by show ¬ zh3 ((2:Nat):Int)<a;simp [zh3];omega) (by omega))
 rw [hl0] at HP1
 obtain⟨c0,c1,c2,c3⟩:=hen3.cells
 have HEN3:=zb hen3
 have HB3:=zb hb3
 clear hk3 hen3 hb3
 go_wp2_with fail
 refine(za HP1).mono ?_
 rintro e w4 ⟨g1,rfl,hg1,hk4,hb4⟩
 have hen4:=(za HEN3).below hb4 (za HEN3).lt
 have HB4:=zb ((za HB3).trans (hb4.mono (za HB3).size))
 have hl4:(zbw R0 1 a 2).length=5:=by rw [qt];exact hl0
 have hby4:Byt (zbw R0 1 a 2):=zcJ hby 1 a 2
 have HP2:=zb (zhP (some ⟨g1,0,none⟩) (zbw R0 1 a 2).length (zbw R0 1 a 2) 3 2 l w4 (hk4.bs hby4 (by omega)) (by omega) (by omega) hl.1 (by show ¬ zh3 ((2:Nat):Int)<l;simp [zh3];omega) (by omega))
 rw [hl4] at HP2
 obtain⟨d0,d1,d2,d3⟩:=hen4.cells
 have HR:=zb hR
 have HBY:=zb (zcJ hby4 3 l 2)
 have HL:=zb (qt (zbw R0 1 a 2) 3 l 2)
 clear hk4 hen4 hb4 HP1 HEN3 HB3 c0 c1 c2 c3 hR hby hby4
 generalize zbw R0 1 a 2=R1 at *
 go_wp2_with fail
 refine(za HP2).mono ?_
 rintro e w5 ⟨g2,rfl,hg2,hk5,hb5⟩
 have HK5:=zb hk5
 have HB5:=zb ((za HB4).trans (hb5.mono (za HB4).size))
 clear hk5 hb5 HP2 HB4 d0 d1 d2 d3
 go_wp2
 go_ret2
 have h5:(zbw R1 3 l 2).length=5:=(za HL).trans hl4
 have hbs:=(za HK5).bs (za HBY) (by omega)
 rw [h5,za HR] at hbs
 exact⟨g2,rfl,hbs,za HB5⟩
def mkW(w:World)(n:Nat):World:=w.alloc (.cells ((zerosB n).map (Value.int .u8)).toArray 5)
theorem zh4(w:World)(n:Nat):Blk (mkW w n) w.heap.size (zerosB n):=heap_alloc_new w _
theorem zdB(w:World)(n:Nat):Below w.heap.size w (mkW w n):=(Below.refl _ _).alloc (Nat.le_refl _) _
theorem zbp(w:World)(n:Nat)(hn:n<=1000000):Sem.run Tryz.prog (Instr.makeSlice 29 (.int .i64 n) (.int .i64 n)) w=.ok (.slice (some ⟨w.heap.size,0,none⟩) n n) (mkW w n):=by
 obtain⟨i0,hi,hz0,hz1,hz2⟩:=info_parts qG
 have hrun:=run_make (P:=Tryz.prog) w 29 5 i0 _ Tryz.underlying29 hi hz0 .i64 .i64 n n (by omega) (by omega) (by rw [hz2];omega) (by omega)
 rw [hrun,hz1,Nat.mul_one,Int.toNat_natCast]
 unfold mkW
 rw [<- made_zeros,Array.toArray_toList]
set_option maxRecDepth 100000 in
set_option maxHeartbeats 1000000 in
theorem zvT(a:Option Addr)(cap:Nat)(l:List Int)(h:Int)(w:World)(hb:Bs w a cap l) :
  Calls Tryz.prog 135 #[.slice a l.length cap,.int .i64 h] w (Ends w (qh l h) (zK (zO l h))):=by
 have HC:=zb (zdR a cap l h w hb)
 have h3:=hb.2.2.1
 unfold qh
 by_cases hc:zO l h=0
 ·obtain⟨hl0,hh0,ht⟩:=zq.1 hc
  rw [if_pos hc,hc,zf]
  rw [hc,zf] at HC
  have hl1:=zM.1 hl0
  have hh1:=zm.1 hh0
  have hp:=qx hh1.1 hh1.2
  have hzl:=length_zerosB 5
  have hne:zerosB 5≠[]:=by intro e;rw [e] at hzl;simp at hzl
  have hd:Below w.heap.size w (mkW w.drew 5):=(show Below w.heap.size w w.drew from⟨rfl,rfl,rfl,Nat.le_refl _,fun _ _=>rfl⟩).trans (zdB w.drew 5)
  have HW:Hid (Calls Tryz.prog 191 #[.slice a l.length cap,.int .i64 (plc h),.slice (some ⟨w.heap.size,0,none⟩) 5 5] (mkW w.drew 5) fun e w'=>∃ a' c',e=.returned (.slice a' l.length c')/\Bs w' a' c' (splice l (plc h) (zerosB 5))/\Below w.heap.size w w'):=zb (by
   have:=zhv a cap l (plc h) (some ⟨w.heap.size,0,none⟩) (zerosB 5).length (zerosB 5) (mkW w.drew 5) (hb.below hd) ((zh4 w.drew 5).bs (byt_zerosB 5) (by decide)) hne (by omega)
   rw [hzl] at this
   exact this.mono fun e w' ⟨a',c',he,hbs,hbel⟩=>⟨a',c',he,hbs,hd.trans (hbel.mono hd.size)⟩)
  have HE:=zb (fun w'=>QL h w' hh1.1 hh1.2)
  have HLEN:=zb (length_splice (z:=l) (l:=zerosB 5) (off:=plc h) (by omega))
  have hmk:∀ w',Sem.run Tryz.prog (Instr.makeSlice 29 (.int .i64 5) (.int .i64 5)) w'=.ok (.slice (some ⟨w'.heap.size,0,none⟩) 5 5) (mkW w' 5):=fun w'=>zbp w' 5 (by decide)
  clear hc ht hl0 hh0 hb hd
  go_enter Tryz.func135,Tryz.ntmps135
  go_wp2_with fail
  refine(za HC).mono ?_
  rintro e w1 ⟨rfl,rfl⟩
  go_wp2_with fail
  go_region_with (first | (go_at_call 192;refine(za HE _).mono ?_;rintro e w2 ⟨rfl,rfl⟩) | (go_at_call 191;refine(za HW).mono ?_;rintro e w3 ⟨a3,c3,rfl,hbs3,hb3⟩))
  all_goals
   go_wp2
   go_ret2
   exact⟨a3,c3,by rw [za HLEN];rfl,hbs3,hb3⟩
 ·rw [if_neg hc]
  rw [zh _ hc] at HC ⊢
  generalize zO l h=c at *
  clear hb hc
  go_enter Tryz.func135,Tryz.ntmps135
  go_wp2_with fail
  refine(za HC).mono ?_
  rintro e w1 ⟨rfl,rfl⟩
  go_wp2
  go_ret2
  exact Qy rfl rfl
theorem zBN(len:Nat)(x a l t:Int)(w:World)(hb:len<=140737488351232)(hq:Zi len=false) :
  Calls Tryz.prog 189 #[.int .i64 len,.agg #[.int .i64 x,.int .i64 a,.int .i64 l,.int .i64 t]] w fun e w'=>e=.returned (zK 3)/\Below w.heap.size w w':=by
 rw [zh 3 (by decide)]
 have HL:=zb (fun W=>qn len W)
 rw [hq] at HL
 clear hq
 go_enter Tryz.func189,Tryz.ntmps189
 go_wp2_with (go_at_call 185;refine(za HL _).mono ?_;rintro e w1 ⟨rfl,rfl⟩)
 go_ret
 exact⟨rfl,(Below.refl _ _).alloc (Nat.le_refl _) _⟩
theorem zwb(len:Nat)(x a l t:Int)(w:World)(hb:len<=140737488351232)(hq:Zi len=true)(hr:zaT x=false\/(zaT x=true/\ztz t=false)\/(zaT x=true/\ztz t=true/\zwr l=false)) :
  Calls Tryz.prog 189 #[.int .i64 len,.agg #[.int .i64 x,.int .i64 a,.int .i64 l,.int .i64 t]] w fun e w'=>e=.returned (zK 1)/\Below w.heap.size w w':=by
 rw [zh 1 (by decide)]
 have HL:=zb (fun W=>qn len W)
 have HH:=zb (fun W=>qS x W)
 have HT:=zb (fun W=>zfX t W)
 have HS:=zb (fun W=>zeh l W)
 rw [hq] at HL
 rcases hr with h1 | ⟨h1,h2⟩ | ⟨h1,h2,h3⟩
 ·rw [h1] at HH
  clear hq h1
  go_enter Tryz.func189,Tryz.ntmps189
  go_wp2_with (first | (go_at_call 185;refine(za HL _).mono ?_;rintro e w1 ⟨rfl,rfl⟩) | (go_at_call 231;refine(za HH _).mono ?_;rintro e w1 ⟨rfl,rfl⟩))
  go_ret
  exact⟨rfl,(Below.refl _ _).alloc (Nat.le_refl _) _⟩
 ·rw [h1] at HH
  rw [h2] at HT
  clear hq h1 h2
  go_enter Tryz.func189,Tryz.ntmps189
  go_wp2_with (first | (go_at_call 185;refine(za HL _).mono ?_;rintro e w1 ⟨rfl,rfl⟩) | (go_at_call 231;refine(za HH _).mono ?_;rintro e w1 ⟨rfl,rfl⟩) | (go_at_call 232;refine(za HT _).mono ?_;rintro e w1 ⟨rfl,rfl⟩))
  go_ret
  exact⟨rfl,(Below.refl _ _).alloc (Nat.le_refl _) _⟩
 ·rw [h1] at HH
  rw [h2] at HT
  rw [h3] at HS
  clear hq h1 h2 h3
  go_enter Tryz.func189,Tryz.ntmps189
  go_wp2_with (first | (go_at_call 185;refine(za HL _).mono ?_;rintro e w1 ⟨rfl,rfl⟩) | (go_at_call 231;refine(za HH _).mono ?_;rintro e w1 ⟨rfl,rfl⟩) | (go_at_call 232;refine(za HT _).mono ?_;rintro e w1 ⟨rfl,rfl⟩) | (go_at_call 233;refine(za HS _).mono ?_;rintro e w1 ⟨rfl,rfl⟩))
  go_ret
  exact⟨rfl,(Below.refl _ _).alloc (Nat.le_refl _) _⟩
theorem zwa(len:Nat)(x a l t:Int)(w:World)(hb:len<=140737488351232)(hq:Zi len=true)(h1:zaT x=true)(h2:ztz t=true)(h3:zwr l=true)(h4:zzT len a l=false)(ha:-9223372036854775808<=a/\a<=9223372036854775807) :
  Calls Tryz.prog 189 #[.int .i64 len,.agg #[.int .i64 x,.int .i64 a,.int .i64 l,.int .i64 t]] w fun e w'=>e=.returned (zK 3)/\Below w.heap.size w w':=by
 rw [zh 3 (by decide)]
 have HL:=zb (fun W=>qn len W)
 have HH:=zb (fun W=>qS x W)
 have HT:=zb (fun W=>zfX t W)
 have HS:=zb (fun W=>zeh l W)
 have hlen:=zM.1 hq
 have HB:=zb (zez len a l (w.alloc (.cells #[.int .i64 x,.int .i64 a,.int .i64 l,.int .i64 t] 126)) (by omega) ha)
 rw [hq] at HL
 rw [h1] at HH
 rw [h2] at HT
 rw [h3] at HS
 rw [h4] at HB
 clear hq h1 h2 h3 h4 ha
 go_enter Tryz.func189,Tryz.ntmps189
 go_wp2_with (first | (go_at_call 185;refine(za HL _).mono ?_;rintro e w1 ⟨rfl,rfl⟩) | (go_at_call 231;refine(za HH _).mono ?_;rintro e w1 ⟨rfl,rfl⟩) | (go_at_call 232;refine(za HT _).mono ?_;rintro e w1 ⟨rfl,rfl⟩) | (go_at_call 233;refine(za HS _).mono ?_;rintro e w1 ⟨rfl,rfl⟩) | (go_at_call 234;refine(za HB).mono ?_;rintro e w1 ⟨rfl,hb1⟩;have HB1:=zb hb1;clear hb1))
 go_ret
 exact⟨rfl,((Below.refl _ w).alloc (Nat.le_refl _) _).trans ((za HB1).mono (by simp))⟩
theorem zBM(len:Nat)(x a l t:Int)(w:World)(hq:Zi len=true)(h1:zaT x=true)(h2:ztz t=true)(h3:zwr l=true)(h4:zzT len a l=true)(ha:-9223372036854775808<=a/\a<=9223372036854775807) :
  Calls Tryz.prog 189 #[.int .i64 len,.agg #[.int .i64 x,.int .i64 a,.int .i64 l,.int .i64 t]] w fun e w'=>e=.returned (zK 0)/\Below w.heap.size w w':=by
 rw [zf]
 have HL:=zb (fun W=>qn len W)
 have HH:=zb (fun W=>qS x W)
 have HT:=zb (fun W=>zfX t W)
 have HS:=zb (fun W=>zeh l W)
 have hlen:=zM.1 hq
 have HB:=zb (zez len a l (w.alloc (.cells #[.int .i64 x,.int .i64 a,.int .i64 l,.int .i64 t] 126)) (by omega) ha)
 rw [hq] at HL
 rw [h1] at HH
 rw [h2] at HT
 rw [h3] at HS
 rw [h4] at HB
 clear hq h1 h2 h3 h4 ha
 go_enter Tryz.func189,Tryz.ntmps189
 go_wp2_with (first | (go_at_call 185;refine(za HL _).mono ?_;rintro e w1 ⟨rfl,rfl⟩) | (go_at_call 231;refine(za HH _).mono ?_;rintro e w1 ⟨rfl,rfl⟩) | (go_at_call 232;refine(za HT _).mono ?_;rintro e w1 ⟨rfl,rfl⟩) | (go_at_call 233;refine(za HS _).mono ?_;rintro e w1 ⟨rfl,rfl⟩) | (go_at_call 234;refine(za HB).mono ?_;rintro e w1 ⟨rfl,hb1⟩;have HB1:=zb hb1;clear hb1))
 go_ret
 exact⟨rfl,((Below.refl _ w).alloc (Nat.le_refl _) _).trans ((za HB1).mono (by simp))⟩
theorem zdQ(L:List Int)(e:(Int×Int×Int×Int))(w:World)(hl:L.length<=140737488351232)(ha:-9223372036854775808<=e.2.1/\e.2.1<=9223372036854775807) :
  Calls Tryz.prog 189 #[.int .i64 L.length,zgF e] w fun r w'=>r=.returned (zK (Za L e))/\Below w.heap.size w w':=by
 obtain⟨x,a,l,t⟩:=e
 dsimp only at ha
 unfold zgF
 dsimp only
 by_cases h0:Za L (x,a,l,t)=0
 ·obtain⟨h1,h2,h3⟩:=qe.1 h0
  dsimp only at h2 h3
  rw [h0]
  exact zBM L.length x a l t w h1 h2 (by unfold ztz;rw [decide_eq_true h3.1,decide_eq_true h3.2.1];rfl) (by unfold zwr;rw [decide_eq_true h3.2.2.1,decide_eq_true h3.2.2.2.1];rfl) (by unfold zzT;rw [decide_eq_true h3.2.2.2.2.1,decide_eq_true (by omega)];rfl) ha
 ·have fin:∀ c,Za L (x,a,l,t)=c->(Calls Tryz.prog 189 #[.int .i64 L.length,.agg #[.int .i64 x,.int .i64 a,.int .i64 l,.int .i64 t]] w fun e w'=>e=.returned (zK c)/\Below w.heap.size w w')->Calls Tryz.prog 189 #[.int .i64 L.length,.agg #[.int .i64 x,.int .i64 a,.int .i64 l,.int .i64 t]] w fun e w'=>e=.returned (zK (Za L (x,a,l,t)))/\Below w.heap.size w w':=fun c hc h=>by
   rw [hc]
   exact h
  by_cases h1:Zi L.length=false
  ·refine fin 3 (by unfold Za;rw [if_pos h1]) (zBN L.length x a l t w hl h1)
  have h1':Zi L.length=true:=by simpa using h1
  by_cases h2:zaT x=false\/t<0\/15<t\/l<1\/1000<l
  ·refine fin 1 (by unfold Za;rw [if_neg h1,if_pos h2]) (zwb L.length x a l t w hl h1' ?_)
   cases e1:zaT x with
   | false=>exact .inl rfl
   | true =>
    cases e2:ztz t with
    | false=>exact .inr (.inl ⟨rfl,rfl⟩)
    | true =>
     refine .inr (.inr ⟨rfl,rfl,?_⟩)
     have htt:0<=t/\t<=15:=by unfold ztz at e2;simpa using e2
     have hll:¬ (1<=l/\l<=1000):=by
      rcases h2 with h2 | h2
      ·rw [e1] at h2;cases h2
      ·omega
     unfold zwr
     rw [Bool.and_eq_false_iff,decide_eq_false_iff_not,decide_eq_false_iff_not]
     omega
  have h2':zaT x=true:=by
   cases e:zaT x with
   | true=>rfl
   | false=>exact absurd (.inl e) h2
  have h3':¬ (t<0\/15<t\/l<1\/1000<l):=fun h=>h2 (.inr h)
  by_cases h4:a<288\/L.length-a<l
  ·refine fin 3 (by unfold Za;rw [if_neg h1,if_neg h2,if_pos h4]) (zwa L.length x a l t w hl h1' h2' (by unfold ztz;rw [decide_eq_true (show 0<=t by omega),decide_eq_true (show t<=15 by omega)];rfl) (by unfold zwr;rw [decide_eq_true (show 1<=l by omega),decide_eq_true (show l<=1000 by omega)];rfl) ?_ ha)
   unfold zzT
   rw [Bool.and_eq_false_iff,decide_eq_false_iff_not,decide_eq_false_iff_not]
   omega
  ·exact absurd (by unfold Za;rw [if_neg h1,if_neg h2,if_neg h4]) h0
def zwH(i:Int):Bool:=decide (0<=i) && decide (i<8)
theorem zc3(n:Int)(w:World) :
  Calls Tryz.prog 239 #[.int .i64 n] w fun e w'=>e=.returned (.bool (zwH n))/\w=w':=by
 unfold zwH
 by_cases h1:0<=n
 ·rw [decide_eq_true h1,Bool.true_and]
  go_enter Tryz.func239,Tryz.ntmps239
  go_wp2
  go_ret
  exact⟨rfl,rfl⟩
 ·rw [decide_eq_false h1,Bool.false_and]
  go_enter Tryz.func239,Tryz.ntmps239
  go_wp2
  go_ret
  exact⟨rfl,rfl⟩
def QA(l:List Int):Int:=if zj l=true then (zil (fun j=>l.getD j 0 != 0) l.length:Nat) else -1
theorem zf8{l:List Int}{k:Nat}(hk:k<l.length)(h:(l.getD k 0 != 0)=true)(hall:∀ j,j<k->(l.getD j 0 != 0)=false):QA l=k:=by
 have hr:zj l=true:=by
  unfold zj
  refine List.any_eq_true.2 ⟨l.getD k 0,?_,h⟩
  have:l.getD k 0=l[k]:=by simp [List.getD,hk]
  rw [this]
  exact List.getElem_mem hk
 unfold QA
 rw [if_pos hr,(zB _ _).unique ⟨by omega,hall,fun _=>h⟩]
theorem zf7{l:List Int}(hall:∀ j,j<l.length->(l.getD j 0 != 0)=false):QA l=-1:=by
 have hr:zj l=false:=by
  unfold zj
  rw [List.any_eq_false]
  intro x hx
  obtain⟨j,hj,rfl⟩:=List.getElem_of_mem hx
  have:=hall j hj
  rw [show l.getD j 0=l[j] by simp [List.getD,hj]] at this
  rw [this];simp
 unfold QA
 rw [if_neg (by rw [hr];simp)]
end Go.Proofs.YtchmlnmhbfaclaaGreatDoor
