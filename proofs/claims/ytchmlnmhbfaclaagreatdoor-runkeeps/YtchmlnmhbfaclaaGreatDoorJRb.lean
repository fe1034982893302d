/-
  Parts of the proofs, joined by program.
-/
import Derived.Test.YtchmlnmhbfaclaaGreatDoorJTn
import Derived.Test.YtchmlnmhbfaclaaGreatDoorJNum
import Derived.Maps.AppendAt
import Derived.Lib.AppendStr
import Derived.Lib.Builder
import Derived.Lib.FrozenHead
import Derived.Test.YtchmlnmhbfaclaaGreatDoorJRa
import Derived.Test.YtchmlnmhbfaclaaGreatDoorJIm
import Derived.Test.YtchmlnmhbfaclaaGreatDoorJWy
import Derived.BigQuiet
import Derived.Laws.ResultCell
namespace Go.Proofs.YtchmlnmhbfaclaaGreatDoor
open Go.RowKit
set_option linter.unusedVariables false
theorem zgN(s:ByteArray):Go.Lib.strCells s=(strL s).map (Value.int .u8):=by
 unfold Go.Lib.strCells strL
 rw [List.map_map]
 rfl
theorem zpZ{P:Program}{w:World}{t u ty:TypeId}{i:TypeInfo}(ht:P.underlying t=some (.slice 5))(hu:P.underlying u=some .string)(hi:P.info? 5=some i)(hz:i.zero=some (.int .u8 0))(h4:i.size=1)(h5:i.bytes=1){B:Nat}{v:Value}{n:Nat}{xs:List Value}(hown:w.ownsRow B 5 1 v n xs)(S:ByteArray)(hL:n+S.size<=140737488351232){v':Value}{w':World}(hr:(Builtin.append_ #[t,u] ty #[v,.string S]).run P w=.ok v' w') :
  v'.ownBlock=v.ownBlock\/v'.ownBlock=some w.heap.size:=by
 have hxl:xs.length=n:=by simpa using hown.1
 rcases hown.2 with ⟨rfl,rfl⟩ | ⟨g,cap,cur,rfl,hbg,hg,hnc,hcm,hcs,htake⟩
 ·by_cases hm:S.size=0
  ·have hf:=Go.Lib.run_firstCells_string (P:=P) w 1 S
   rw [hm] at hf
   simp [Builtin.append_,run_underlying ht,run_underlying hu,sizeOf,typeInfo,hi,h4,Builtin.lenOf,hm,hf] at hr
   rw [<- hr.1]
   exact .inl rfl
  ·have h:=run_append_nil_string (P:=P) w t u ty 5 i (.int .u8 0) ht hu hi hz S (by omega) (by omega) (by rw [h5];omega)
   rw [h] at hr
   injection hr with e1 e2
   rw [<- e1]
   exact .inr rfl
 ·by_cases hroom:n+S.size<=cap
  ·have hcs':cur.size=cap:=by simpa using hcs
   have h:=Go.Lib.run_append_room_string (P:=P) w t u ty 5 i ht hu hi h4 g n cap cur hg S hroom (by omega)
   rw [h] at hr
   injection hr with e1 e2
   rw [<- e1]
   exact .inl rfl
  ·have holds:∀ j u,xs[j]?=some u->w.cell? ((⟨g,0,none⟩:Addr).add j)=some u:=hown.cells (g:=g) rfl
   have h:=Go.Lib.run_append_grow_string (P:=P) w t u ty 5 i (.int .u8 0) ht hu hi hz ⟨g,0,none⟩ n cap xs (by rw [h4];simpa using hxl) holds S (by omega) (by omega) (by rw [h5];exact growslice_fits (by omega) (by omega))
   rw [h] at hr
   injection hr with e1 e2
   rw [<- e1]
   exact .inr rfl
theorem zeG{P:Program}{w:World}{ops:Array Oper}{rest:List Oper}{o:Oper}{a:Act}{Q:Exit->Act->World->Prop}(hgd:o.guard=none)(s x:Operand)(t u:TypeId)
  (ho:o.op=.call { callee:=.builtin .append,args:=#[s,x],argTypes:=#[t,u]}) (i:TypeInfo) (ht:P.underlying t=some (.slice 5)) (hu:P.underlying u=some .string) (hi:P.info? 5=some i) (hz:i.zero=some (.int .u8 0)) (h4:i.size=1) (h5:i.bytes=1)
  (B:Nat) (v:Value) (L:List Int) (hs:a.eval s=v) (hown:OwnV w B v L) (hB:B<=w.heap.size) (S:ByteArray) (hx:a.eval x=.string S) (hL:L.length+S.size<=140737488351232)
  (h:∀ v' w',OwnV w' B v' (L++strL S)->w.grownBy w' v.ownBlock->(v'.ownBlock=v.ownBlock\/v'.ownBlock=some w.heap.size)->wpList P ops Q rest (a.put o.dst v') w') :
  wpList P ops Q (o :: rest) a w:=by
 refine wpList_plain hgd fun K hK=>?_
 obtain⟨v',w',hr,h2,h3,_⟩:=Go.Lib.run_append_own_string (P:=P) w B t u o.type 5 i ht hu hi hz h4 h5 v _ _ hown S (by unfold maxLen;omega) (by omega) hB
 have hob:=zpZ ht hu hi hz h4 h5 hown S (by omega) hr
 unfold Oper.wp execOp
 simp only [ho,resolve,invoke,builtin,Sem.run_bind,Sem.run_pure,Result.andThen_ok,List.map_toArray,List.map_cons,List.map_nil,hs,hx,hr]
 refine hK _ _ (h v' w' ?_ h3 hob)
 unfold OwnV
 rw [List.length_append,List.map_append,length_strL,<- zgN]
 exact h2
structure Bu (w:World) (B b:Nat) (v:Value) (L:List Int):Prop where
 ge:B<=b
 blk:∃ p,(p=.pointer none\/p=.pointer (some ⟨b,0,none⟩))/\w.heap[b]?=some (.cells #[p,v] 45 (0,0))
 own:OwnV w B v L
 ne:v.ownBlock≠some b
def buF(b:Nat)(v:Value)(k:Nat):Prop:=k=b\/v.ownBlock=some k
section
variable {w w':World} {B b:Nat} {v:Value} {L:List Int}
theorem Bu.lt(h:Bu w B b v L):∀ k,buF b v k->k<w.heap.size:=fun k hk=>by
 rcases hk with rfl | hk
 ·obtain⟨p,_,hb⟩:=h.blk
  exact(Array.getElem?_eq_some_iff.1 hb).1
 ·rcases h.own.2 with ⟨rfl,_⟩ | ⟨g,cap,cur,rfl,hB,hg,_⟩
  ·cases hk
  ·simp [Value.ownBlock] at hk
   subst hk
   exact(Array.getElem?_eq_some_iff.1 hg).1
theorem Bu.le(h:Bu w B b v L):∀ k,buF b v k->B<=k:=fun k hk=>by
 rcases hk with rfl | hk
 ·exact h.ge
 ·exact h.own.block k hk
theorem OwnV.keptB(h:OwnV w B v L)(hs:∀ k,v.ownBlock=some k->w'.heap[k]?=w.heap[k]?):OwnV w' B v L:=by
 obtain⟨h1,h2⟩:=h
 refine⟨h1,?_⟩
 rcases h2 with h2 | ⟨g,cap,cur,rfl,hB,hg,hr⟩
 ·exact .inl h2
 ·exact .inr ⟨g,cap,cur,rfl,hB,by rw [hs g rfl];exact hg,hr⟩
theorem Bu.kept(h:Bu w B b v L)(hs:∀ k,buF b v k->w'.heap[k]?=w.heap[k]?):Bu w' B b v L:=by
 obtain⟨p,hp,hb⟩:=h.blk
 exact⟨h.ge,⟨p,hp,by rw [hs b (.inl rfl)];exact hb⟩,h.own.keptB (fun k hk=>hs k (.inr hk)),h.ne⟩
theorem Bu.below(h:Bu w B b v L)(hb:Below w.heap.size w w'):Bu w' B b v L:=h.kept (fun k hk=>hb.block k (h.lt k hk))
theorem Bu.turn{S S':Nat->Prop}(h:Bu w B b v L)(ht:Turn S S' w w')(hn:∀ k,buF b v k->¬ S k):Bu w' B b v L:=h.kept (fun k hk=>ht.block k (h.lt k hk) (hn k hk))
theorem Bu.new(w:World)(hB:B<=w.heap.size):Bu (w.alloc (.cells #[.pointer none,.slice none 0 0] 45)) B w.heap.size (.slice none 0 0) [] :=
 ⟨hB,⟨_,.inl rfl,heap_alloc_new _ _⟩,OwnV.nil _ _,fun h=>by cases h⟩
theorem znp:(Tryz.prog.info? 45).map (·.size)=some 2:=by kernel_rfl
theorem zyE:liesAt Tryz.prog Tryz.prog.depth 45 (2 / Tryz.prog.cellsOf 45) 0 45 1=true:=by kernel_rfl
set_option maxRecDepth 100000 in
theorem zbG(h:Bu w B b v L):Calls Tryz.prog 52 #[.pointer (some ⟨b,0,none⟩)] w fun e w'=>e=.returned (.tuple #[])/\w'.heap[b]?=some (.cells #[.pointer (some ⟨b,0,none⟩),v] 45 (0,0))/\OwnV w' B v L/\Turn (buF b v) (buF b v) w w':=by
 obtain⟨p,hp,hb⟩:=h.blk
 have c0:w.cell? ⟨b,0,none⟩=some p:=by rw [Go.Lib.cell_of_heap hb];rfl
 rcases hp with rfl | rfl
 ·obtain⟨j,hj,hjs⟩:=Option.map_eq_some_iff.1 znp
  have hsh:w.shape? b=some (45,2):=by simp [World.shape?,hb]
  have hfz:w.frozen? ⟨b,0,none⟩=false:=Go.Lib.frozen_of_heap hb 0
  have HE:=zb (show(w.setCell ⟨b,0,none⟩ (.pointer (some ⟨b,0,none⟩))).heap[b]?=some (.cells #[.pointer (some ⟨b,0,none⟩),v] 45 (0,0)) by simp [World.setCell,Array.getElem?_modify,hb])
  have HO:Hid (OwnV (w.setCell ⟨b,0,none⟩ (.pointer (some ⟨b,0,none⟩))) B v L):=zb (h.own.keptB (fun k hk=>by
   have hne:k≠b:=fun e=>h.ne (by rw [hk,e])
   simp [World.setCell,Array.getElem?_modify,Ne.symm hne]))
  have HT:Hid (Turn (buF b v) (buF b v) w (w.setCell ⟨b,0,none⟩ (.pointer (some ⟨b,0,none⟩)))):=zb (Turn.setCell w _ (.inl rfl))
  clear h hb
  go_enter Tryz.func52,Tryz.ntmps52
  go_wp2
  rw [Go.Lib.run_to_unsafe w ⟨b,0,none⟩ Tryz.underlying43 Tryz.underlying163 hj (by rw [hjs];decide) hsh (Nat.zero_lt_succ 1)]
  simp only [Result.andThen]
  rw [Oper.upon_value]
  go_wp2
  rw [run_callFunc_extern Tryz.func85 (by kernel_rfl) (by kernel_rfl) (by kernel_rfl) (e:=Extern.AbiNoEscape.same) (by kernel_rfl)]
  rw [Go.Lib.run_noEscape]
  simp only [Result.andThen]
  rw [Oper.upon_value]
  go_wp2
  rw [Go.Lib.run_from_unsafe w ⟨b,0,none⟩ Tryz.underlying163 Tryz.underlying43 hj hsh zyE]
  simp only [Result.andThen]
  rw [Oper.upon_value]
  go_wp2
  go_end0
  exact⟨rfl,za HE,za HO,za HT⟩
 ·have HH:=zb (And.intro hb h.own)
  obtain⟨j,hj,hjs⟩:=Option.map_eq_some_iff.1 znp
  clear h hb
  go_enter Tryz.func52,Tryz.ntmps52
  go_wp2
  rw [Go.Lib.run_neq_ptr_same w _ Tryz.underlying43 hj]
  go_wp2
  go_end0
  exact⟨rfl,(za HH).1,(za HH).2,Turn.refl _ _⟩
def BuT(w:World)(B b:Nat)(v:Value)(L:List Int)(w':World):Prop:=∃ v',Bu w' B b v' L/\Turn (buF b v) (buF b v') w w'
theorem zxd{w1 w2:World}{v':Value}{M:List Int}(hge:B<=b)(h2:w1.heap[b]?=some (.cells #[.pointer (some ⟨b,0,none⟩),v] 45 (0,0)))(ho:OwnV w2 B v' M)(hg:w1.grownBy w2 v.ownBlock)(hob:v'.ownBlock=v.ownBlock\/v'.ownBlock=some w1.heap.size)(hne:v.ownBlock≠some b)(ht:Turn (buF b v) (buF b v) w w1) :
  w2.heap[b]?=some (.cells #[.pointer (some ⟨b,0,none⟩),v] 45 (0,0))/\BuT w B b v M (w2.setCell ⟨b,1,none⟩ v'):=by
 have hlt:b<w1.heap.size:=(Array.getElem?_eq_some_iff.1 h2).1
 have hb2:w2.heap[b]?=some (.cells #[.pointer (some ⟨b,0,none⟩),v] 45 (0,0)):=by
  rw [hg.block b hlt (fun e=>hne e.symm)]
  exact h2
 have hne':v'.ownBlock≠some b:=fun e=>by
  rcases hob with h | h
  ·rw [h] at e;exact hne e
  ·rw [h] at e;simp only [Option.some.injEq] at e;omega
 refine⟨hb2,v',⟨hge,⟨_,.inr rfl,by simp [World.setCell,Array.getElem?_modify,hb2]⟩,ho.keptB (fun k hk=>?_),hne'⟩,?_⟩
 ·have:k≠b:=fun e=>hne' (by rw [hk,e])
  simp [World.setCell,Array.getElem?_modify,Ne.symm this]
 ·have t1:Turn (buF b v) (buF b v) w1 w2:=Turn.grown hg (fun k hk=>.inr hk)
  have t2:Turn (buF b v) (buF b v) w2 (w2.setCell ⟨b,1,none⟩ v'):=Turn.setCell w2 _ (.inl rfl)
  have t3:=ht.trans (t1.trans t2)
  refine⟨t3.os,t3.tape,t3.output,t3.size,t3.block,fun k hk hf=>?_⟩
  rcases hf with hf | hf
  ·exact .inl hf
  ·rcases hob with h | h
   ·exact .inr (by rw [<- h];exact hf)
   ·rw [h] at hf
    simp only [Option.some.injEq] at hf
    have:=ht.size
    omega
set_option maxRecDepth 100000 in
theorem qb(h:Bu w B b v L)(hB:B<=w.heap.size)(s:ByteArray)(hl:L.length+s.size<=140737488351232) :
  Calls Tryz.prog 15 #[.pointer (some ⟨b,0,none⟩),.string s] w fun e w'=>e=.returned (.tuple #[.int .i64 s.size,.nilIface])/\BuT w B b v (L++strL s) w':=by
 obtain⟨i0,hi0,hz0,hz1,hz2⟩:=info_parts qG
 have HC:=zb (zbG h)
 have HG:=zb (And.intro h.ge h.ne)
 clear h
 go_enter Tryz.func15,Tryz.ntmps15
 go_wp2_with fail
 refine(za HC).mono ?_
 rintro e w1 ⟨rfl,hb1,ho1,ht1⟩
 have c1:w1.cell? ⟨b,1,none⟩=some v:=by rw [Go.Lib.cell_of_heap hb1];rfl
 have hs1:=ht1.size
 have HH:=zb (And.intro hb1 (And.intro ho1 ht1))
 clear hb1 ho1 ht1 HC
 go_wp2_with (at_builtin;refine zeG rfl _ _ 29 9 rfl i0 Tryz.underlying29 Tryz.underlying9 hi0 hz0 hz1 hz2 B v L rfl (za HH).2.1 (by omega) s rfl hl ?_)
 intro v' w2 ho2 hg2 hob
 obtain⟨d2,hT⟩:=zxd (za HG).1 (za HH).1 ho2 hg2 hob (za HG).2 (za HH).2.2
 have d1:w2.cell? ⟨b,1,none⟩=some v:=by rw [Go.Lib.cell_of_heap d2];rfl
 have f1:w2.frozen? ⟨b,1,none⟩=false:=Go.Lib.frozen_of_heap d2 1
 obtain⟨a',n',c',rfl⟩:∃ a' n' c',v'=.slice a' n' c':=by
  rcases ho2.2 with ⟨e,_⟩ | ⟨g,cap,cur,e,_⟩
  ·exact⟨_,_,_,e⟩
  ·exact⟨_,_,_,e⟩
 have HT:=zb hT
 clear hT ho2 hg2 hob d2 HH
 go_wp2
 go_ret2
 exact⟨rfl,za HT⟩
set_option maxRecDepth 100000 in
theorem zbj(h:Bu w B b v L)(hB:B<=w.heap.size)(z:Int)(hl:L.length+1<=140737488351232) :
  Calls Tryz.prog 17 #[.pointer (some ⟨b,0,none⟩),.int .u8 z] w fun e w'=>e=.returned .nilIface/\BuT w B b v (L++[z]) w':=by
 obtain⟨i0,hi0,hz0,hz1,hz2⟩:=info_parts qG
 have HC:=zb (zbG h)
 have HG:=zb (And.intro h.ge h.ne)
 clear h
 go_enter Tryz.func17,Tryz.ntmps17
 go_wp2_with fail
 refine(za HC).mono ?_
 rintro e w1 ⟨rfl,hb1,ho1,ht1⟩
 have c1:w1.cell? ⟨b,1,none⟩=some v:=by rw [Go.Lib.cell_of_heap hb1];rfl
 have hs1:=ht1.size
 have hlt:b<w1.heap.size:=(Array.getElem?_eq_some_iff.1 hb1).1
 have hba:Below w1.heap.size w1 (w1.alloc (.cells #[.int .u8 z] 5)):=(Below.refl _ _).alloc (Nat.le_refl _) _
 have HH:=zb (And.intro ((hba.block b hlt).trans hb1) (And.intro (ho1.below hba) (ht1.trans (Turn.of_below (S:=buF b v) hba))))
 have hs2:B<=(w1.alloc (.cells #[.int .u8 z] 5)).heap.size:=by have:=hba.size;omega
 clear hb1 ho1 ht1 HC hba
 go_wp2_with (at_builtin;refine wpList_append_own_at _ rfl _ _ 29 rfl B 5 i0 (.int .u8 0) 1 1 Tryz.underlying29 hi0 hz0 hz1 hz2 rfl (by decide) v _ _ rfl (za HH).2.1 ⟨w1.heap.size,0,none⟩ 1 1 [.int .u8 z] rfl rfl (fun j u hj=>(match j,hj with | 0,hj=>by simp at hj;subst hj;simp [Addr.add])) (fun u hu=>by simp at hu;subst hu;rfl) (by unfold maxLen;omega) (by omega) hs2 ?_)
 intro v' w2 ho2 hg2 _ hob
 have ho3:OwnV w2 B v' (L++[z]):=by
  unfold OwnV
  rw [List.length_append,List.map_append]
  exact ho2
 obtain⟨d2,hT⟩:=zxd (za HG).1 (za HH).1 ho3 hg2 (by simpa using hob) (za HG).2 (za HH).2.2
 have d1:w2.cell? ⟨b,1,none⟩=some v:=by rw [Go.Lib.cell_of_heap d2];rfl
 have f1:w2.frozen? ⟨b,1,none⟩=false:=Go.Lib.frozen_of_heap d2 1
 obtain⟨a',n',c',rfl⟩:∃ a' n' c',v'=.slice a' n' c':=by
  rcases ho2.2 with ⟨e,_⟩ | ⟨g,cap,cur,e,_⟩
  ·exact⟨_,_,_,e⟩
  ·exact⟨_,_,_,e⟩
 have HT:=zb hT
 clear hT ho2 ho3 hg2 hob d2 HH
 go_wp2
 go_ret
 exact⟨rfl,za HT⟩
end
end Go.Proofs.YtchmlnmhbfaclaaGreatDoor
namespace Go.Proofs.YtchmlnmhbfaclaaGreatDoor
open Go.RowKit Go.Shelf
set_option linter.unusedVariables false
section
variable {w:World} {b:Addr}
def nbS(n k:Int):ByteArray:=if k=0 then itB n else tdS k
theorem za7(hw:RnW w b)(n k:Int)(h0:-9223372036854775808<=n)(h1:n<=9223372036854775807):Calls Tryz.prog 90 #[.int .i64 n,zK k] w fun e w'=>e=.returned (.string (nbS n k))/\Below w.heap.size w w':=by
 have HT:=zb (QV k b w hw.bd hw.et)
 have HI:=zb (zbB hw n h0 h1)
 clear hw
 unfold nbS
 by_cases h:k=0
 ·subst h
  rw [zf,if_pos rfl]
  generalize itB n=S at *
  go_enter Tryz.func90,Tryz.ntmps90
  go_wp2_with fail
  refine(za HI).mono ?_
  rintro e w1 ⟨rfl,hb1⟩
  have HB:=zb hb1
  clear hb1
  go_wp2
  go_ret
  exact⟨rfl,za HB⟩
 ·rw [zh k h] at HT ⊢
  rw [if_neg h]
  generalize tdS k=S at *
  clear h
  go_enter Tryz.func90,Tryz.ntmps90
  go_wp2_with fail
  refine(za HT).mono ?_
  rintro e w1 ⟨rfl,hb1⟩
  have HB:=zb hb1
  clear hb1
  go_wp2
  go_ret
  exact⟨rfl,za HB⟩
def noS(q:Bool)(k:Int):ByteArray:=if k=0 then (if q=true then ⟨#[110,101,119]⟩ else ⟨#[111,108,100]⟩) else tdS k
theorem zjM(hw:RnW w b)(q:Bool)(k:Int):Calls Tryz.prog 96 #[.bool q,zK k] w fun e w'=>e=.returned (.string (noS q k))/\Below w.heap.size w w':=by
 have HT:=zb (QV k b w hw.bd hw.et)
 clear hw
 unfold noS
 by_cases h:k=0
 ·subst h
  rw [zf,if_pos rfl]
  cases q
  ·rw [if_neg (by decide)]
   go_enter Tryz.func96,Tryz.ntmps96
   go_wp2
   go_ret
   exact⟨rfl,Below.refl _ _⟩
  ·rw [if_pos rfl]
   go_enter Tryz.func96,Tryz.ntmps96
   go_wp2
   go_ret
   exact⟨rfl,Below.refl _ _⟩
 ·rw [zh k h] at HT ⊢
  rw [if_neg h]
  generalize tdS k=S at *
  clear h
  go_enter Tryz.func96,Tryz.ntmps96
  go_wp2_with fail
  refine(za HT).mono ?_
  rintro e w1 ⟨rfl,hb1⟩
  have HB:=zb hb1
  clear hb1
  go_wp2
  go_ret
  exact⟨rfl,za HB⟩
theorem zno:Builder.Extra Tryz.prog zgs:={ sizeBuilder:=by kernel_rfl,liesBuilder:=by kernel_rfl,t5:=Tryz.underlying5,a5:=Tryz.isAgg5,z5:=Tryz.sizeOf5,v5:=Tryz.zeroValue5,infoByte:=by kernel_rfl,cellsByte:=by kernel_rfl,sizeByte:=by kernel_rfl,neB5:=by decide }
theorem zcI(l:List Int)(hl:Byt l):Go.Lib.byteCells (strOf l).data.toList=l.map (Value.int .u8):=by
 have h:=zgN (strOf l)
 rw [strL_strOf l hl] at h
 exact h
theorem zeF{B bk:Nat}{v:Value}{L:List Int}(h:Bu w B bk v L)(hL:Byt L)(hB:B<=w.heap.size):Calls Tryz.prog 18 #[.pointer (some ⟨bk,0,none⟩)] w fun e w'=>e=.returned (.string (strOf L))/\Below B w w':=by
 obtain⟨p,hp,hb⟩:=h.blk
 have hown:w.ownsRow B 5 1 v L.length (Go.Lib.byteCells (strOf L).data.toList):=by rw [zcI L hL];exact h.own
 have hlen:(Go.Lib.byteCells (strOf L).data.toList).length=L.length:=by rw [zcI L hL,List.length_map]
 have hat:Go.Lib.BuilderAtF 45 5 B bk p (Go.Lib.byteCells (strOf L).data.toList) w:=Go.Lib.BuilderAtF.of ⟨h.ge,v,hb,by rw [hlen];exact hown,h.ne⟩
 have his:Go.Lib.IsBuilderF 45 5 B bk (Go.Lib.byteCells (strOf L).data.toList) w:=by
  rcases hp with rfl | rfl
  ·exact .inl hat
  ·exact .inr hat
 refine(Any.Builder_String_any_k ztn zno B bk (strOf L).data.toList w his hB).mono ?_
 rintro e w' ⟨rfl,_,hb',_⟩
 exact⟨rfl,hb'⟩
end
end Go.Proofs.YtchmlnmhbfaclaaGreatDoor
namespace Go.Proofs.YtchmlnmhbfaclaaGreatDoor
open Go.RowKit
set_option linter.unusedVariables false
theorem zdg{α:Type}{enc:α->List Value}{k T:Nat}{P:Program}{w:World}{ops:Array Oper}{rest:List Oper}{o:Oper}{a:Act}{Q:Exit->Act->World->Prop}(hgd:o.guard=none)(s x:Operand)(t:TypeId)
  (ho:o.op=.call { callee:=.builtin .append,args:=#[s,x],argTypes:=#[t,t]}) (B:Nat) (i0:TypeInfo) (z:Value) (bytes:Nat)
  (ht:P.underlying t=some (.slice T)) (hi:P.info? T=some i0) (hz:i0.zero=some z) (hsize:i0.size=k) (hby:i0.bytes=bytes) (hzs:z.cells.size=k) (hsz:0<k) (hbb:bytes<=100)
  (v:Value) (l:List α) (hs:a.eval s=v) (hown:Lst enc k T w B v l) (g:Nat) (y:α) (hx:a.eval x=.slice (some ⟨g,0,none⟩) 1 1)
  (hy:w.heap[g]?=some (.cells (enc y).toArray T (0,0))) (hk:(enc y).length=k) (h1:∀ u∈enc y,u.oneCell'=true) (hn:l.length<=1000) (hB:B<=w.heap.size)
  (h:∀ v' w',Lst enc k T w' B v' (l++[y])->Below B w w'->(∀ j,j<w.heap.size->v.ownBlock≠some j->w'.heap[j]?=w.heap[j]?)->(v'.ownBlock=v.ownBlock\/v'.ownBlock=some w.heap.size)->wpList P ops Q rest (a.put o.dst v') w') :
  wpList P ops Q (o :: rest) a w:=by
 refine wpList_append_own_at w hgd s x t ho B T i0 z k bytes ht hi hz hsize hby hzs hsz v l.length (l.flatMap enc) hs hown ⟨g,0,none⟩ 1 1 (enc y) hx (by rw [hk,Nat.one_mul]) (fun j u hj=>?_) h1 (by unfold maxLen;omega) (Nat.le_trans (Nat.mul_le_mul (show l.length+1<=1001 by omega) hbb) (by decide)) hB ?_
 ·rw [addr_add,Nat.zero_add,cell_of_row _ _ _ _ _ _ hy]
  simpa using hj
 ·intro v' w' ho' hg' _ hob
  refine h v' w' ?_ ((Below.refl _ _).grown hg' hB (fun k hk=>hown.block k hk)) (fun j hj hne=>hg'.block j hj (fun e=>hne e.symm)) hob
  unfold Lst
  rw [List.length_append,List.flatMap_append]
  simpa using ho'
theorem Bs.keptM{w w':World}{a:Option Addr}{cap:Nat}{l:List Int}(h:Bs w a cap l)(hs:∀ x,a=some x->w'.heap[x.block]?=w.heap[x.block]?):Bs w' a cap l:=by
 obtain⟨h1,h2,h3,h4,h5⟩:=h
 refine⟨h1,h2,h3,h4,fun hne=>?_⟩
 obtain⟨b,off,rfl,hc⟩:=h5 hne
 exact⟨b,off,rfl,fun i hi=>(World.cell?_of_block (a:=⟨b,off+i,none⟩) (hs ⟨b,off,none⟩ rfl)).trans (hc i hi)⟩
theorem Lst.ownLtM{α:Type}{enc:α->List Value}{k T:Nat}{w:World}{B:Nat}{v:Value}{l:List α}(h:Lst enc k T w B v l){b:Nat}(hb:v.ownBlock=some b):b<w.heap.size:=by
 rcases h.2 with ⟨rfl,_⟩ | ⟨g1,cap1,cur1,rfl,hB1,hc1,_⟩
 ·cases hb
 ·simp [Value.ownBlock] at hb
  subst hb
  exact(Array.getElem?_eq_some_iff.1 hc1).1
structure Od where
 row:ByteArray
 nums:List Int
 name:ByteArray
 body:List Int
def tkO(k:Int)(s:ByteArray)(o:Od):Option Od :=
 if k=78 then (match rdN s with | some v=>some { o with nums:=o.nums++[v]} | none=>none)
 else if k=72 then (match rdH s with | some l=>some { o with body:=l } | none=>none)
 else some { o with name:=s }
theorem zp5(s:ByteArray)(o:Od):tkO 65 s o=some { o with name:=s }:=by unfold tkO;rw [if_neg (by decide),if_neg (by decide)]
theorem zp7{s:ByteArray}{l:List Int}(h:rdH s=some l)(o:Od):tkO 72 s o=some { o with body:=l }:=by unfold tkO;rw [if_neg (by decide),if_pos rfl,h]
theorem zp6{s:ByteArray}(h:rdH s=none)(o:Od):tkO 72 s o=none:=by unfold tkO;rw [if_neg (by decide),if_pos rfl,h]
theorem zp4{s:ByteArray}{v:Int}(h:rdN s=some v)(o:Od):tkO 78 s o=some { o with nums:=o.nums++[v]}:=by unfold tkO;rw [if_pos rfl,h]
theorem zp3{s:ByteArray}(h:rdN s=none)(o:Od):tkO 78 s o=none:=by unfold tkO;rw [if_pos rfl,h]
def OdA(w:World)(B g:Nat)(o:Od):Prop:=∃ an cn a c,w.heap[g]?=some (.cells #[.string o.row,.slice an o.nums.length cn,.string o.name,.slice a o.body.length c] 114 (0,0))/\Lst inC 1 3 w B (.slice an o.nums.length cn) o.nums/\Bs w a c o.body/\(∀ x,an=some x->x.block≠g)/\(∀ x,a=some x->x.block≠g/\(x.block<w.heap.size/\B<=x.block)/\∀ y,an=some y->y.block≠x.block)/\B<=g
theorem zrj{an:Option Addr}{n c k:Nat}(h:(Value.slice an n c).ownBlock=some k):∃ x,an=some x/\x.block=k:=by
 cases an with
 | none=>cases h
 | some x=>simp [Value.ownBlock] at h;exact⟨x,rfl,h⟩
theorem zfI{an:Option Addr}{n c k:Nat}(h:∀ x,an=some x->x.block≠k):(Value.slice an n c).ownBlock≠some k:=fun e=>by
 obtain⟨x,hx,hk⟩:=zrj e
 exact h x hx hk
section
variable {w w':World} {B g:Nat} {o:Od} {b:Addr}
theorem OdA.lt(h:OdA w B g o):g<w.heap.size:=by
 obtain⟨_,_,_,_,h1,_⟩:=h
 exact(Array.getElem?_eq_some_iff.1 h1).1
theorem OdA.below(h:OdA w B g o)(hb:Below w.heap.size w w'):OdA w' B g o:=by
 have hlt:=h.lt
 obtain⟨an,cn,a,c,h1,h2,h3,h4,h5,h6⟩:=h
 exact⟨an,cn,a,c,by rw [hb.block g hlt];exact h1,h2.below hb,h3.below hb,h4,fun x hx=>⟨(h5 x hx).1,⟨Nat.lt_of_lt_of_le (h5 x hx).2.1.1 hb.size,(h5 x hx).2.1.2⟩,(h5 x hx).2.2⟩,h6⟩
theorem heap_set{w:World}{g i:Nat}{cs:Array Value}{T:TypeId}(h:w.heap[g]?=some (.cells cs T (0,0)))(v:Value):(w.setCell ⟨g,i,none⟩ v).heap[g]?=some (.cells (cs.setIfInBounds i v) T (0,0)):=by
 simp [World.setCell,Array.getElem?_modify,h]
theorem Qn{w:World}{g i k:Nat}(hk:k≠g)(v:Value):(w.setCell ⟨g,i,none⟩ v).heap[k]?=w.heap[k]?:=by
 simp [World.setCell,Array.getElem?_modify,Ne.symm hk]
theorem Lst.keptO{α:Type}{enc:α->List Value}{k T:Nat}{v:Value}{l:List α}(h:Lst enc k T w B v l)(hs:∀ j,v.ownBlock=some j->w'.heap[j]?=w.heap[j]?):Lst enc k T w' B v l:=by
 obtain⟨h1,h2⟩:=h
 refine⟨h1,?_⟩
 rcases h2 with h2 | ⟨g1,cap,cur,rfl,hB,hg,hr⟩
 ·exact .inl h2
 ·exact .inr ⟨g1,cap,cur,rfl,hB,by rw [hs g1 rfl];exact hg,hr⟩
theorem OdA.setName(h:OdA w B g o)(s:ByteArray):OdA (w.setCell ⟨g,2,none⟩ (.string s)) B g { o with name:=s }:=by
 obtain⟨an,cn,a,c,h1,h2,h3,h4,h5,h6⟩:=h
 refine⟨an,cn,a,c,heap_set h1 _,h2.keptO (fun j hj=>Qn (fun e=>zfI h4 (by rw [hj,e])) _),h3.keptM (fun x hx=>Qn (h5 x hx).1 _),h4,fun x hx=>⟨(h5 x hx).1,⟨by have:=(h5 x hx).2.1.1;simpa using this,(h5 x hx).2.1.2⟩,(h5 x hx).2.2⟩,h6⟩
theorem OdA.setBody{l:List Int}{gl:Nat}(h:OdA w B g o)(hl:Bs w (some ⟨gl,0,none⟩) l.length l)(hlt:gl<w.heap.size)(hBl:B<=gl)(hg:gl≠g)(hn:∀ an cn,w.cell? ⟨g,1,none⟩=some (.slice an o.nums.length cn)->∀ y,an=some y->y.block≠gl):OdA (w.setCell ⟨g,3,none⟩ (.slice (some ⟨gl,0,none⟩) l.length l.length)) B g { o with body:=l }:=by
 obtain⟨an,cn,a,c,h1,h2,h3,h4,h5,h6⟩:=h
 refine⟨an,cn,_,_,heap_set h1 _,h2.keptO (fun j hj=>Qn (fun e=>zfI h4 (by rw [hj,e])) _),hl.keptM (fun x hx=>?_),h4,fun x hx=>?_,h6⟩
 ·simp only [Option.some.injEq] at hx
  subst hx
  exact Qn hg _
 ·simp only [Option.some.injEq] at hx
  subst hx
  exact⟨hg,⟨by simpa using hlt,hBl⟩,fun y hy=>hn an cn (by rw [Go.Lib.cell_of_heap h1];rfl) y hy⟩
def TkP(w:World)(B g:Nat)(b:Addr)(x:Option Od)(e:Ending)(w':World):Prop:=Below B w w'/\(match x with | some o=>e=.returned .nilIface/\OdA w' B g o | none=>e=.returned (bdV b))
set_option maxRecDepth 100000 in
set_option maxHeartbeats 1000000 in
theorem zqc(s:ByteArray)(h:OdA w B g o):Calls Tryz.prog 88 #[.pointer (some ⟨g,0,none⟩),.int .u8 65,.string s] w (TkP w B g b (tkO 65 s o)):=by
 have HN:=zb (h.setName s)
 have hge:B<=g:=by obtain⟨_,_,_,_,_,_,_,_,_,h6⟩:=h;exact h6
 have HB:=zb ((Below.refl B w).setCell (p:=⟨g,2,none⟩) hge (.string s))
 obtain⟨an,cn,a,c,h1,_⟩:=h
 have c2:w.cell? ⟨g,2,none⟩=some (.string o.name):=by rw [Go.Lib.cell_of_heap h1];rfl
 have f2:w.frozen? ⟨g,2,none⟩=false:=Go.Lib.frozen_of_heap h1 2
 clear h1
 rw [zp5]
 go_enter Tryz.func88,Tryz.ntmps88
 go_wp2
 go_ret
 exact⟨za HB,rfl,za HN⟩
set_option maxRecDepth 100000 in
set_option maxHeartbeats 1000000 in
theorem ztV(hw:RnW w b)(s:ByteArray)(hs:s.size<=3000)(h:OdA w B g o)(hB:B<=w.heap.size):Calls Tryz.prog 88 #[.pointer (some ⟨g,0,none⟩),.int .u8 72,.string s] w (TkP w B g b (tkO 72 s o)):=by
 have HX:=zb (zlo s b w hw hs)
 have HO:=zb (fun(W:World) (hW:Below w.heap.size w W)=>h.below hW)
 have hge:B<=g:=by obtain⟨_,_,_,_,_,_,_,_,_,h6⟩:=h;exact h6
 have hlt:=h.lt
 obtain⟨an0,cn0,a0,c0,k1,k2,_⟩:=h
 have k3:w.cell? ⟨g,1,none⟩=some (.slice an0 o.nums.length cn0):=by rw [Go.Lib.cell_of_heap k1];rfl
 have HNL0:=zb (fun(y:Addr) (hy:an0=some y)=>k2.ownLtM (b:=y.block) (by rw [hy];rfl))
 have HK3:=zb k3
 clear hw k1 k2 k3
 go_enter Tryz.func88,Tryz.ntmps88
 go_wp2_with fail
 refine(za HX).mono ?_
 rintro e w1 ⟨hb1,hx⟩
 have ho1:=za HO w1 hb1
 have HO1:=zb ho1
 obtain⟨an,cn,a,c,h1,h2,h3,h4,h5,h6⟩:=ho1
 have c3:w1.cell? ⟨g,3,none⟩=some (.slice a o.body.length c):=by rw [Go.Lib.cell_of_heap h1];rfl
 have f3:w1.frozen? ⟨g,3,none⟩=false:=Go.Lib.frozen_of_heap h1 3
 have c1:w1.cell? ⟨g,1,none⟩=some (.slice an o.nums.length cn):=by rw [Go.Lib.cell_of_heap h1];rfl
 have HNL:Hid (∀ y,an=some y->y.block<w.heap.size):=zb (fun y hy=>by
  have e:=(hb1.cell (p:=⟨g,1,none⟩) hlt).trans (za HK3)
  rw [c1] at e
  simp only [Option.some.injEq,Value.slice.injEq,true_and] at e
  exact za HNL0 y (by rw [<- e.1];exact hy))
 have hlen:o.body.length<=o.body.length:=Nat.le_refl _
 clear hlen h2 h3
 rcases hx with ⟨l,gl,hr,rfl,hbl,hgl⟩ | ⟨hr,rfl⟩
 ·have hby:Bs w1 (some ⟨gl,0,none⟩) l.length l:=by
   have e:l=hxS s s.size:=by
    unfold rdH at hr
    split at hr
    ·injection hr with hr
     exact hr.symm
    ·cases hr
   have hgd:∀ j,j<s.size->0<=hxD (hxC s j):=by
    unfold rdH at hr
    split at hr
    ·rename_i h;exact h.2
    ·cases hr
   refine hbl.bs ?_ ?_
   ·rw [e];exact zsi s s.size hgd
   ·rw [e,zc4];omega
  have hset:=(za HO1).setBody hby hbl.lt (by omega) (by omega) (fun an' cn' hc' y hy e=>by
   rw [c1] at hc'
   simp only [Option.some.injEq,Value.slice.injEq,true_and] at hc'
   obtain⟨rfl,rfl⟩:=hc'
   have:=za HNL y hy
   omega)
  have hbb:=((hb1.mono hB).setCell (p:=⟨g,3,none⟩) hge (.slice (some ⟨gl,0,none⟩) l.length l.length))
  have HS:=zb hset
  have HB:=zb hbb
  have HR:=zb hr
  clear hset hbb hr hby hbl h1 h4 h5 hb1 HX
  go_wp2
  go_ret
  rw [zp7 (za HR)]
  exact⟨za HB,rfl,za HS⟩
 ·have hbb:=((hb1.mono hB).setCell (p:=⟨g,3,none⟩) hge (.slice none 0 0))
  have HB:=zb hbb
  have HR:=zb hr
  clear hbb hr h1 h4 h5 hb1 HX
  unfold bdV
  go_wp2
  go_ret
  rw [zp6 (za HR)]
  exact⟨za HB,rfl⟩
set_option maxRecDepth 100000 in
set_option maxHeartbeats 1000000 in
theorem ztU(hw:RnW w b)(s:ByteArray)(hs:s.size<=3000)(h:OdA w B g o)(hB:B<=w.heap.size)(hn:o.nums.length<=100):Calls Tryz.prog 88 #[.pointer (some ⟨g,0,none⟩),.int .u8 78,.string s] w (TkP w B g b (tkO 78 s o)):=by
 obtain⟨i0,hi0,hz0,hz1,hz2⟩:=info_parts zaG
 have HX:=zb (zgD hw s hs)
 have HO:=zb (fun(W:World) (hW:Below w.heap.size w W)=>h.below hW)
 have hge:B<=g:=by obtain⟨_,_,_,_,_,_,_,_,_,h6⟩:=h;exact h6
 clear hw h
 obtain⟨v,x,hv,hvx⟩:∃ v x,zuv s b=.tuple #[.int .i64 v,x]/\((rdN s=some v/\x=.nilIface)\/(rdN s=none/\x=bdV b)):=by
  unfold zuv
  cases hq:rdN s with
  | some v=>exact⟨v,_,rfl,.inl ⟨rfl,rfl⟩⟩
  | none=>exact⟨0,_,rfl,.inr ⟨rfl,rfl⟩⟩
 rw [hv] at HX
 clear hv
 go_enter Tryz.func88,Tryz.ntmps88
 go_wp2_with fail
 refine(za HX).mono ?_
 rintro e w1 ⟨rfl,hb1⟩
 obtain⟨an,cn,a,c,h1,h2,h3,h4,h5,h6⟩:=za HO w1 hb1
 have c1:w1.cell? ⟨g,1,none⟩=some (.slice an o.nums.length cn):=by rw [Go.Lib.cell_of_heap h1];rfl
 have hlt:g<w1.heap.size:=(Array.getElem?_eq_some_iff.1 h1).1
 have hba:Below w1.heap.size w1 (w1.alloc (.cells #[.int .i64 v] 3)):=(Below.refl _ _).alloc (Nat.le_refl _) _
 have HG:Hid ((w1.alloc (.cells #[.int .i64 v] 3)).heap[g]?=some (.cells #[.string o.row,.slice an o.nums.length cn,.string o.name,.slice a o.body.length c] 114 (0,0))):=zb (by rw [hba.block g hlt];exact h1)
 have HL:=zb (h2.below hba)
 have HBd:=zb (h3.below hba)
 have H45:=zb (And.intro h4 h5)
 have HGN:Hid ((w1.alloc (.cells #[.int .i64 v] 3)).heap[w1.heap.size]?=some (.cells (inC v).toArray 3 (0,0))):=zb (heap_alloc_new _ _)
 have hbw:Below B w (w1.alloc (.cells #[.int .i64 v] 3)):=(hb1.mono hB).trans (hba.mono (by have:=hb1.size;omega))
 have HBW:=zb hbw
 have hsz:B<=(w1.alloc (.cells #[.int .i64 v] 3)).heap.size:=by have:=hb1.size;have:=hba.size;omega
 clear HX HO h1 h2 h3 h4 h5 hba hb1 hbw
 go_wp2_with (at_builtin;refine zdg rfl _ _ 90 rfl B i0 (.int .i64 0) 8 Tryz.underlying90 hi0 hz0 hz1 hz2 rfl (by decide) (by decide) _ _ rfl (za HL) w1.heap.size v rfl (za HGN) rfl (zeg _) (by omega) hsz ?_)
 intro v9 w9 hl9 hb9 hkp9 hob9
 have hg9:w9.heap[g]?=some (.cells #[.string o.row,.slice an o.nums.length cn,.string o.name,.slice a o.body.length c] 114 (0,0)):=by
  rw [hkp9 g (by first | omega | (simp;omega)) (zfI (za H45).1)]
  exact za HG
 have d1:w9.cell? ⟨g,1,none⟩=some (.slice an o.nums.length cn):=by rw [Go.Lib.cell_of_heap hg9];rfl
 have f1:w9.frozen? ⟨g,1,none⟩=false:=Go.Lib.frozen_of_heap hg9 1
 obtain⟨a9,c9,rfl,_⟩:=hl9.sls zaN (by simp;omega)
 have hne9:∀ y,a9=some y->y.block≠g:=fun y hy e=>by
  subst hy
  rcases hob9 with h | h
  ·obtain⟨z,hz,hzk⟩:=zrj h.symm
   exact(za H45).1 z hz (by rw [hzk];exact e)
  ·simp [Value.ownBlock] at h
   omega
 have hlow:∀ x,a=some x->∀ y,a9=some y->y.block≠x.block:=fun x hx y hy e=>by
  subst hy
  have h5:=(za H45).2 x hx
  rcases hob9 with h | h
  ·obtain⟨z,hz,hzk⟩:=zrj h.symm
   exact h5.2.2 z hz (by rw [hzk];exact e)
  ·simp [Value.ownBlock] at h
   have:=h5.2.1.1
   omega
 have hod:OdA (w9.setCell ⟨g,1,none⟩ (.slice a9 (o.nums++[v]).length c9)) B g { o with nums:=o.nums++[v]}:=by
  refine⟨a9,c9,a,c,heap_set hg9 _,hl9.keptO (fun j hj=>Qn (fun e=>zfI hne9 (by rw [hj,e])) _),?_,hne9,fun x hx=>⟨((za H45).2 x hx).1,⟨?_,((za H45).2 x hx).2.1.2⟩,hlow x hx⟩,hge⟩
  ·refine(za HBd).keptM (fun x hx=>?_)
   have h5:=(za H45).2 x hx
   rw [Qn h5.1,hkp9 x.block (by have:=h5.2.1.1;first | omega | (simp;omega)) (zfI (fun y hy=>h5.2.2 y hy))]
  ·have h5:=((za H45).2 x hx).2.1.1
   have:=hb9.size
   simp at this ⊢
   have h9:=hl9
   omega
 have HOD:=zb hod
 have HBE:=zb (((za HBW).trans hb9).setCell (p:=⟨g,1,none⟩) hge (.slice a9 (o.nums++[v]).length c9))
 have hln:(o.nums++[v]).length=o.nums.length+1:=by simp
 rw [hln] at HBE HOD
 clear hod hln hl9 hb9 hkp9 hob9 hg9 hne9 hlow HG HL HBd H45 HGN HBW
 rcases hvx with ⟨hr,rfl⟩ | ⟨hr,rfl⟩
 ·have HR:=zb hr
  clear hr
  go_wp2
  go_ret
  rw [zp4 (za HR)]
  exact⟨za HBE,rfl,za HOD⟩
 ·have HR:=zb hr
  clear hr
  unfold bdV
  go_wp2
  go_ret
  rw [zp3 (za HR)]
  exact⟨za HBE,rfl⟩
end
theorem zfr(sep:ByteArray):∀ (k:Nat) (s x:ByteArray),x∈Go.Lib.splitB sep 0 k s->x.size<=s.size
 | 0,s,x,h=>by
  rw [Go.Lib.splitB_zero] at h
  rw [List.mem_singleton.1 h]
  exact Nat.le_refl _
 | k+1,s,x,h=>by
  unfold Go.Lib.splitB at h
  split at h
  ·rw [List.mem_singleton.1 h]
   exact Nat.le_refl _
  ·rcases List.mem_cons.1 h with rfl | h
   ·rw [ByteArray.size_extract];omega
   ·have:=zfr sep k _ x h
    rw [ByteArray.size_extract] at this
    omega
theorem zmu(s:ByteArray):∀ x∈wdS s,x.size<=s.size:=fun x hx=>zfr _ _ s x hx
theorem zxq(s:ByteArray):(wdS s).length<=s.size+1:=by
 have:=Go.Lib.countB_le ⟨#[32]⟩ (by decide) s.size s (Nat.le_refl _)
 rw [zkO]
 omega
def rdK(r f:ByteArray)(ws:List ByteArray):Nat->Option Od
 | 0=>some ⟨r,[],⟨#[]⟩,[]⟩
 | i+1=>match rdK r f ws i with | some o=>tkO ((f.data.toList.getD i 0).toNat) (ws.getD i ⟨#[]⟩) o | none=>none
theorem zuw{r f:ByteArray}{ws:List ByteArray}{i:Nat}(h:rdK r f ws i=none):∀ {k:Nat},i<=k->rdK r f ws k=none:=by
 intro k
 induction k with
 | zero =>
  intro hk
  have e:i=0:=Nat.le_zero.1 hk
  rw [<- e];exact h
 | succ k ih =>
  intro hk
  by_cases e:i=k+1
  ·rw [<- e];exact h
  ·show(match rdK r f ws k with | some o=>_ | none=>none)=none
   rw [ih (by omega)]
def rdO(s:ByteArray):Option Od:=match fmO ((wdS s).getD 0 ⟨#[]⟩) with | some f=>if (wdS s).length=f.size+1 then rdK ((wdS s).getD 0 ⟨#[]⟩) f ((wdS s).drop 1) f.size else none | none=>none
theorem zsB{s f:ByteArray}(h:fmO s=some f):f.size<=3/\∀ i (hi:i<f.size),f[i].toNat=78\/f[i].toNat=72\/f[i].toNat=65:=by
 unfold fmO at h
 by_cases h0:s=zeN
 ·rw [if_pos h0] at h
  injection h with h
  subst h
  exact⟨by decide,by decide⟩
 rw [if_neg h0] at h
 by_cases h1:s=zbV
 ·rw [if_pos h1] at h
  injection h with h
  subst h
  exact⟨by decide,by decide⟩
 rw [if_neg h1] at h
 by_cases h2:s=zgA
 ·rw [if_pos h2] at h
  injection h with h
  subst h
  exact⟨by decide,by decide⟩
 rw [if_neg h2] at h
 by_cases h3:s=Qa
 ·rw [if_pos h3] at h
  injection h with h
  subst h
  exact⟨by decide,by decide⟩
 rw [if_neg h3] at h
 by_cases h4:s=ZK
 ·rw [if_pos h4] at h
  injection h with h
  subst h
  exact⟨by decide,by decide⟩
 rw [if_neg h4] at h
 by_cases h5:s=ziQ
 ·rw [if_pos h5] at h
  injection h with h
  subst h
  exact⟨by decide,by decide⟩
 rw [if_neg h5] at h
 by_cases h6:s=Zz
 ·rw [if_pos h6] at h
  injection h with h
  subst h
  exact⟨by decide,by decide⟩
 rw [if_neg h6] at h
 by_cases h7:s=ziR
 ·rw [if_pos h7] at h
  injection h with h
  subst h
  exact⟨by decide,by decide⟩
 rw [if_neg h7] at h
 by_cases h8:s=Qe
 ·rw [if_pos h8] at h
  injection h with h
  subst h
  exact⟨by decide,by decide⟩
 rw [if_neg h8] at h
 by_cases h9:s=ZC
 ·rw [if_pos h9] at h
  injection h with h
  subst h
  exact⟨by decide,by decide⟩
 rw [if_neg h9] at h
 by_cases h10:s=ZB
 ·rw [if_pos h10] at h
  injection h with h
  subst h
  exact⟨by decide,by decide⟩
 rw [if_neg h10] at h
 by_cases h11:s=Zl
 ·rw [if_pos h11] at h
  injection h with h
  subst h
  exact⟨by decide,by decide⟩
 rw [if_neg h11] at h
 by_cases h12:s=zbU
 ·rw [if_pos h12] at h
  injection h with h
  subst h
  exact⟨by decide,by decide⟩
 rw [if_neg h12] at h
 by_cases h13:s=ZA
 ·rw [if_pos h13] at h
  injection h with h
  subst h
  exact⟨by decide,by decide⟩
 rw [if_neg h13] at h
 by_cases h14:s=zbT
 ·rw [if_pos h14] at h
  injection h with h
  subst h
  exact⟨by decide,by decide⟩
 rw [if_neg h14] at h
 cases h
theorem ztW{w:World}{B g:Nat}{o:Od}{b:Addr}(hw:RnW w b)(k:Int)(hk:k=78\/k=72\/k=65)(s:ByteArray)(hs:s.size<=3000)(h:OdA w B g o)(hB:B<=w.heap.size)(hn:o.nums.length<=100):Calls Tryz.prog 88 #[.pointer (some ⟨g,0,none⟩),.int .u8 k,.string s] w (TkP w B g b (tkO k s o)):=by
 rcases hk with rfl | rfl | rfl
 ·exact ztU hw s hs h hB hn
 ·exact ztV hw s hs h hB
 ·exact zqc s h
theorem zxx{k:Int}{s:ByteArray}{o o':Od}(h:tkO k s o=some o'):o'.nums.length<=o.nums.length+1:=by
 unfold tkO at h
 by_cases h1:k=78
 ·rw [if_pos h1] at h
  cases hq:rdN s with
  | none=>rw [hq] at h;cases h
  | some v =>
   rw [hq] at h
   injection h with h
   subst h
   simp
 rw [if_neg h1] at h
 by_cases h2:k=72
 ·rw [if_pos h2] at h
  cases hq:rdH s with
  | none=>rw [hq] at h;cases h
  | some v =>
   rw [hq] at h
   injection h with h
   subst h
   simp
 rw [if_neg h2] at h
 injection h with h
 subst h
 simp
theorem zjg:(Tryz.prog.info? 9).map (·.size)=some 1:=by kernel_rfl
theorem zxJ(g n:Nat)(hn:1<=n)(w:World):(Instr.slice 64 (.slice (some ⟨g,0,none⟩) n n) (some (.int .i64 1)) none none).run Tryz.prog w=.ok (.slice (some (if n=1 then ⟨g,0,none⟩ else ⟨g,1,none⟩)) (n-1) (n-1)) w:=by
 have hsz:(sizeOf 9).run Tryz.prog w=.ok 1 w:=by
  have hsz:=zjg
  cases hq:Tryz.prog.info? 9 with
  | none=>simp [hq] at hsz
  | some i =>
   have:i.size=1:=by simpa [hq] using hsz
   simp [sizeOf,typeInfo,hq,this]
 have he:Tryz.prog.elem 64=9:=by simp [Program.elem,Tryz.underlying64]
 have h:=run_slice_l (P:=Tryz.prog) (w:=w) 64 (some ⟨g,0,none⟩) n n (by rw [he];exact Tryz.underlying64) .i64 (1:Nat) (by omega) (by omega)
 rw [he,hsz] at h
 refine Eq.trans h ?_
 simp [Result.andThen,sliced,Addr.add]
 by_cases h1:n=1
 ·simp [h1]
 ·simp [h1]
def OdB(w:World)(g:Nat)(x1 x2 x3 x4:Value):Prop:=w.heap[g]?=some (.cells #[x1,x2,x3,x4] 114 (0,0))
theorem OdB.setAll{w:World}{g:Nat}{x1 x2 x3 x4:Value}(h:OdB w g x1 x2 x3 x4)(y1 y2 y3 y4:Value):OdB ((((w.setCell ⟨g,0,none⟩ y1).setCell ⟨g,1,none⟩ y2).setCell ⟨g,2,none⟩ y3).setCell ⟨g,3,none⟩ y4) g y1 y2 y3 y4:=by
 have h1:=heap_setCell_same w g 0 _ _ y1 h
 have h2:=heap_setCell_same _ g 1 _ _ y2 h1
 have h3:=heap_setCell_same _ g 2 _ _ y3 h2
 exact heap_setCell_same _ g 3 _ _ y4 h3
theorem zxK:(Tryz.prog.info? 114).map (·.size)=some 4:=by kernel_rfl
theorem zcu{fn:Func}{p q:Tmp}(h:fn.results=#[.cell p 114,.tmp q])(tmps:Array Value)(w:World)(g:Nat)(x1 x2 x3 x4:Value)
  (hp:tmps.getD p undef=.pointer (some ⟨g,0,none⟩)) (hg:OdB w g x1 x2 x3 x4) :
  (results fn tmps).run Tryz.prog w=.ok (.tuple #[.agg #[x1,x2,x3,x4],tmps.getD q undef]) w:=by
 rw [results_cell_tmp h,hp]
 have:=run_loadVar_row (P:=Tryz.prog) w g 114 114 _ (0,0) _ hg Tryz.underlying114 rfl (by rw [zxK];rfl)
 simp [asAddr,this,Result.andThen]
theorem QR{w w':World}{B g:Nat}(hb:Below B w w')(hg:B<=g)(y1 y2 y3 y4:Value):Below B w ((((w'.setCell ⟨g,0,none⟩ y1).setCell ⟨g,1,none⟩ y2).setCell ⟨g,2,none⟩ y3).setCell ⟨g,3,none⟩ y4):=(((hb.setCell (p:=⟨g,0,none⟩) hg _).setCell (p:=⟨g,1,none⟩) hg _).setCell (p:=⟨g,2,none⟩) hg _).setCell (p:=⟨g,3,none⟩) hg _
def odV(o:Od)(an:Option Addr)(cn:Nat)(a:Option Addr)(c:Nat):Value:=.agg #[.string o.row,.slice an o.nums.length cn,.string o.name,.slice a o.body.length c]
def RdP(w:World)(b:Addr)(x:Option Od)(e:Ending)(w':World):Prop:=Below w.heap.size w w'/\((∃ o an cn a c,x=some o/\e=.returned (.tuple #[odV o an cn a c,.nilIface])/\Sls inC 1 w' an cn o.nums/\Bs w' a c o.body)\/(x=none/\e=.returned (.tuple #[.agg #[.string ⟨#[]⟩,.slice none 0 0,.string ⟨#[]⟩,.slice none 0 0],bdV b])))
set_option maxRecDepth 100000 in
set_option maxHeartbeats 2000000 in
theorem zuu{w:World}{b:Addr}(hw:RnW w b)(s:ByteArray)(hs:s.size<=3000):Calls Tryz.prog 53 #[.string s] w (RdP w b (rdO s)):=by
 have hb0:Below w.heap.size w (w.alloc (.cells #[.string ⟨#[]⟩,.slice none 0 0,.string ⟨#[]⟩,.slice none 0 0] 114)):=(Below.refl _ _).alloc (Nat.le_refl _) _
 obtain⟨w0,hw0⟩:∃ x,w.alloc (.cells #[.string ⟨#[]⟩,.slice none 0 0,.string ⟨#[]⟩,.slice none 0 0] 114)=x:=⟨_,rfl⟩
 have HSP:=zb (zqp (hw.below hb0) s hs)
 have hf0:w0.frozen? ⟨w.heap.size,0,none⟩=false/\w0.heap[w.heap.size]?=some (.cells #[.string ⟨#[]⟩,.slice none 0 0,.string ⟨#[]⟩,.slice none 0 0] 114 (0,0)):=by
  rw [<- hw0]
  exact⟨by simp,heap_alloc_new _ _⟩
 rw [hw0] at HSP hb0
 have hbs:Below w0.heap.size w0 (w0.alloc (.cells ((wdS s).map Value.string).toArray 9)):=(Below.refl _ _).alloc (Nat.le_refl _) _
 have hw1:(w0.alloc (.cells ((wdS s).map Value.string).toArray 9)).heap[w0.heap.size]?=some (.cells ((wdS s).map Value.string).toArray 9 (0,0)):=heap_alloc_new _ _
 obtain⟨w1,e1⟩:∃ x,w0.alloc (.cells ((wdS s).map Value.string).toArray 9)=x:=⟨_,rfl⟩
 rw [e1] at HSP hbs hw1
 have hB1:=hb0.trans (hbs.mono hb0.size)
 have HCL:=zb (fun(W:World) (hW:Below w1.heap.size w1 W) (j:Nat) (x:ByteArray) (hx:(wdS s)[j]?=some x)=>(show W.cell? ⟨w0.heap.size,j,none⟩=some (.string x) from cell_below (by rw [Go.Lib.cell_of_heap hw1];simp [hx]) hW))
 have hlen:=zkO s
 have hl0:0<(wdS s).length:=by omega
 have HR:Hid ((wdS s)[0]?=some ((wdS s).getD 0 ⟨#[]⟩)):=zb (by rw [List.getD_eq_getElem?_getD,List.getElem?_eq_getElem hl0];rfl)
 have hsz:∀ x∈wdS s,x.size<=3000:=fun x hx=>Nat.le_trans (zmu s x hx) hs
 obtain⟨r,hr⟩:∃ x,(wdS s).getD 0 ⟨#[]⟩=x:=⟨_,rfl⟩
 rw [hr] at HR
 have c0:=za HCL w1 (Below.refl _ _) 0 r (za HR)
 have HF:=zb (zpf r b w1 ((hw.below hB1).bd))
 have hro:rdO s=match fmO r with | some f=>if (wdS s).length=f.size+1 then rdK r f ((wdS s).drop 1) f.size else none | none=>none:=by unfold rdO;rw [hr]
 have HRO:=zb hro
 have HB1:=zb hB1
 have HW:=zb hw
 have HF0:=zb hf0
 have hs01:=hbs.size
 have hs00:w.heap.size<w0.heap.size:=(Array.getElem?_eq_some_iff.1 hf0.2).1
 have HW0:=zb hw0
 have HOB:=zb (fun(W:World) (hW:Below w1.heap.size w1 W)=>(show W.heap[w.heap.size]?=some (.cells #[.string ⟨#[]⟩,.slice none 0 0,.string ⟨#[]⟩,.slice none 0 0] 114 (0,0)) from by
  have h0:w.heap.size<w0.heap.size:=(Array.getElem?_eq_some_iff.1 hf0.2).1
  rw [hW.block _ (by omega),hbs.block _ h0]
  exact hf0.2))
 clear hw0 hw1 hb0 hbs hB1 hw hf0 hr hro e1
 have hln:(wdS s).length<=3001:=by have:=zxq s;omega
 generalize hWS:wdS s=WS at *
 have HSZ:=zb hsz
 clear hsz hWS hlen
 go_enter Tryz.func53,Tryz.ntmps53
 go_wp2_with fail
 rw [za HW0]
 refine(za HSP).mono ?_
 rintro e w' ⟨rfl,rfl⟩
 clear HSP HW0
 go_wp2_with fail
 refine(za HF).mono ?_
 rintro e w2 ⟨rfl,hb2⟩
 have hB2:=(za HB1).trans (hb2.mono (za HB1).size)
 have hob:=za HOB w2 hb2
 clear HF
 cases hf:fmO r with
 | none =>
  have ev:fmV r b=.tuple #[.string ⟨#[]⟩,bdV b]:=by unfold fmV;rw [hf]
  rw [ev]
  unfold bdV
  have ho:rdO s=none:=by rw [za HRO,hf]
  have z0:w2.cell? ⟨w.heap.size,0,none⟩=some (.string ⟨#[]⟩):=by rw [Go.Lib.cell_of_heap hob];rfl
  have z1:w2.cell? ⟨w.heap.size,1,none⟩=some (.slice none 0 0):=by rw [Go.Lib.cell_of_heap hob];rfl
  have z2:w2.cell? ⟨w.heap.size,2,none⟩=some (.string ⟨#[]⟩):=by rw [Go.Lib.cell_of_heap hob];rfl
  have z3:w2.cell? ⟨w.heap.size,3,none⟩=some (.slice none 0 0):=by rw [Go.Lib.cell_of_heap hob];rfl
  have y0:=Go.Lib.frozen_of_heap hob 0
  have y1:=Go.Lib.frozen_of_heap hob 1
  have y2:=Go.Lib.frozen_of_heap hob 2
  have y3:=Go.Lib.frozen_of_heap hob 3
  have HB2:=zb hB2
  have HO:=zb ho
  have HOB2:Hid (OdB w2 w.heap.size _ _ _ _):=zb hob
  clear hf ev ho hob hb2 hB2 HRO
  go_wp2
  refine bodyPost_ret (zcu Tryz.results53 _ _ w.heap.size _ _ _ _ rfl ((za HOB2).setAll _ _ _ _)) rfl ?_
  exact⟨QR (za HB2) (Nat.le_refl _) _ _ _ _,.inr ⟨za HO,rfl⟩⟩
 | some f =>
  have ev:fmV r b=.tuple #[.string f,.nilIface]:=by unfold fmV;rw [hf]
  rw [ev]
  have ho:rdO s=if WS.length=f.size+1 then rdK r f (WS.drop 1) f.size else none:=by rw [za HRO,hf]
  obtain⟨hf3,hfk⟩:=zsB hf
  obtain⟨ad,hsl,had⟩:∃ ad:Addr,(∀ W:World,(Instr.slice 64 (.slice (some ⟨w0.heap.size,0,none⟩) WS.length WS.length) (some (.int .i64 1)) none none).run Tryz.prog W=.ok (.slice (some ad) (WS.length-1) (WS.length-1)) W)/\(1<WS.length->ad=⟨w0.heap.size,1,none⟩):=⟨_,fun W=>zxJ w0.heap.size WS.length hl0 W,fun h=>if_neg (by omega)⟩
  have HAD:=zb had
  clear had
  have hbo:Below w2.heap.size w2 (w2.alloc (.cells #[.string r,.slice none 0 0,.string ⟨#[]⟩,.slice none 0 0] 114)):=(Below.refl _ _).alloc (Nat.le_refl _) _
  have hod:OdA (w2.alloc (.cells #[.string r,.slice none 0 0,.string ⟨#[]⟩,.slice none 0 0] 114)) w2.heap.size w2.heap.size ⟨r,[],⟨#[]⟩,[]⟩:=⟨none,0,none,0,heap_alloc_new _ _,Lst.nil _ _,zbe _,(fun x hx=>by cases hx),(fun x hx=>by cases hx),Nat.le_refl _⟩
  have hB3:=hB2.trans (hbo.mono hB2.size)
  have hb13:=hb2.trans (hbo.mono hb2.size)
  have c0b:=za HCL w2 hb2 0 r (za HR)
  have hob3:=za HOB _ hb13
  obtain⟨w3,e3⟩:∃ x,w2.alloc (.cells #[.string r,.slice none 0 0,.string ⟨#[]⟩,.slice none 0 0] 114)=x:=⟨_,rfl⟩
  rw [e3] at hod hB3 hb13 hob3
  have HW3:=zb e3
  have HOD:=zb hod
  have HB3:=zb hB3
  have HB13:=zb hb13
  have HFK:=zb hfk
  have hs3:=hB3.size
  have hs13:=hb13.size
  have hg3:w2.heap.size<w3.heap.size:=hod.lt
  have hs12:=hb2.size
  by_cases hlq:WS.length=f.size+1
  ·rw [if_pos hlq] at ho
   have HO:=zb ho
   obtain⟨m,hm⟩:∃ m,WS.length-1=m:=⟨_,rfl⟩
   have hlnb:(((m:Nat):Int) != (f.size:Int))=false:=bne_eq_false_iff_eq.2 (by omega)
   have HM:Hid (m=f.size/\WS.length=m+1):=zb ⟨by omega,by omega⟩
   rw [hm] at hsl
   have HHW:=zb (fun(W:World) (hW:Below w2.heap.size w3 W)=>(za HW).below (hB2.trans (((hbo.mono (Nat.le_refl _)).trans (show Below w2.heap.size (w2.alloc (.cells #[.string r,.slice none 0 0,.string ⟨#[]⟩,.slice none 0 0] 114)) W by rw [e3];exact hW)).mono hB2.size)))
   have HCW:=zb (fun(W:World) (hW:Below w2.heap.size w3 W) (j:Nat) (x:ByteArray) (hx:WS[j]?=some x)=>za HCL W (hb2.trans (((hbo.mono (Nat.le_refl _)).trans (show Below w2.heap.size (w2.alloc (.cells #[.string r,.slice none 0 0,.string ⟨#[]⟩,.slice none 0 0] 114)) W by rw [e3];exact hW)).mono hs12)) j x hx)
   have HOW:=zb (fun(W:World) (hW:Below w2.heap.size w3 W)=>za HOB W (hb2.trans (((hbo.mono (Nat.le_refl _)).trans (show Below w2.heap.size (w2.alloc (.cells #[.string r,.slice none 0 0,.string ⟨#[]⟩,.slice none 0 0] 114)) W by rw [e3];exact hW)).mono hs12)))
   have HBW:=zb (fun(W:World) (hW:Below w2.heap.size w3 W)=>(hB2.trans (((hbo.mono (Nat.le_refl _)).trans (show Below w2.heap.size (w2.alloc (.cells #[.string r,.slice none 0 0,.string ⟨#[]⟩,.slice none 0 0] 114)) W by rw [e3];exact hW)).mono hB2.size)))
   have hw20:=hB2.size
   clear hf ev ho hob hb2 hB2 HRO hod hbo hB3 hb13 hfk e3 hob3 hlq hm HB13 HB3 HF0 HB1
   go_wp2_with fail
   rw [za HW3]
   clear HW3
   go_wp2_with fail
   go_loopw [8,9,10,39] (fun _ _ _ iv wr=>∃ (i:Nat) (o:Od),i<=m/\iv=.int .i64 i/\rdK r f (WS.drop 1) i=some o/\OdA wr w2.heap.size w2.heap.size o/\o.nums.length<=i/\Below w2.heap.size w3 wr) (fun _ _ _ iv _=>m-(intOf iv).toNat)
   case atStart=>exact⟨0,_,Nat.zero_le _,rfl,rfl,za HOD,Nat.le_refl _,Below.refl _ _⟩
   case round =>
    obtain⟨i,o,hi,rfl,hk,hod,hnn,hbel⟩:=hrel
    clear HOD
    by_cases hlt:i<m
    ·obtain⟨hm1,hm2⟩:=za HM
     have hade:=za HAD (by omega)
     subst hade
     obtain⟨x,hx⟩:∃ x,WS[i+1]?=some x:=⟨_,List.getElem?_eq_getElem (by omega)⟩
     have hcl:=za HCW wr hbel (i+1) x hx
     rw [Nat.add_comm i 1] at hcl
     have hfi:i<f.size:=by omega
     have hks:=za HFK i hfi
     have hxs:=za HSZ x (List.mem_of_getElem? hx)
     have HTK:=zb (ztW (za HHW wr hbel) (f[i].toNat:Int) (by omega) x hxs hod (by have:=hod.lt;omega) (by omega))
     have hrk:rdK r f (WS.drop 1) (i+1)=tkO (f[i].toNat:Int) x o:=by
      show(match rdK r f (WS.drop 1) i with | some o=>tkO ((f.data.toList.getD i 0).toNat) ((WS.drop 1).getD i ⟨#[]⟩) o | none=>none)=_
      rw [hk]
      have e1:f.data.toList.getD i 0=f[i]:=by
       rw [List.getD_eq_getElem?_getD,Array.getElem?_toList,Array.getElem?_eq_getElem hfi]
       rfl
      have e2:(WS.drop 1).getD i ⟨#[]⟩=x:=by
       rw [List.getD_eq_getElem?_getD,List.getElem?_drop,Nat.add_comm 1 i,hx]
       rfl
      dsimp only
      rw [e1,e2]
     have hnb:∀ o',tkO (f[i].toNat:Int) x o=some o'->o'.nums.length<=i+1:=fun o' h=>by
      have:=zxx h
      omega
     have HRK:=zb hrk
     have HNB:=zb hnb
     have HBL:=zb hbel
     have HHX:=zb (And.intro hm1 hm2)
     clear hk hod hks hxs hrk hnb hbel hx hm1 hm2
     cases ht:tkO (f[i].toNat:Int) x o with
     | some o' =>
      rw [ht] at HTK HRK
      have hn':=za HNB o' ht
      clear ht HNB
      go_wp2_with fail
      refine(za HTK).mono ?_
      rintro e w5 ⟨hb5,rfl,hod5⟩
      have HX5:=zb (And.intro hod5 ((za HBL).trans hb5))
      clear hb5 hod5 HTK HBL
      go_wp2
      go_roundw
      case rel=>exact⟨i+1,o',by omega,by go_num,za HRK,(za HX5).1,hn',(za HX5).2⟩
      case measure=>simp [intOf];omega
     | none =>
      rw [ht] at HTK HRK
      clear ht HNB
      have HNO:Hid (rdO s=none):=zb (by rw [za HO];exact zuw (za HRK) (by have:=za HHX;omega))
      go_wp2_with fail
      refine(za HTK).mono ?_
      rintro e w5 ⟨hb5,rfl⟩
      have hB5:=(za HBL).trans hb5
      have hoc:=za HOW w5 hB5
      have z0:w5.cell? ⟨w.heap.size,0,none⟩=some (.string ⟨#[]⟩):=by rw [Go.Lib.cell_of_heap hoc];rfl
      have z1:w5.cell? ⟨w.heap.size,1,none⟩=some (.slice none 0 0):=by rw [Go.Lib.cell_of_heap hoc];rfl
      have z2:w5.cell? ⟨w.heap.size,2,none⟩=some (.string ⟨#[]⟩):=by rw [Go.Lib.cell_of_heap hoc];rfl
      have z3:w5.cell? ⟨w.heap.size,3,none⟩=some (.slice none 0 0):=by rw [Go.Lib.cell_of_heap hoc];rfl
      have y0:=Go.Lib.frozen_of_heap hoc 0
      have y1:=Go.Lib.frozen_of_heap hoc 1
      have y2:=Go.Lib.frozen_of_heap hoc 2
      have y3:=Go.Lib.frozen_of_heap hoc 3
      have HOC:Hid (OdB w5 w.heap.size _ _ _ _):=zb hoc
      have HBE:=zb (za HBW w5 hB5)
      clear hb5 hB5 hoc HTK HBL
      unfold bdV
      go_wp2
      refine bodyPost_ret (zcu Tryz.results53 _ _ w.heap.size _ _ _ _ rfl ((za HOC).setAll _ _ _ _)) rfl ?_
      exact⟨QR (za HBE) (Nat.le_refl _) _ _ _ _,.inr ⟨za HNO,rfl⟩⟩
    ·obtain rfl:i=m:=by omega
     have HYE:Hid (rdO s=some o):=zb (by rw [za HO,<- (za HM).1];exact hk)
     have hoc:=za HOW wr hbel
     have z0:wr.cell? ⟨w.heap.size,0,none⟩=some (.string ⟨#[]⟩):=by rw [Go.Lib.cell_of_heap hoc];rfl
     have z1:wr.cell? ⟨w.heap.size,1,none⟩=some (.slice none 0 0):=by rw [Go.Lib.cell_of_heap hoc];rfl
     have z2:wr.cell? ⟨w.heap.size,2,none⟩=some (.string ⟨#[]⟩):=by rw [Go.Lib.cell_of_heap hoc];rfl
     have z3:wr.cell? ⟨w.heap.size,3,none⟩=some (.slice none 0 0):=by rw [Go.Lib.cell_of_heap hoc];rfl
     have y0:=Go.Lib.frozen_of_heap hoc 0
     have y1:=Go.Lib.frozen_of_heap hoc 1
     have y2:=Go.Lib.frozen_of_heap hoc 2
     have y3:=Go.Lib.frozen_of_heap hoc 3
     have HOC:Hid (OdB wr w.heap.size _ _ _ _):=zb hoc
     have HBE:=zb (za HBW wr hbel)
     obtain⟨an,cn,a,c,h1,h2,h3,h4,h5,h6⟩:=hod
     have q0:wr.cell? ⟨w2.heap.size,0,none⟩=some (.string o.row):=by rw [Go.Lib.cell_of_heap h1];rfl
     have q1:wr.cell? ⟨w2.heap.size,1,none⟩=some (.slice an o.nums.length cn):=by rw [Go.Lib.cell_of_heap h1];rfl
     have q2:wr.cell? ⟨w2.heap.size,2,none⟩=some (.string o.name):=by rw [Go.Lib.cell_of_heap h1];rfl
     have q3:wr.cell? ⟨w2.heap.size,3,none⟩=some (.slice a o.body.length c):=by rw [Go.Lib.cell_of_heap h1];rfl
     have hg0:w.heap.size<w2.heap.size:=by omega
     have HLK:=zb (fun(W:World) (hW:∀ k,k≠w.heap.size->W.heap[k]?=wr.heap[k]?)=>And.intro (h2.keptO (w':=W) (fun j hj=>hW j (by have:=h2.block j hj;omega))) (h3.keptM (w':=W) (fun x hx=>hW _ (by have:=(h5 x hx).2.1.2;omega))))
     clear hk hbel hoc h1 h2 h3 h4 h5
     go_wp2
     refine bodyPost_ret (zcu Tryz.results53 _ _ w.heap.size _ _ _ _ rfl ((za HOC).setAll _ _ _ _)) rfl ?_
     obtain⟨l1,l2⟩:=za HLK ((((wr.setCell ⟨w.heap.size,0,none⟩ (.string o.row)).setCell ⟨w.heap.size,1,none⟩ (.slice an o.nums.length cn)).setCell ⟨w.heap.size,2,none⟩ (.string o.name)).setCell ⟨w.heap.size,3,none⟩ (.slice a o.body.length c)) (fun k hk=>by rw [Qn hk,Qn hk,Qn hk,Qn hk])
     obtain⟨an',cn',e',hs'⟩:=l1.sls zaN (by have:=za HM;omega)
     simp only [Value.slice.injEq,true_and] at e'
     obtain⟨rfl,rfl⟩:=e'
     exact⟨QR (za HBE) (Nat.le_refl _) _ _ _ _,.inl ⟨o,an,cn,a,c,za HYE,rfl,hs',l2⟩⟩
  ·rw [if_neg hlq] at ho
   have HO:=zb ho
   have hlnb:(((WS.length-1:Nat):Int) != (f.size:Int))=true:=bne_iff_ne.2 (by omega)
   have hbd:=((za HW).below hB3).bd
   unfold BdT at hbd
   have z0:w3.cell? ⟨w.heap.size,0,none⟩=some (.string ⟨#[]⟩):=by rw [Go.Lib.cell_of_heap hob3];rfl
   have z1:w3.cell? ⟨w.heap.size,1,none⟩=some (.slice none 0 0):=by rw [Go.Lib.cell_of_heap hob3];rfl
   have z2:w3.cell? ⟨w.heap.size,2,none⟩=some (.string ⟨#[]⟩):=by rw [Go.Lib.cell_of_heap hob3];rfl
   have z3:w3.cell? ⟨w.heap.size,3,none⟩=some (.slice none 0 0):=by rw [Go.Lib.cell_of_heap hob3];rfl
   have y0:=Go.Lib.frozen_of_heap hob3 0
   have y1:=Go.Lib.frozen_of_heap hob3 1
   have y2:=Go.Lib.frozen_of_heap hob3 2
   have y3:=Go.Lib.frozen_of_heap hob3 3
   have HOB3:Hid (OdB w3 w.heap.size _ _ _ _):=zb hob3
   have hlt0:0<w.heap.size:=by have:=block_lt_of_cell (za HW).bd;exact this
   have hbd1:(w3.setCell ⟨w.heap.size,0,none⟩ (.string ⟨#[]⟩)).cell? ⟨0,0,none⟩=some (.iface 426 (.pointer (some b))):=by
    rw [World.cell?_of_block (Qn (Nat.ne_of_lt hlt0) _)]
    exact hbd
   clear hf ev ho hob hb2 hB2 HRO hod hbo hB3 hb13 hfk e3 hob3
   go_wp2_with fail
   rw [za HW3]
   go_wp2_with fail
   go_region
   all_goals
    go_wp2
    refine bodyPost_ret (zcu Tryz.results53 _ _ w.heap.size _ _ _ _ rfl (OdB.setAll (w:=w3) (za HOB3) _ _ _ _)) rfl ?_
    first
    | exact⟨QR (za HB3) (Nat.le_refl _) _ _ _ _,.inr ⟨za HO,rfl⟩⟩
    | exact⟨below_drewN (QR (za HB3) (Nat.le_refl _) _ _ _ _) 1,.inr ⟨za HO,rfl⟩⟩
    | exact⟨QR (below_drewN (za HB3) 1) (Nat.le_refl _) _ _ _ _,.inr ⟨za HO,rfl⟩⟩
end Go.Proofs.YtchmlnmhbfaclaaGreatDoor
