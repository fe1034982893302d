/-
  Parts of the proofs, joined by program.
-/
import Derived.Test.YtchmlnmhbfaclaaGreatDoorJIn
import Derived.Test.YtchmlnmhbfaclaaGreatDoorJIm
import Derived.Test.YtchmlnmhbfaclaaGreatDoorJChp
import Derived.Test.YtchmlnmhbfaclaaGreatDoorJCut
import Derived.Test.YtchmlnmhbfaclaaGreatDoorJExa
import Derived.Maps.OwnSet
import Derived.Maps.AppendAt
import Derived.Deep.QuietTactic
import Derived.Test.YtchmlnmhbfaclaaGreatDoorJDfr
import Derived.StringKeys
namespace Go.Proofs.YtchmlnmhbfaclaaGreatDoor
open Go.RowKit
set_option linter.unusedVariables false
theorem zo7(c:Int)(w:World):Calls Tryz.prog 314 #[.int .u8 c] w fun e w'=>e=.returned (.bool (c != 0))/\w=w':=by
 go_enter Tryz.func314,Tryz.ntmps314
 go_wp2
 go_ret
 exact⟨rfl,rfl⟩
set_option maxHeartbeats 400000 in
theorem zml(a:Option Addr)(cap:Nat)(l:List Int)(w:World)(hbs:Bs w a cap l) :
  Calls Tryz.prog 236 #[.slice a l.length cap,.func (.func 314) #[] #[]] w fun e w'=>e=.returned (.int .i64 (QA l))/\w=w':=by
 have hl:l.length<=140737488351232:=hbs.2.2.1
 have HN:=zb (fun k=>zf8 (l:=l) (k:=k))
 have HM:=zb (zf7 (l:=l))
 generalize QA l=F at *
 go_enter Tryz.func236,Tryz.ntmps236
 go_wp2
 go_loop [5,8] (fun _ i=>∃ k:Nat,k<=l.length/\i=.int .i64 k/\∀ j,j<k->(l.getD j 0 != 0)=false) (fun _ i=>l.length-(intOf i).toNat)
 case atStart=>exact⟨0,by omega,rfl,fun j hj=>absurd hj (Nat.not_lt_zero j)⟩
 case round =>
  obtain⟨k,hk,rfl,hall⟩:=hrel
  have HA:Hid (∀ j,j<k->(l.getD j 0 != 0)=false):=hall
  clear hall
  by_cases hlt:k<l.length
  ·obtain⟨b,off,rfl,hcell⟩:=hbs.at k hlt
   have HC:=zb (zo7 (l.getD k 0) w)
   have HK:=zb (za HN k hlt)
   clear hbs
   have HF:=zb (fun h=>First.step (f:=fun j=>(l.getD j 0 != 0)) (za HA) h)
   generalize l.getD k 0=c at *
   cases hb:(c != 0)
   ·rw [hb] at HC
    have HS:=zb (za HF hb)
    clear hb
    go_wp2_with (go_at_call 314;refine(za HC).mono ?_;rintro e w' ⟨rfl,rfl⟩)
    go_round
    case rel=>exact⟨k+1,by omega,by go_num,za HS⟩
    case measure=>simp [intOf];omega
   ·rw [hb] at HC
    have HS:=zb (za HK hb (za HA))
    clear hb
    go_wp2_with (go_at_call 314;refine(za HC).mono ?_;rintro e w' ⟨rfl,rfl⟩)
    go_ret
    exact⟨by rw [za HS];rfl,rfl⟩
  ·obtain rfl:k=l.length:=by omega
   go_wp2
   go_ret
   exact⟨by rw [za HM (za HA)];rfl,rfl⟩
theorem zpC(a:Option Addr)(cap:Nat)(l:List Int)(w:World)(hbs:Bs w a cap l) :
  Calls Tryz.prog 195 #[.slice a l.length cap,.func (.func 314) #[] #[]] w fun e w'=>e=.returned (.bool (zj l))/\w=w':=by
 have HI:=zb (zml a cap l w hbs)
 have hv:QA l=-1/\zj l=false\/0<=QA l/\zj l=true:=by
  unfold QA
  cases zj l with
  | true=>rw [if_pos rfl];exact .inr ⟨by omega,rfl⟩
  | false=>rw [if_neg (by simp)];exact .inl ⟨rfl,rfl⟩
 generalize QA l=F at *
 generalize zj l=R at *
 generalize l.length=N at *
 rcases hv with ⟨rfl,rfl⟩ | ⟨h,rfl⟩
 all_goals
  go_enter Tryz.func195,Tryz.ntmps195
  go_wp2_with (go_at_call 236;refine(za HI).mono ?_;rintro e w1 ⟨rfl,rfl⟩)
  go_ret
  exact⟨rfl,rfl⟩
theorem zfY(a:Option Addr)(cap:Nat)(l:List Int)(w:World)(hbs:Bs w a cap l) :
  Calls Tryz.prog 274 #[.slice a l.length cap] w fun e w'=>e=.returned (.bool (zj l))/\w=w':=by
 have HI:=zb (zpC a cap l w hbs)
 clear hbs
 generalize zj l=R at *
 generalize l.length=N at *
 go_enter Tryz.func274,Tryz.ntmps274
 go_wp2_with fail
 refine(za HI).mono ?_
 rintro e w1 ⟨rfl,hw⟩
 subst hw
 go_wp2
 go_ret
 exact⟨rfl,rfl⟩
theorem zm1(a:Option Addr)(cap:Nat)(l:List Int)(x n:Nat)(w:World)(hbs:Bs w a cap l)(hx:x+n<=l.length) :
  Calls Tryz.prog 275 #[.slice a l.length cap,.agg #[.int .i64 x,.int .i64 n]] w fun e w'=>∃ a' c',e=.returned (.slice a' n c')/\Bs w' a' c' ((l.drop x).take n)/\Below w.heap.size w w':=by
 have hb0:Below w.heap.size w (w.alloc (.cells #[.int .i64 x,.int .i64 n] 124)):=(Below.refl _ _).alloc (Nat.le_refl _) _
 obtain⟨a1,hs1,hb1⟩:=slice_lohi (P:=Tryz.prog) (t:=29) Tryz.underlying29 zx (hbs.below hb0) x (x+n) (by omega) hx
 have e1:x+n-x=n:=by omega
 rw [e1] at hs1 hb1
 have e2:((x+n:Nat):Int)=(x:Int)+n:=by omega
 rw [e2] at hs1
 have HB0:=zb hb0
 have HB1:=zb hb1
 have h3:=hbs.2.2.1
 clear hbs hb0 hb1 e1 e2
 generalize l.length=N at *
 go_enter Tryz.func275,Tryz.ntmps275
 go_wp2
 go_ret
 exact⟨_,_,rfl,za HB1,za HB0⟩
theorem zjK(h:Int)(w:World)(h1:1<=h)(h2:h<=40) :
  Calls Tryz.prog 276 #[.int .i64 h] w fun e w'=>e=.returned (.agg #[.int .i64 (plc h:Nat),.int .i64 5])/\Below w.heap.size w w':=by
 have HH:=zb (fun W=>qS h W)
 rw [zm.2 ⟨h1,h2⟩] at HH
 have HP:=zb (fun W=>QL h W h1 h2)
 generalize plc h=p at *
 clear h1 h2
 go_enter Tryz.func276,Tryz.ntmps276
 go_wp2_with (first | (go_at_call 231;refine(za HH _).mono ?_;rintro e w1 ⟨rfl,hw⟩;subst hw) | (go_at_call 192;refine(za HP _).mono ?_;rintro e w1 ⟨rfl,hw⟩;subst hw))
 refine bodyPost_ret (results_cell_row rfl _ _ w.heap.size 124 _ (0,0) _ rfl (heap_alloc_new w _) Tryz.underlying124 rfl (by rw [size_ext];rfl)) rfl ?_
 exact⟨rfl,(Below.refl _ w).alloc (Nat.le_refl _) _⟩
theorem zg1(i:Nat)(w:World)(hi:i<8) :
  Calls Tryz.prog 202 #[.int .i64 i] w fun e w'=>e=.returned (.agg #[.int .i64 (200+11 * i:Nat),.int .i64 11])/\Below w.heap.size w w':=by
 have HH:=zb (fun W=>zc3 i W)
 have hp:zwH i=true:=by unfold zwH;rw [Bool.and_eq_true,decide_eq_true_iff,decide_eq_true_iff];omega
 rw [hp] at HH
 have HP:=zb (fun W=>zct i W (by omega))
 generalize 200+11 * i=p at *
 clear hp
 go_enter Tryz.func202,Tryz.ntmps202
 go_wp2_with (first | (go_at_call 239;refine(za HH _).mono ?_;rintro e w1 ⟨rfl,hw⟩;subst hw) | (go_at_call 194;refine(za HP _).mono ?_;rintro e w1 ⟨rfl,hw⟩;subst hw))
 refine bodyPost_ret (results_cell_row rfl _ _ w.heap.size 124 _ (0,0) _ rfl (heap_alloc_new w _) Tryz.underlying124 rfl (by rw [size_ext];rfl)) rfl ?_
 exact⟨rfl,(Below.refl _ w).alloc (Nat.le_refl _) _⟩
theorem zjn{P:Program}(w:World)(dT ty:TypeId)(hu:P.underlying dT=some (.slice 5))(hz:∀ w,(zeroValue 5).run P w=.ok (.int .u8 0) w)
  (B g off n dCap c:Nat) (cur:Array Value) (z:List Int) (h0:0<n) (hfit:off+n<=z.length) (hg:Row w B g c cur z) :
  (Builtin.clear_ #[dT] ty #[.slice (some ⟨g,off,none⟩) n dCap]).run P w=.ok (.tuple #[]) (za8 w g cur off (zerosB n)):=by
 obtain⟨h1,h2,h3,h4,h5⟩:=hg
 have hst:=run_storeCells_at P g off 5 ((zerosB n).map (Value.int .u8)) 0 cur w h2 (by simp [length_zerosB];omega) (oneCell_u8 _)
 have hzc:(Builtin.zeroCells (Value.int .u8 0).cells n).toList=(zerosB n).map (Value.int .u8):=by
  simp [Builtin.zeroCells,Value.cells,zerosB,List.map_replicate]
  rw [List.eq_replicate_iff]
  simp [Nat.mod_one]
 obtain⟨m,rfl⟩:∃ m,n=m+1:=⟨n-1,by omega⟩
 have hst':(storeCells ⟨g,off,none⟩ ((zerosB (m+1)).map (Value.int .u8))).run P w=.ok () (za8 w g cur off (zerosB (m+1))):=by
  rw [za8]
  simpa [splice] using hst
 simp only [Builtin.clear_,run_underlying hu,hz,hzc,hst',Sem.run_bind,Sem.run_pure,Result.andThen,List.getElem?_toArray,List.getElem?_cons_zero]
theorem zxj(w:World):(zeroValue 5).run Tryz.prog w=.ok (.int .u8 0) w:=by
 have h:(Tryz.prog.info? 5).map (fun i=>(i.zero,i.size,i.bytes))=some (some (.int .u8 0),1,1):=by kernel_rfl
 obtain⟨i0,hi,hz0,hz1,hz2⟩:=info_parts h
 simp [zeroValue,typeInfo,hi,hz0]
def flC(f:Int×Int):List Value:=[.int .i64 f.1,.int .i64 f.2]
theorem zem(f:Int×Int):(flC f).length=2:=rfl
theorem zel(f:Int×Int):∀ u∈flC f,u.oneCell'=true:=by
 intro u hu
 unfold flC at hu
 rcases List.mem_cons.1 hu with rfl | hu
 ·rfl
 rw [List.mem_singleton.1 hu]
 rfl
theorem ze0:(Tryz.prog.info? 324).map (fun i=>(i.zero,i.size,i.bytes))=some (some (.agg #[.int .i64 0,.int .i64 0]),2,16):=by kernel_rfl
end Go.Proofs.YtchmlnmhbfaclaaGreatDoor
namespace Go.Proofs.YtchmlnmhbfaclaaGreatDoor
open Go.RowKit Go.Sort Go.Shelf
set_option linter.unusedVariables false
def ziS(n:Int)(x e:Int×Int):Bool:=chk n [x,e] != 0
theorem zp0{n:Int}{x e:Int×Int}(hn:0<=n)(hn2:n<=6400)(hx:there n x=true)(he:there n e=true):ziS n x e=over e x:=by
 unfold ziS chk
 rw [if_neg (by omega),if_neg (by simp)]
 unfold zkC
 rw [if_neg (by rw [hx];simp),if_neg (by simp)]
 unfold zkC
 rw [if_neg (by rw [he];simp),List.nil_append,List.any_cons,List.any_nil,Bool.or_false]
 cases over e x with
 | true=>rw [if_pos rfl];rfl
 | false=>rw [if_neg (by simp)];rfl
theorem zpB(n:Int)(x e:Int×Int)(w:World)(hx:InI x)(he:InI e) :
  Calls Tryz.prog 313 #[.int .i64 n,.agg #[.int .i64 x.1,.int .i64 x.2],.agg #[.int .i64 e.1,.int .i64 e.2]] w fun r w'=>r=.returned (.bool (ziS n x e))/\Below w.heap.size w w':=by
 have hb:Below w.heap.size w (((w.alloc (.cells #[.int .i64 x.1,.int .i64 x.2] 124)).alloc (.cells #[.int .i64 e.1,.int .i64 e.2] 124)).alloc (.cells #[.int .i64 x.1,.int .i64 x.2,.int .i64 e.1,.int .i64 e.2] 124)):=(((Below.refl _ w).alloc (Nat.le_refl _) _).alloc (by simp) _).alloc (by simp;omega) _
 have hg:=heap_alloc_new ((w.alloc (.cells #[.int .i64 x.1,.int .i64 x.2] 124)).alloc (.cells #[.int .i64 e.1,.int .i64 e.2] 124)) (.cells #[.int .i64 x.1,.int .i64 x.2,.int .i64 e.1,.int .i64 e.2] 124)
 rw [qF,qF] at hg
 have hex:Exs (((w.alloc (.cells #[.int .i64 x.1,.int .i64 x.2] 124)).alloc (.cells #[.int .i64 e.1,.int .i64 e.2] 124)).alloc (.cells #[.int .i64 x.1,.int .i64 x.2,.int .i64 e.1,.int .i64 e.2] 124)) (some ⟨w.heap.size+1+1,0,none⟩) 2 [x,e]:=by
  refine⟨fun y hy=>?_,⟨by simp,fun h=>by cases h⟩,by simp,fun _=>⟨_,0,rfl,fun i hi=>?_⟩⟩
  ·rcases List.mem_cons.1 hy with rfl | hy
   ·exact hx
   ·rw [List.mem_singleton.1 hy];exact he
  ·rw [cell_of_row _ _ _ _ _ _ hg,cell_of_row _ _ _ _ _ _ hg]
   match i,hi with
   | 0,_=>exact⟨rfl,rfl⟩
   | 1,_=>exact⟨rfl,rfl⟩
   | i+2,hi=>exact absurd hi (by simp)
 have HC:=zb (zgk n _ 2 [x,e] _ hex)
 have hv:chk n [x,e]=0/\ziS n x e=false\/chk n [x,e]≠0/\ziS n x e=true:=by
  unfold ziS
  by_cases h:chk n [x,e]=0
  ·exact .inl ⟨h,by rw [h];rfl⟩
  ·exact .inr ⟨h,bne_iff_ne.2 h⟩
 have HB:=zb hb
 clear hb hex hg hx he
 obtain⟨x1,x2⟩:=x
 obtain⟨e1,e2⟩:=e
 dsimp only at *
 generalize ziS n (x1,x2) (e1,e2)=r at *
 generalize chk n [(x1,x2),(e1,e2)]=c at *
 rcases hv with ⟨rfl,rfl⟩ | ⟨hc,rfl⟩
 ·rw [zf] at HC
  go_enter Tryz.func313,Tryz.ntmps313
  go_wp2_with fail
  refine(za HC).mono ?_
  rintro e w1 ⟨rfl,hb1⟩
  have HB1:=zb ((za HB).trans (hb1.mono (za HB).size))
  clear hb1 HC HB
  go_wp2
  go_ret
  exact⟨rfl,za HB1⟩
 ·rw [zh _ hc] at HC
  go_enter Tryz.func313,Tryz.ntmps313
  go_wp2_with fail
  refine(za HC).mono ?_
  rintro e w1 ⟨rfl,hb1⟩
  have HB1:=zb ((za HB).trans (hb1.mono (za HB).size))
  clear hb1 HC HB
  go_wp2
  go_ret
  exact⟨rfl,za HB1⟩
structure Ex where
 val:Int×Int
 ok:InI val
def exS(x:Ex):List Value:=exC x.1
theorem zsI(x:Ex):(exS x).length=2:=rfl
theorem zy5(x:Ex):∀ u∈exS x,u.oneCell'=true:=by
 intro u hu
 unfold exS exC at hu
 rcases List.mem_cons.1 hu with rfl | hu
 ·rfl
 rw [List.mem_singleton.1 hu]
 rfl
theorem zvl:(Tryz.prog.info? 124).map (fun i=>(i.zero,i.size,i.bytes))=some (some (.agg #[.int .i64 0,.int .i64 0]),2,16):=by kernel_rfl
theorem zkN(n:Int)(x:Ex)(e:(Int×Int×Int×Int))(gn ge:Nat)(W:World)(hn:W.cell? ⟨gn,0,none⟩=some (.int .i64 n))(he:EnB W ge e)(hi:InI (e.2.1,e.2.2.1)) :
  Calls Tryz.prog 312 #[.agg #[.int .i64 x.1.1,.int .i64 x.1.2],.pointer (some ⟨gn,0,none⟩),.pointer (some ⟨ge,0,none⟩)] W fun r w'=>r=.returned (.bool (ziS n x.1 (e.2.1,e.2.2.1)))/\Below W.heap.size W w':=by
 obtain⟨⟨x1,x2⟩,hx⟩:=x
 obtain⟨h,a,l,t⟩:=e
 have hb0:Below W.heap.size W (W.alloc (.cells #[.int .i64 x1,.int .i64 x2] 124)):=(Below.refl _ W).alloc (Nat.le_refl _) _
 have hn1:=(hb0.cell (block_lt_of_cell hn)).trans hn
 have he1:=he.below hb0 he.lt
 obtain⟨c0,c1,c2,c3⟩:=he1.cells
 have HO:=zb (zpB n (x1,x2) (a,l) (W.alloc (.cells #[.int .i64 x1,.int .i64 x2] 124)) hx hi)
 have HB0:=zb hb0
 have hgn:=block_lt_of_cell hn
 have hge:=he.lt
 dsimp only at *
 generalize ziS n (x1,x2) (a,l)=r at *
 clear he1 hb0 hx hi he hn
 go_enter Tryz.func312,Tryz.ntmps312
 go_wp2_with fail
 refine(za HO).mono ?_
 rintro e' w1 ⟨rfl,hb1⟩
 have HB1:=zb ((za HB0).trans (hb1.mono (za HB0).size))
 clear hb1
 go_wp2
 go_ret
 exact⟨rfl,za HB1⟩
theorem zl1(fv:Value)(w:World):Calls Tryz.prog 333 #[.slice none 0 0,fv] w fun r w'=>r=.returned (.int .i64 (-1))/\w=w':=by
 go_enter Tryz.func333,Tryz.ntmps333
 go_wp2
 go_loop [5,8] (fun _ i=>i=.int .i64 0) (fun _ _=>0)
 case atStart=>rfl
 case round =>
  subst hrel
  go_wp2
  go_ret
  exact⟨rfl,rfl⟩
theorem zpm(fv:Value)(w:World):Calls Tryz.prog 306 #[.slice none 0 0,fv] w fun r w'=>r=.returned (.bool false)/\w=w':=by
 have HI:=zb (zl1 fv w)
 go_enter Tryz.func306,Tryz.ntmps306
 go_wp2_with (go_at_call 333;refine(za HI).mono ?_;rintro e w1 ⟨rfl,rfl⟩)
 go_ret
 exact⟨rfl,rfl⟩
def zgz(L:List Int)(e:(Int×Int×Int×Int))(T:List Ex):Int:=if Za L e≠0 then 1 else if T.any (fun x=>ziS L.length x.1 (e.2.1,e.2.2.1))=true then 2 else 0
set_option maxHeartbeats 1000000 in
theorem znY(L:List Int)(e:(Int×Int×Int×Int))(B:Nat)(v:Value)(T:List Ex)(w:World)(hl:L.length<=140737488351232)(hi:InI (e.2.1,e.2.2.1))(hT:Lst exS 2 124 w B v T)(hTl:T.length<=1000) :
  Calls Tryz.prog 272 #[.int .i64 L.length,zgF e,v] w fun r w'=>r=.returned (.int .i64 (zgz L e T))/\Below w.heap.size w w':=by
 obtain⟨x,a,l,t⟩:=e
 have hb0:Below w.heap.size w ((w.alloc (.cells #[.int .i64 (L.length:Int)] 3)).alloc (.cells #[.int .i64 x,.int .i64 a,.int .i64 l,.int .i64 t] 126)):=((Below.refl _ w).alloc (Nat.le_refl _) _).alloc (by simp) _
 have HK:=zb (zdQ L (x,a,l,t) ((w.alloc (.cells #[.int .i64 (L.length:Int)] 3)).alloc (.cells #[.int .i64 x,.int .i64 a,.int .i64 l,.int .i64 t] 126)) hl hi.1)
 have HB0:=zb hb0
 have hen:=EnB.new (w.alloc (.cells #[.int .i64 (L.length:Int)] 3)) (x,a,l,t)
 rw [qF] at hen
 have hcn:((w.alloc (.cells #[.int .i64 (L.length:Int)] 3)).alloc (.cells #[.int .i64 x,.int .i64 a,.int .i64 l,.int .i64 t] 126)).cell? ⟨w.heap.size,0,none⟩=some (.int .i64 (L.length:Int)):=by
  rw [World.cell?_alloc_lt _ _ _ (by simp),cell_of_row _ _ _ _ _ (0,0) (heap_alloc_new w _)]
  rfl
 unfold zgF at HK ⊢
 dsimp only at HK ⊢ hi
 obtain⟨va,vm,vc,rfl⟩:=hT.shape
 by_cases h0:Za L (x,a,l,t)=0
 ·have hw:zgz L (x,a,l,t) T=if T.any (fun y=>ziS L.length y.1 (a,l))=true then 2 else 0:=by unfold zgz;rw [if_neg (by rw [h0];simp)]
  rw [h0,zf] at HK
  rw [hw]
  clear hw h0
  have HC:Hid (∀ W:World,Below w.heap.size w W->EnB W (w.heap.size+1) (x,a,l,t)->W.cell? ⟨w.heap.size,0,none⟩=some (.int .i64 (L.length:Int)) ->
    Calls Tryz.prog 306 #[.slice va vm vc,.func (.func 312) #[] #[.pointer (some ⟨w.heap.size,0,none⟩),.pointer (some ⟨w.heap.size+1,0,none⟩)]] W fun r w'=>r=.returned (.bool (T.any (fun y=>ziS L.length y.1 (a,l))))/\Below W.heap.size W w'):=zb (fun W hW hE hN=>by
   have hTW:=hT.below hW
   obtain⟨a1,c1,e1,hsl⟩:=hTW.sls zsI (by omega)
   simp only [Value.slice.injEq] at e1
   obtain⟨rfl,rfl,rfl⟩:=e1
   rcases hTW.2 with ⟨h',h00⟩ | ⟨g,cap,cur,h',hB,hc,h3,h4,h5,h6⟩
   ·simp only [Value.slice.injEq] at h'
    obtain rfl:T=[]:=List.eq_nil_of_length_eq_zero h00
    rw [h'.1,h'.2.2]
    exact(zpm _ W).mono fun r w' ⟨hr,hw⟩=>⟨hr,by rw [hw];exact Below.refl _ _⟩
   ·simp only [Value.slice.injEq,true_and] at h'
    obtain⟨rfl,rfl⟩:=h'
    have hlt:g<W.heap.size:=(Array.getElem?_eq_some_iff.1 hc).1
    haveI:Inhabited Ex:=⟨⟨(0,0),by unfold InI;decide⟩⟩
    have hcon:=AnyQ.slices_ContainsFunc zw5 2 Tryz.isAgg124 Tryz.sizeOf124 exS zsI (fun y:Ex=>ziS L.length y.1 (a,l)) 312 #[.pointer (some ⟨w.heap.size,0,none⟩),.pointer (some ⟨w.heap.size+1,0,none⟩)] (enters_of Tryz.func312 (by kernel_rfl) rfl) g 0 T.length vc T W
     (fun W2 y hW2=>(zkN L.length y (x,a,l,t) w.heap.size (w.heap.size+1) W2 ((hW2.cell (block_lt_of_cell hN)).trans hN) (hE.below hW2 hE.lt) hi).mono fun r w' ⟨hr,hbb⟩=>⟨hr,hW2.trans (hbb.mono hW2.size)⟩)
     (Nat.le_refl _) (by omega) hlt
     (fun j hj i u hu=>by
      have ej:T[j]?=some T[j]! := by simp [hj]
      obtain⟨b,off,hba,hcell⟩:=hsl.2.2.2 (by intro e;rw [e] at hj;simp at hj)
      simp only [Option.some.injEq,Addr.mk.injEq,and_true] at hba
      obtain⟨rfl,rfl⟩:=hba
      exact hcell j _ ej i u hu)
    change Calls Tryz.prog 306 _ _ _ at hcon
    rw [List.take_length] at hcon
    exact hcon)
  clear hT hTl hi hl
  generalize T.any (fun y=>ziS L.length y.1 (a,l))=r at *
  have HEN:=zb hen
  have HCN:=zb hcn
  clear hen hcn hb0
  cases r with
  | true =>
   rw [if_pos rfl]
   go_enter Tryz.func272,Tryz.ntmps272
   go_wp2_with fail
   refine(za HK).mono ?_
   rintro e w1 ⟨rfl,hb1⟩
   have hB1:=(za HB0).trans (hb1.mono (za HB0).size)
   have HC1:=zb (za HC w1 hB1 ((za HEN).below hb1 (by simp)) ((hb1.cell (by simp;omega)).trans (za HCN)))
   have HB1:=zb hB1
   clear hb1 hB1 HC HB0 HEN HCN HK
   go_wp2_with fail
   refine(za HC1).mono ?_
   rintro e w2 ⟨rfl,hb2⟩
   have HB2:=zb ((za HB1).trans (hb2.mono (za HB1).size))
   clear hb2 HC1 HB1
   go_wp2
   go_ret
   exact⟨rfl,za HB2⟩
  | false =>
   rw [if_neg (by simp)]
   go_enter Tryz.func272,Tryz.ntmps272
   go_wp2_with fail
   refine(za HK).mono ?_
   rintro e w1 ⟨rfl,hb1⟩
   have hB1:=(za HB0).trans (hb1.mono (za HB0).size)
   have HC1:=zb (za HC w1 hB1 ((za HEN).below hb1 (by simp)) ((hb1.cell (by simp;omega)).trans (za HCN)))
   have HB1:=zb hB1
   clear hb1 hB1 HC HB0 HEN HCN HK
   go_wp2_with fail
   refine(za HC1).mono ?_
   rintro e w2 ⟨rfl,hb2⟩
   have HB2:=zb ((za HB1).trans (hb2.mono (za HB1).size))
   clear hb2 HC1 HB1
   go_wp2
   go_ret
   exact⟨rfl,za HB2⟩
 ·have hw:zgz L (x,a,l,t) T=1:=by unfold zgz;rw [if_pos h0]
  rw [zh _ h0] at HK
  rw [hw]
  clear hw h0 hen hcn hb0 hT hi hl
  generalize Za L (x,a,l,t)=c at *
  go_enter Tryz.func272,Tryz.ntmps272
  go_wp2_with fail
  refine(za HK).mono ?_
  rintro e w1 ⟨rfl,hb1⟩
  have HB1:=zb ((za HB0).trans (hb1.mono (za HB0).size))
  clear hb1
  go_wp2
  go_ret
  exact⟨rfl,za HB1⟩
end Go.Proofs.YtchmlnmhbfaclaaGreatDoor
namespace Go.Proofs.YtchmlnmhbfaclaaGreatDoor
open Go.RowKit Go.MapKept Go.ChangeMaps Go.Sort Go.Shelf
open Go.Maps (Keyed)
set_option linter.unusedVariables false
theorem zzq{H:Type}{D:DataW H}{k:Lit}(h:Maps.has D k=false){z:DataW H}:D.atKey k z=z:=by
 cases D <;> try rfl
 rename_i es
 show(match es.find? (fun p=>p.1.sameKey k) with | some p=>p.2 | none=>z)=z
 have:es.find? (fun p=>p.1.sameKey k)=none:=List.find?_eq_none.2 (fun p hp hs=>(List.any_eq_false.1 h p hp) hs)
 rw [this]
def Mrk(w:World)(m:Nat)(E:List (Int×Int×Int×Int))(f:Int->Int):Prop :=
 ∃ Dm:DataW Unit,w.ownsMap Tryz.prog 3 (plainElem Tryz.prog 3) m E.length Dm/\∀ z:Int,Maps.has Dm (.int .i64 z)=E.any (fun e=>e.1 == z)/\(E.any (fun e=>e.1 == z)=true->∀ d,Dm.atKey (.int .i64 z) d=.lit (.int .i64 (f z)))
theorem Mrk.made(w:World)(f:Int->Int):Mrk (w.alloc (.map #[] 0)) w.heap.size [] f:=⟨.map [],World.ownsMap_made w _ _ _,fun z=>⟨rfl,fun h=>by cases h⟩⟩
theorem Mrk.lt{w:World}{m:Nat}{E:List (Int×Int×Int×Int)}{f:Int->Int}(h:Mrk w m E f):m<w.heap.size:=by
 obtain⟨Dm,h1,_⟩:=h
 exact h1.lt
theorem Mrk.same{w w':World}{m:Nat}{E:List (Int×Int×Int×Int)}{f:Int->Int}(h:Mrk w m E f)(hs:w'.heap[m]?=w.heap[m]?):Mrk w' m E f:=by
 obtain⟨Dm,⟨es,clock,hb,r⟩,h2⟩:=h
 exact⟨Dm,⟨es,clock,hs.trans hb,r⟩,h2⟩
theorem Mrk.below{w w':World}{m:Nat}{E:List (Int×Int×Int×Int)}{f:Int->Int}(h:Mrk w m E f)(hb:Below w.heap.size w w'):Mrk w' m E f:=h.same (hb.block m h.lt)
theorem zvk:(Tryz.prog.info? 3).map (fun i=>(i.zero,i.size,i.bytes))=some (some (.int .i64 0),1,8):=by kernel_rfl
theorem zmp(w:World):(zeroValue 3).run Tryz.prog w=.ok (.int .i64 0) w:=by
 obtain⟨i0,hi0,hz0,hz1,hz2⟩:=info_parts zvk
 simp [zeroValue,typeInfo,hi0,hz0]
def zAZ(E:List (Int×Int×Int×Int))(f:Int->Int)(z:Int):Int:=if E.any (fun e=>e.1 == z)=true then f z else 0
theorem Mrk.look{w:World}{m:Nat}{E:List (Int×Int×Int×Int)}{f:Int->Int}(h:Mrk w m E f)(z:Int)(hz:-9223372036854775808<=z/\z<=9223372036854775807) :
  (Instr.lookup 303 (.map (some m)) (.int .i64 z) true).run Tryz.prog w=.ok (.tuple #[.int .i64 (zAZ E f z),.bool (E.any (fun e=>e.1 == z))]) w:=by
 obtain⟨Dm,h1,h2⟩:=h
 have hwf:(Lit.int .i64 z).wf=true:=WalkArith.wf_i64 hz
 have hkey:=Maps.keyOf_int_mk (P:=Tryz.prog) Tryz.underlying3 hwf
 obtain⟨v,ps,hrun,hv⟩:=h1.look_ok (Maps.int_keyed Tryz.underlying3) Tryz.underlying303 (zmp w) (plainElem_int Tryz.underlying3 (a:=0) (by decide)) hkey
 obtain⟨a,rfl,he,_⟩:=plainElem_int_inv Tryz.underlying3 hv
 have he':=congrArg Prod.fst he
 dsimp only at he'
 rw [hrun,(h2 z).1]
 unfold zAZ
 cases hq:E.any (fun e=>e.1 == z) with
 | true =>
  rw [if_pos rfl]
  rw [(h2 z).2 hq] at he'
  simp only [DataW.lit.injEq,Lit.int.injEq,true_and] at he'
  rw [he']
 | false =>
  rw [if_neg (by simp)]
  rw [zzq (by rw [(h2 z).1];exact hq)] at he'
  simp only [DataW.lit.injEq,Lit.int.injEq,true_and] at he'
  rw [he']
theorem Mrk.store{w:World}{m:Nat}{E:List (Int×Int×Int×Int)}{f:Int->Int}(h:Mrk w m E f)(hk:E.length<=300)(e:(Int×Int×Int×Int))(hz:-9223372036854775808<=e.1/\e.1<=9223372036854775807)(hf:-9223372036854775808<=f e.1/\f e.1<=9223372036854775807) :
  ∃ w',(Instr.mapUpdate 303 (.map (some m)) (.int .i64 e.1) (.int .i64 (f e.1))).run Tryz.prog w=.ok () w'/\Mrk w' m (E++[e]) f/\w.mapTurned w' m:=by
 obtain⟨Dm,h1,h2⟩:=h
 have hwf:(Lit.int .i64 e.1).wf=true:=WalkArith.wf_i64 hz
 have hkey:=Maps.keyOf_int_mk (P:=Tryz.prog) Tryz.underlying3 hwf
 obtain⟨w',hrun,hown',ht⟩:=h1.store (Maps.int_keyed Tryz.underlying3) Tryz.underlying303 (by unfold maxLen;omega) hkey (plainElem_int Tryz.underlying3 (a:=f e.1) (WalkArith.wf_i64 hf))
 have hlit:WideAt.IsKeyLit (.int .i64 e.1):=(Maps.int_keyed Tryz.underlying3).key hkey
 refine⟨w',hrun,⟨_,by rw [List.length_append];exact hown',fun z=>?_⟩,ht⟩
 rw [List.any_append]
 by_cases hj:z=e.1
 ·subst hj
  rw [Maps.has_put_same h1.isMap hlit]
  refine⟨by simp,fun _ d=>Maps.atKey_put_same h1.isMap hlit _ _⟩
 ·have hne:Lit.int .i64 z≠Lit.int .i64 e.1:=by
   intro e;simp only [Lit.int.injEq,true_and] at e;exact hj e
  have e0:(e.1 == z)=false:=by
   rw [beq_eq_false_iff_ne]
   exact fun e=>hj e.symm
  rw [Maps.has_put_other hne,List.any_cons,List.any_nil,e0,Bool.or_false,Bool.or_false]
  refine⟨(h2 z).1,fun hq d=>?_⟩
  rw [Maps.atKey_put_other hne]
  exact(h2 z).2 hq d
theorem zb5{L:List Int}{e:(Int×Int×Int×Int)}:∀ {k:Nat},e∈zo L k ↔ ∃ j:Nat,j<k/\zg L ((j:Int)+1)≠0/\e=ze L ((j:Int)+1)
 | 0=>by simp [zo]
 | k+1=>by
  unfold zo
  rw [List.mem_append,zb5]
  by_cases ht:zg L ((k:Int)+1)=0
  ·rw [if_pos ht]
   constructor
   ·rintro (⟨j,h1,h2⟩ | h2)
    ·exact⟨j,by omega,h2⟩
    ·cases h2
   ·rintro ⟨j,h1,h2,h3⟩
    by_cases e:j=k
    ·subst e;exact absurd ht h2
    ·exact .inl ⟨j,by omega,h2,h3⟩
  ·rw [if_neg ht]
   constructor
   ·rintro (⟨j,h1,h2⟩ | h2)
    ·exact⟨j,by omega,h2⟩
    ·exact⟨k,by omega,ht,List.mem_singleton.1 h2⟩
   ·rintro ⟨j,h1,h2,h3⟩
    by_cases e:j=k
    ·subst e;exact .inr (List.mem_singleton.2 h3)
    ·exact .inl ⟨j,by omega,h2,h3⟩
theorem zsO{L:List Int}{e:(Int×Int×Int×Int)}{k:Nat}:∀ {m:Nat},(zo L m)[k]?=some e->∃ j:Nat,j<m/\zg L ((j:Int)+1)≠0/\e=ze L ((j:Int)+1)/\(zo L m).take k=zo L j
 | 0,h=>by simp [zo] at h
 | m+1,h=>by
  by_cases hk:k<(zo L m).length
  ·have h':(zo L m)[k]?=some e:=by
    unfold zo at h
    rwa [List.getElem?_append_left hk] at h
   obtain⟨j,h1,h2,h3,h4⟩:=zsO h'
   refine⟨j,by omega,h2,h3,?_⟩
   show(zo L m++_).take k=_
   rw [List.take_append_of_le_length (by omega)]
   exact h4
  ·unfold zo at h
   rw [List.getElem?_append_right (by omega)] at h
   by_cases ht:zg L ((m:Int)+1)=0
   ·rw [if_pos ht] at h;simp at h
   ·rw [if_neg ht] at h
    have hk0:k=(zo L m).length:=by
     have:=(List.getElem?_eq_some_iff.1 h).1
     simp at this
     omega
    subst hk0
    rw [Nat.sub_self] at h
    refine⟨m,by omega,ht,(Option.some.inj h).symm,?_⟩
    show(zo L m++_).take _=_
    rw [List.take_append_of_le_length (Nat.le_refl _),List.take_length]
def zpK(e:(Int×Int×Int×Int)):Int×Int:=(e.2.1,e.2.2.1)
theorem zsJ{L:List Int}{h:Int}(hb:Byt L)(hl:288<=L.length)(h1:1<=h)(h2:h<=40):InI (zpK (ze L h)):=by
 have hp:=qx h1 h2
 unfold zpK ze InI
 dsimp only
 rw [qL _ _ (by omega),qL _ _ (by omega)]
 have e1:=hb.getD (plc h+1)
 have e2:=hb.getD (plc h+1+1)
 have e3:=hb.getD (plc h+3)
 have e4:=hb.getD (plc h+3+1)
 omega
theorem zvq:InI (0,0):=by unfold InI;decide
def zDe(e:Int×Int):Bool:=decide ((-9223372036854775808<=e.1/\e.1<=9223372036854775807)/\-9223372036854775808<=e.2/\e.2<=9223372036854775807)
theorem zns{e:Int×Int}:zDe e=true ↔ InI e:=by unfold zDe InI;rw [decide_eq_true_iff]
def ztA(e:Int×Int):Ex:=if h:zDe e=true then ⟨e,zns.1 h⟩ else ⟨(0,0),zvq⟩
theorem zna{e:Int×Int}(h:InI e):(ztA e).1=e:=by unfold ztA;rw [dif_pos (zns.2 h)]
def QB(L:List Int)(E:List (Int×Int×Int×Int)):List Ex:=(E.filter (fun e=>decide (Za L e=0))).map (fun e=>ztA (zpK e))
theorem zn8(L:List Int)(E:List (Int×Int×Int×Int)):(QB L E).length<=E.length:=by unfold QB;rw [List.length_map];exact List.length_filter_le _ _
def mkV(L:List Int)(h:Int):Int:=if whE L h=3 then 1 else if whE L h=2 then 2 else 0
theorem zA0(L:List Int)(h:Int):-9223372036854775808<=mkV L h/\mkV L h<=9223372036854775807:=by
 unfold mkV
 split
 ·omega
 ·split <;> omega
theorem zi6{L:List Int}{e:(Int×Int×Int×Int)}(h:Za L e=0):there L.length (zpK e)=true:=by
 obtain⟨_,_,h3⟩:=qe.1 h
 exact zdl.2 (by unfold zpK;dsimp only;omega)
theorem ztM{L:List Int}{j:Nat}(hb:Byt L)(hq:Zi L.length=true)(hj:j<40)(ht:zg L ((j:Int)+1)≠0):zgz L (ze L ((j:Int)+1)) (QB L (zo L j))=mkV L ((j:Int)+1):=by
 have hl:=zM.1 hq
 unfold zgz mkV
 by_cases h0:Za L (ze L ((j:Int)+1))=0
 ·rw [if_neg (by rw [h0];simp)]
  have hw3:whE L ((j:Int)+1)≠3:=by
   unfold whE
   rw [if_neg ht,if_neg (by rw [h0];simp)]
   split <;> omega
  rw [if_neg hw3]
  have hany:(QB L (zo L j)).any (fun x=>ziS L.length x.1 ((ze L ((j:Int)+1)).2.1,(ze L ((j:Int)+1)).2.2.1))=zif L ((j:Int)+1) j:=by
   have hiff:(QB L (zo L j)).any (fun x=>ziS L.length x.1 (zpK (ze L ((j:Int)+1))))=true ↔ zif L ((j:Int)+1) j=true:=by
    rw [List.any_eq_true,zcA]
    have key:∀ i:Nat,i<j->Za L (ze L ((i:Int)+1))=0->ziS L.length (ztA (zpK (ze L ((i:Int)+1)))).1 (zpK (ze L ((j:Int)+1)))=ziT (ze L ((j:Int)+1)) (ze L ((i:Int)+1)):=fun i hi hp=>by
     rw [zna (zsJ hb (by omega) (by omega) (by omega)),zp0 (by omega) (by omega) (zi6 hp) (zi6 h0)]
     rfl
    constructor
    ·rintro ⟨x,hx,hxt⟩
     unfold QB at hx
     obtain⟨e,he,rfl⟩:=List.mem_map.1 hx
     obtain⟨he1,he2⟩:=List.mem_filter.1 he
     obtain⟨i,hi,hti,rfl⟩:=zb5.1 he1
     have hp:=of_decide_eq_true he2
     rw [key i hi hp] at hxt
     exact⟨i,hi,by unfold okE;rw [Bool.and_eq_true,decide_eq_true_iff,decide_eq_true_iff];exact⟨hti,hp⟩,hxt⟩
    ·rintro ⟨i,hi,hok,hlap⟩
     unfold okE at hok
     rw [Bool.and_eq_true,decide_eq_true_iff,decide_eq_true_iff] at hok
     refine⟨ztA (zpK (ze L ((i:Int)+1))),?_,by rw [key i hi hok.2];exact hlap⟩
     exact List.mem_map.2 ⟨_,List.mem_filter.2 ⟨zb5.2 ⟨i,hi,hok.1,rfl⟩,decide_eq_true hok.2⟩,rfl⟩
   unfold zpK at hiff
   cases h3:(QB L (zo L j)).any (fun x=>ziS L.length x.1 ((ze L ((j:Int)+1)).2.1,(ze L ((j:Int)+1)).2.2.1)) <;> cases h4:zif L ((j:Int)+1) j
   ·rfl
   ·rw [h3,h4] at hiff;simp at hiff
   ·rw [h3,h4] at hiff;simp at hiff
   ·rfl
  rw [hany]
  have hjn:((j:Int)+1-1).toNat=j:=by omega
  have hw:whE L ((j:Int)+1)=if zif L ((j:Int)+1) j=true then 2 else 1:=by
   unfold whE
   rw [if_neg ht,if_neg (by rw [h0];simp),hjn]
  rw [hw]
  cases zif L ((j:Int)+1) j with
  | true=>rfl
  | false=>rfl
 ·rw [if_pos h0]
  have hw3:whE L ((j:Int)+1)=3:=by
   unfold whE
   rw [if_neg ht,if_pos h0]
  rw [if_pos hw3]
theorem ztL{L:List Int}{e:(Int×Int×Int×Int)}{T:List Ex}:zgz L e T=1 ↔ Za L e≠0:=by
 unfold zgz
 by_cases h0:Za L e=0
 ·rw [if_neg (by rw [h0];simp)]
  constructor
  ·intro h;split at h <;> omega
  ·intro h;exact absurd h0 h
 ·rw [if_pos h0]
  exact⟨fun _=>h0,fun _=>rfl⟩
theorem zn7{L:List Int}{E:List (Int×Int×Int×Int)}{e:(Int×Int×Int×Int)}(h:Za L e=0):QB L (E++[e])=QB L E++[ztA (zpK e)]:=by
 unfold QB
 rw [List.filter_append,List.map_append]
 simp [h]
theorem zqb{L:List Int}{E:List (Int×Int×Int×Int)}{e:(Int×Int×Int×Int)}(h:Za L e≠0):QB L (E++[e])=QB L E:=by
 unfold QB
 rw [List.filter_append,List.map_append]
 simp [h]
theorem zdh{α:Type}{enc:α->List Value}{k T:Nat}{P:Program}{w:World}{ops:Array Oper}{rest:List Oper}{o:Oper}{a:Act}{Q:Exit->Act->World->Prop}(hgd:o.guard=none)(s x:Operand)(t:TypeId)
  (ho:o.op=.call { callee:=.builtin .append,args:=#[s,x],argTypes:=#[t,t]}) (B:Nat) (i0:TypeInfo) (z:Value) (bytes:Nat)
  (ht:P.underlying t=some (.slice T)) (hi:P.info? T=some i0) (hz:i0.zero=some z) (hsize:i0.size=k) (hby:i0.bytes=bytes) (hzs:z.cells.size=k) (hsz:0<k) (hbb:bytes<=100)
  (v:Value) (l:List α) (hs:a.eval s=v) (hown:Lst enc k T w B v l) (g:Nat) (y:α) (hx:a.eval x=.slice (some ⟨g,0,none⟩) 1 1)
  (hy:w.heap[g]?=some (.cells (enc y).toArray T (0,0))) (hk:(enc y).length=k) (h1:∀ u∈enc y,u.oneCell'=true) (hn:l.length<=1000) (hB:B<=w.heap.size)
  (h:∀ v' w',Lst enc k T w' B v' (l++[y])->Below B w w'->(∀ j,j<w.heap.size->v.ownBlock≠some j->w'.heap[j]?=w.heap[j]?)->wpList P ops Q rest (a.put o.dst v') w') :
  wpList P ops Q (o :: rest) a w:=by
 refine wpList_append_own w hgd s x t ho B T i0 z k bytes ht hi hz hsize hby hzs hsz v l.length (l.flatMap enc) hs hown ⟨g,0,none⟩ 1 1 (enc y) hx (by rw [hk,Nat.one_mul]) (fun j u hj=>?_) h1 (by unfold maxLen;omega) (Nat.le_trans (Nat.mul_le_mul (show l.length+1<=1001 by omega) hbb) (by decide)) hB ?_
 ·rw [addr_add,Nat.zero_add,cell_of_row _ _ _ _ _ _ hy]
  simpa using hj
 ·intro v' w' ho' hg' _
  refine h v' w' ?_ ((Below.refl _ _).grown hg' hB (fun k hk=>hown.block k hk)) (fun j hj hne=>hg'.block j hj (fun e=>hne e.symm))
  unfold Lst
  rw [List.length_append,List.flatMap_append]
  simpa using ho'
theorem Lst.old{α:Type}{enc:α->List Value}{k T:Nat}{w:World}{B:Nat}{v:Value}{l:List α}(h:Lst enc k T w B v l):∀ g,v.ownBlock=some g->g<w.heap.size:=by
 intro g hg
 rcases h.2 with ⟨rfl,_⟩ | ⟨g',cap',cur,rfl,hB,hc,_⟩
 ·cases hg
 ·simp [Value.ownBlock] at hg
  subst hg
  exact(Array.getElem?_eq_some_iff.1 hc).1
theorem Lst.turned{α:Type}{enc:α->List Value}{k T:Nat}{w w':World}{B m:Nat}{v:Value}{l:List α}(h:Lst enc k T w B v l)(ht:w.mapTurned w' m)(hm:m<B):Lst enc k T w' B v l:=by
 obtain⟨es,clock,es',clock',hb,rfl⟩:=ht
 refine⟨h.1,?_⟩
 rcases h.2 with h0 | ⟨g,cap,cur,rfl,hB,hc,h3⟩
 ·exact .inl h0
 ·exact .inr ⟨g,cap,cur,rfl,hB,(heap_setBlock_other hb _ (by omega)).trans hc,h3⟩
set_option maxHeartbeats 2000000 in
theorem zlH(L:List Int)(ea:Option Addr)(ec:Nat)(w:World)(hb:Byt L)(hq:Zi L.length=true)(hE:Sls enC 4 w ea ec (zo L 40)) :
  Calls Tryz.prog 218 #[.int .i64 L.length,.slice ea (zo L 40).length ec] w fun r w'=>r=.returned (.map (some w.heap.size))/\Mrk w' w.heap.size (zo L 40) (mkV L)/\Below w.heap.size w w':=by
 have hl:=zM.1 hq
 obtain⟨i0,hi0,hz0,hz1,hz2⟩:=info_parts zvl
 have HEL:=zb (qj L 40)
 have HAT:=zb (fun(k:Nat) (e:(Int×Int×Int×Int)) (h:(zo L 40)[k]?=some e)=>zsO h)
 have HE:=zb hE
 have hel:=hE.2.2.1
 have HBY:=zb hb
 have HQ:=zb hq
 have hmm:=@run_makeMap Tryz.prog
 generalize hEE:zo L 40=E at *
 clear hE hb hq hEE
 go_enter Tryz.func218,Tryz.ntmps218
 go_wp2_with fail
 go_loopw [6,13] (fun v iv wr=>∃ k:Nat,k<=E.length/\iv=.int .i64 k/\Lst exS 2 124 wr (w.heap.size+1) v (QB L (E.take k))/\Mrk wr w.heap.size (E.take k) (mkV L)/\Below w.heap.size w wr) (fun _ iv _=>E.length-(intOf iv).toNat)
 case atStart=>exact⟨0,Nat.zero_le _,rfl,Lst.nil _ _,Mrk.made w _,(Below.refl _ _).alloc (Nat.le_refl _) _⟩
 case round =>
  obtain⟨k,hk,rfl,hown,hmrk,hbel⟩:=hrel
  obtain⟨va,vm,vc,rfl⟩:=hown.shape
  by_cases hlt:k<E.length
  ·have hne:E≠[]:=by intro e;rw [e] at hlt;simp at hlt
   obtain⟨b1,o1,rfl,hc1⟩:=((za HE).below hbel).2.2.2 hne
   obtain⟨e,he⟩:∃ e,E[k]?=some e:=⟨E[k],List.getElem?_eq_getElem hlt⟩
   obtain⟨q0,q1,q2,q3⟩:=Sls.ent (cap:=0) hc1 he
   obtain⟨j,hj,htj,hej,htk⟩:=za HAT k e he
   have hin:InI (zpK e):=by rw [hej];exact zsJ (za HBY) (by omega) (by omega) (by omega)
   have hwv:zgz L e (QB L (E.take k))=mkV L e.1:=by
    rw [htk,hej]
    exact ztM (za HBY) (za HQ) hj htj
   have he1:-9223372036854775808<=e.1/\e.1<=9223372036854775807:=by rw [hej];show _<=(j:Int)+1/\(j:Int)+1<=_;omega
   have htake:E.take (k+1)=E.take k++[e]:=by rw [List.take_add_one,he];rfl
   have hone:=ztL (L:=L) (e:=e) (T:=QB L (E.take k))
   have hmi:=zA0 L e.1
   have HY:=zb (fun h=>zn7 (L:=L) (E:=E.take k) (e:=e) h)
   have HNO:=zb (fun h=>zqb (L:=L) (E:=E.take k) (e:=e) h)
   have HTA:=zb htake
   have htl:(QB L (E.take k)).length<=40:=Nat.le_trans (zn8 _ _) (by rw [List.length_take];have:=za HEL;omega)
   have hekl:(E.take k).length<=300:=by rw [List.length_take];have:=za HEL;omega
   have hb1:Below w.heap.size w (wr.alloc (.cells #[.int .i64 e.1,.int .i64 e.2.1,.int .i64 e.2.2.1,.int .i64 e.2.2.2] 126)):=hbel.alloc hbel.size _
   have hbA:Below wr.heap.size wr (wr.alloc (.cells #[.int .i64 e.1,.int .i64 e.2.1,.int .i64 e.2.2.1,.int .i64 e.2.2.2] 126)):=(Below.refl _ _).alloc (Nat.le_refl _) _
   have hen:=EnB.new wr e
   have hown1:=hown.below hbA
   have hold:=hown.old
   have hmrk1:=hmrk.below hbA
   have hml:=hmrk.lt
   have HW:=zb (znY L e (w.heap.size+1) _ _ _ (by omega) hin hown1 (by omega))
   rw [hwv] at HW hone
   unfold zgF at HW
   have HB1:=zb hb1
   have HEN:=zb hen
   have HO1:=zb hown1
   have HM1:=zb hmrk1
   clear hown hmrk hbel hc1 hne hwv hej htk htj hj htake hb1 hbA hen hown1 hmrk1
   have HMV:Hid (∀ (W:World),Mrk W w.heap.size (E.take k) (mkV L)->∃ w',(Instr.mapUpdate 303 (.map (some w.heap.size)) (.int .i64 e.1) (.int .i64 (mkV L e.1))).run Tryz.prog W=.ok () w'/\Mrk w' w.heap.size (E.take (k+1)) (mkV L)/\W.mapTurned w' w.heap.size):=zb (fun W hM=>by
    rw [za HTA]
    exact hM.store hekl e he1 hmi)
   generalize mkV L e.1=c at *
   obtain⟨x,a,l,t⟩:=e
   dsimp only at *
   clear he
   by_cases hc:c=1
   ·subst hc
    have HT2:Hid (QB L (E.take (k+1))=QB L (E.take k)):=zb (by rw [za HTA];exact za HNO (hone.1 rfl))
    clear hone HY HNO hin hold
    go_wp2_with fail
    refine(za HW).mono ?_
    rintro e' w1 ⟨rfl,hb1⟩
    obtain⟨w2,hst,hm2,htn⟩:=za HMV w1 ((za HM1).below hb1)
    have hen1:=(za HEN).below hb1 (by simp)
    obtain⟨c0,c1,c2,c3⟩:=hen1.cells
    have hB1:=(za HB1).trans (hb1.mono (za HB1).size)
    have HB2:=zb (hB1.grown htn.grown hB1.size (fun j hj=>by cases hj;exact Nat.le_refl _))
    have HO2:=zb (((za HO1).below hb1).turned htn (Nat.lt_succ_self _))
    have HM2:=zb hm2
    dsimp only at c0 c1 c2 c3
    clear hb1 hen1 hB1 hm2 htn HB1 HM1 HO1 HW HMV HEN
    go_wp2
    go_roundw
    case rel=>exact⟨k+1,by omega,by go_num,by rw [za HT2];exact za HO2,za HM2,za HB2⟩
    case measure=>simp [intOf];omega
   ·have hp0:Za L (x,a,l,t)=0:=Classical.byContradiction fun h=>hc (hone.2 h)
    have HT2:Hid (QB L (E.take (k+1))=QB L (E.take k)++[ztA (a,l)]):=zb (by rw [za HTA];exact za HY hp0)
    have hval:exS (ztA (a,l))=[.int .i64 a,.int .i64 l]:=by unfold exS exC;rw [zna (show InI (a,l) from hin)]
    have hc':(c != 1)=true:=bne_iff_ne.2 hc
    clear hone HY HNO hin hp0
    go_wp2_with fail
    refine(za HW).mono ?_
    rintro e' w1 ⟨rfl,hb1⟩
    have hen1:=(za HEN).below hb1 (by simp)
    obtain⟨c0,c1,c2,c3⟩:=hen1.cells
    have hB1:=(za HB1).trans (hb1.mono (za HB1).size)
    have hbA:Below w1.heap.size w1 (w1.alloc (.cells #[.int .i64 a,.int .i64 l] 124)):=(Below.refl _ _).alloc (Nat.le_refl _) _
    have HO2:=zb (((za HO1).below hb1).below hbA)
    have HM2:=zb (((za HM1).below hb1).below hbA)
    have HEN2:=zb (hen1.below hbA hen1.lt)
    have HB2:=zb (hB1.trans (hbA.mono hB1.size))
    have HGN:Hid ((w1.alloc (.cells #[.int .i64 a,.int .i64 l] 124)).heap[w1.heap.size]?=some (.cells (exS (ztA (a,l))).toArray 124 (0,0))):=zb (by rw [hval];exact heap_alloc_new w1 _)
    have hs1:w.heap.size+1<=w1.heap.size:=by have:=hb1.size;simp at this;omega
    dsimp only at c0 c1 c2 c3
    clear hb1 hen1 hB1 HB1 HM1 HO1 HW HEN hbA hval
    go_wp2_with (at_builtin;refine zdh rfl _ _ 96 rfl (w.heap.size+1) i0 (.agg #[.int .i64 0,.int .i64 0]) 16 Tryz.underlying96 hi0 hz0 hz1 hz2 rfl (by decide) (by decide) _ _ rfl (za HO2) w1.heap.size (ztA (a,l)) rfl (za HGN) rfl (zy5 _) (by omega) (by simp;omega) ?_)
    intro v9 w9 hown9 hbel9 hkeep
    obtain⟨w10,hst,hm10,htn⟩:=za HMV w9 ((za HM2).same (hbel9.block _ (Nat.lt_succ_self _)))
    have hen9:EnB w9 wr.heap.size (x,a,l,t):=(hkeep _ (by have:=(za HEN2).lt;rw [qF] at this;exact this) (fun e=>by have:=hold _ e;omega)).trans (za HEN2)
    obtain⟨d0,d1,d2,d3⟩:=hen9.cells
    dsimp only at d0 d1 d2 d3
    have hB9:=(za HB2).trans (hbel9.mono (Nat.le_succ _))
    have HB10:=zb (hB9.grown htn.grown hB9.size (fun j hj=>by cases hj;exact Nat.le_refl _))
    have HO10:=zb (hown9.turned htn (Nat.lt_succ_self _))
    have HM10:=zb hm10
    obtain⟨a9,m9,c9,rfl⟩:=hown9.shape
    clear hown9 hbel9 hkeep hen9 hB9 hm10 htn HB2 HM2 HO2 HMV HEN2 HGN hold c0 c1 c2 c3
    go_wp2
    go_roundw
    case rel=>exact⟨k+1,by omega,by go_num,by rw [za HT2];exact za HO10,za HM10,za HB10⟩
    case measure=>simp [intOf];omega
  ·obtain rfl:k=E.length:=by omega
   rw [List.take_length] at hmrk
   have HM:=zb hmrk
   have HBEL:=zb hbel
   clear hown hmrk hbel
   go_wp2
   go_ret
   exact⟨rfl,za HM,za HBEL⟩
end Go.Proofs.YtchmlnmhbfaclaaGreatDoor
namespace Go.Proofs.YtchmlnmhbfaclaaGreatDoor
open Go.RowKit Go.MapKept Go.ChangeMaps
set_option linter.unusedVariables false
theorem zgu{L:List Int}{z:Int}:(zo L 40).any (fun e=>e.1 == z)=(zaT z && (zg L z != 0)):=by
 have hiff:(zo L 40).any (fun e=>e.1 == z)=true ↔ (zaT z && (zg L z != 0))=true:=by
  rw [List.any_eq_true,Bool.and_eq_true,bne_iff_ne,zm]
  constructor
  ·rintro ⟨e,he,hz⟩
   obtain⟨j,hj,ht,rfl⟩:=zb5.1 he
   have hz':(j:Int)+1=z:=by
    have:=(beq_iff_eq.1 hz)
    exact this
   subst hz'
   exact⟨by omega,ht⟩
  ·rintro ⟨⟨h1,h2⟩,ht⟩
   obtain⟨n,rfl⟩:∃ n:Nat,z=(n:Int)+1:=⟨(z-1).toNat,by omega⟩
   exact⟨ze L ((n:Int)+1),zb5.2 ⟨n,by omega,ht,rfl⟩,beq_iff_eq.2 rfl⟩
 cases h3:(zo L 40).any (fun e=>e.1 == z) <;> cases h4:(zaT z && (zg L z != 0))
 ·rfl
 ·rw [h3,h4] at hiff;simp at hiff
 ·rw [h3,h4] at hiff;simp at hiff
 ·rfl
def zlb(L:List Int)(h:Int):List Int:=(L.drop (plc h)).take 5
theorem zj4{l:List Int}:zj l=false ↔ ∀ j,j<l.length->l.getD j 0=0:=by
 unfold zj
 rw [List.any_eq_false]
 constructor
 ·intro h j hj
  have:=h l[j] (List.getElem_mem hj)
  have e:l.getD j 0=l[j]:=by simp [List.getD,hj]
  rw [e]
  simpa using this
 ·intro h x hx
  obtain⟨j,hj,rfl⟩:=List.getElem_of_mem hx
  have:=h j hj
  have e:l.getD j 0=l[j]:=by simp [List.getD,hj]
  rw [e] at this
  simp [this]
theorem zuk{L:List Int}{h:Int}(hb:Byt L)(hl:288<=L.length)(h1:1<=h)(h2:h<=40)(ht:zg L h=0):zj (zlb L h)=false ↔ ((ze L h).2.1=0/\(ze L h).2.2.1=0):=by
 have hp:=qx h1 h2
 have hg:∀ j,j<5->(zlb L h).getD j 0=L.getD (plc h+j) 0:=fun j hj=>by
  unfold zlb
  simp [List.getD,hj]
 have hlen:(zlb L h).length=5:=by unfold zlb;simp;omega
 rw [zj4,hlen]
 unfold ze
 dsimp only
 rw [qL _ _ (by omega),qL _ _ (by omega)]
 have b1:=hb.getD (plc h+1)
 have b2:=hb.getD (plc h+1+1)
 have b3:=hb.getD (plc h+3)
 have b4:=hb.getD (plc h+3+1)
 have g0:=hg 0 (by omega)
 have g1:=hg 1 (by omega)
 have g2:=hg 2 (by omega)
 have g3:=hg 3 (by omega)
 have g4:=hg 4 (by omega)
 unfold zg at ht
 rw [Nat.add_zero,ht] at g0
 rw [show plc h+1+1=plc h+2 by omega] at *
 rw [show plc h+3+1=plc h+4 by omega] at *
 constructor
 ·intro hz
  have z1:=hz 1 (by omega)
  have z2:=hz 2 (by omega)
  have z3:=hz 3 (by omega)
  have z4:=hz 4 (by omega)
  omega
 ·intro hz j hj
  match j,hj with
  | 0,_=>exact g0
  | 1,_=>omega
  | 2,_=>omega
  | 3,_=>omega
  | 4,_=>omega
  | j+5,hj=>omega
def wvH(L:List Int)(h:Int):Int:=if zg L h=0 then (if zj (zlb L h)=true then 3 else 0) else mkV L h
theorem zkg{L:List Int}{h:Int}(hb:Byt L)(hl:288<=L.length)(h1:1<=h)(h2:h<=40):Qo L h=if wvH L h=0 then [] else [(wvH L h,h)]:=by
 unfold Qo wvH
 by_cases ht:zg L h=0
 ·rw [if_pos (zcR.2 ht),if_pos ht]
  have hr:=zuk hb hl h1 h2 ht
  by_cases hz:(ze L h).2.1=0/\(ze L h).2.2.1=0
  ·rw [if_pos hz,hr.2 hz];rfl
  ·rw [if_neg hz]
   have:zj (zlb L h)=true:=by
    cases hq:zj (zlb L h) with
    | true=>rfl
    | false=>exact absurd (hr.1 hq) hz
   rw [this];rfl
 ·rw [if_neg (fun e=>ht (zcR.1 e)),if_neg ht]
  unfold mkV
  rcases zhw L h with h0 | h0 | h0 | h0
  ·exact absurd (zcR.1 h0) ht
  ·rw [h0];rfl
  ·rw [h0];rfl
  ·rw [h0];rfl
theorem zyU{L:List Int}{k:Nat}(hb:Byt L)(hl:288<=L.length)(hk:k<40)(h:wvH L ((k:Int)+1)≠0):hFK L (k+1)=hFK L k++[(wvH L ((k:Int)+1),(k:Int)+1)]:=by
 show hFK L k++_=_
 rw [zkg hb hl (by omega) (by omega),if_neg h]
theorem zBn{L:List Int}{k:Nat}(hb:Byt L)(hl:288<=L.length)(hk:k<40)(h:wvH L ((k:Int)+1)=0):hFK L (k+1)=hFK L k:=by
 show hFK L k++_=_
 rw [zkg hb hl (by omega) (by omega),if_pos h,List.append_nil]
set_option maxRecDepth 100000 in
set_option maxHeartbeats 2000000 in
theorem zkq(a:Option Addr)(cap:Nat)(L:List Int)(m:Nat)(w:World)(hbs:Bs w a cap L)(hq:Zi L.length=true)(hm:Mrk w m (zo L 40) (mkV L)) :
  Calls Tryz.prog 220 #[.slice a L.length cap,.map (some m)] w fun r w'=>∃ v,r=.returned v/\Lst flC 2 324 w' w.heap.size v (hFK L 40)/\Below w.heap.size w w':=by
 have hl:=zM.1 hq
 obtain⟨i0,hi0,hz0,hz1,hz2⟩:=info_parts ze0
 have hbl:=hbs.2.2.1
 have HB:=zb hbs
 have HM:=zb hm
 have HY:=zb (fun(k:Nat)=>zyU (L:=L) (k:=k) hbs.1 (by omega))
 have HNO:=zb (fun(k:Nat)=>zBn (L:=L) (k:=k) hbs.1 (by omega))
 clear hbs hm hq
 go_enter Tryz.func220,Tryz.ntmps220
 go_wp2_with fail
 go_loopw [5,6] (fun v hv wr=>∃ k:Nat,k<=40/\hv=.int .i64 ((k:Int)+1)/\Lst flC 2 324 wr w.heap.size v (hFK L k)/\Below w.heap.size w wr) (fun _ hv _=>41-(intOf hv).toNat)
 case atStart=>exact⟨0,by omega,rfl,Lst.nil _ _,Below.refl _ _⟩
 case round =>
  obtain⟨k,hk,rfl,hown,hbel⟩:=hrel
  obtain⟨va,vm,vc,rfl⟩:=hown.shape
  by_cases hlt:k<40
  ·have hlook:=((za HM).below hbel).look ((k:Int)+1) (by omega)
   rw [zgu] at hlook
   unfold zAZ at hlook
   rw [zgu,zm.2 (show 1<=(k:Int)+1/\(k:Int)+1<=40 by omega),Bool.true_and] at hlook
   have HYK:=zb (za HY k hlt)
   have HNK:=zb (za HNO k hlt)
   have HLN:=zb (zf1 L k)
   have HO:=zb hown
   have HBEL:=zb hbel
   have hsz:=hbel.size
   by_cases ht:zg L ((k:Int)+1)=0
   ·have hwv:wvH L ((k:Int)+1)=if zj (zlb L ((k:Int)+1))=true then 3 else 0:=by unfold wvH;rw [if_pos ht]
    have hb0:(zg L ((k:Int)+1) != 0)=false:=by rw [ht];rfl
    rw [hb0,if_neg (by simp)] at hlook
    have HH:=zb (zjK ((k:Int)+1) wr (by omega) (by omega))
    have hpl:=qx (h:=(k:Int)+1) (by omega) (by omega)
    have HP:=zb (fun(W:World) (hW:Below wr.heap.size wr W)=>zm1 a cap L (plc ((k:Int)+1)) 5 W (((za HB).below hbel).below hW) (by omega))
    have HA:=zb (fun(W:World) (a':Option Addr) (c':Nat) (h:Bs W a' c' (zlb L ((k:Int)+1)))=>zfY a' c' _ W h)
    have hrl:(zlb L ((k:Int)+1)).length=5:=by unfold zlb;simp;omega
    rw [hrl] at HA
    clear hown hbel ht hb0 hrl
    rw [hwv] at HYK HNK
    have HRH:Hid ((L.drop (plc ((k:Int)+1))).take 5=zlb L ((k:Int)+1)):=zb rfl
    rw [za HRH] at HP
    generalize zj (zlb L ((k:Int)+1))=R at *
    generalize zlb L ((k:Int)+1)=row at *
    generalize plc ((k:Int)+1)=p at *
    clear hwv
    rw [show((5:Nat):Int)=5 from rfl] at HP
    cases R with
    | true =>
     have HE:Hid (hFK L (k+1)=hFK L k++[(3,(k:Int)+1)]):=zb (za HYK (by simp))
     clear HYK HNK
     go_wp2_with fail
     refine(za HH).mono ?_
     rintro e w1 ⟨rfl,hb1⟩
     have HP1:=zb (za HP w1 hb1)
     have HB1:=zb hb1
     clear hb1 HH HP
     go_wp2_with fail
     refine(za HP1).mono ?_
     rintro e w2 ⟨a2,c2,rfl,hbs2,hb2⟩
     have HA2:=zb (za HA w2 a2 c2 hbs2)
     have hB2:=(za HB1).trans (hb2.mono (za HB1).size)
     have HO4:=zb ((za HO).below hB2)
     have HB4:=zb ((za HBEL).trans (hB2.mono (za HBEL).size))
     clear hb2 hbs2 hB2 HP1 HB1 HA HO HBEL
     go_wp2_with fail
     refine(za HA2).mono ?_
     rintro e w3 ⟨rfl,hw3⟩
     subst hw3
     clear HA2
     have hbA:Below w2.heap.size w2 (w2.alloc (.cells #[.int .i64 3,.int .i64 ((k:Int)+1)] 324)):=(Below.refl _ _).alloc (Nat.le_refl _) _
     have HOA:=zb ((za HO4).below hbA)
     have HBA:=zb ((za HB4).trans (hbA.mono (za HB4).size))
     have HGN:Hid ((w2.alloc (.cells #[.int .i64 3,.int .i64 ((k:Int)+1)] 324)).heap[w2.heap.size]?=some (.cells (flC (3,(k:Int)+1)).toArray 324 (0,0))):=zb (heap_alloc_new w2 _)
     have hs4:=(za HB4).size
     clear hbA HO4 HB4
     go_wp2_with (at_builtin;refine zr rfl _ _ 276 rfl w.heap.size i0 (.agg #[.int .i64 0,.int .i64 0]) 16 Tryz.underlying276 hi0 hz0 hz1 hz2 rfl (by decide) (by decide) _ _ rfl (za HOA) w2.heap.size (3,(k:Int)+1) rfl (za HGN) rfl (zel _) (Nat.le_trans (za HLN) (by omega)) (by simp;omega) ?_)
     intro v9 w9 hown9 hbel9
     have HO9:=zb hown9
     have HB9:=zb ((za HBA).trans hbel9)
     obtain⟨a9,m9,c9,rfl⟩:=hown9.shape
     clear hown9 hbel9 HOA HBA HGN
     go_wp2
     go_roundw
     case rel=>exact⟨k+1,by omega,by go_num,by rw [za HE];exact za HO9,za HB9⟩
     case measure=>simp [intOf];omega
    | false =>
     have HE:Hid (hFK L (k+1)=hFK L k):=zb (za HNK (by simp))
     clear HYK HNK
     go_wp2_with fail
     refine(za HH).mono ?_
     rintro e w1 ⟨rfl,hb1⟩
     have HP1:=zb (za HP w1 hb1)
     have HB1:=zb hb1
     clear hb1 HH HP
     go_wp2_with fail
     refine(za HP1).mono ?_
     rintro e w2 ⟨a2,c2,rfl,hbs2,hb2⟩
     have HA2:=zb (za HA w2 a2 c2 hbs2)
     have hB2:=(za HB1).trans (hb2.mono (za HB1).size)
     have HO4:=zb ((za HO).below hB2)
     have HB4:=zb ((za HBEL).trans (hB2.mono (za HBEL).size))
     clear hb2 hbs2 hB2 HP1 HB1 HA HO HBEL
     go_wp2_with fail
     refine(za HA2).mono ?_
     rintro e w3 ⟨rfl,hw3⟩
     subst hw3
     clear HA2
     go_wp2
     go_roundw
     case rel=>exact⟨k+1,by omega,by go_num,by rw [za HE];exact za HO4,za HB4⟩
     case measure=>simp [intOf];omega
   ·have hwv:wvH L ((k:Int)+1)=mkV L ((k:Int)+1):=by unfold wvH;rw [if_neg ht]
    have hb0:(zg L ((k:Int)+1) != 0)=true:=bne_iff_ne.2 ht
    rw [hb0,if_pos rfl] at hlook
    rw [hwv] at HYK HNK
    clear hown hbel ht hb0 hwv
    generalize mkV L ((k:Int)+1)=c at *
    by_cases hc:c=0
    ·subst hc
     have HE:Hid (hFK L (k+1)=hFK L k):=zb (za HNK rfl)
     clear HYK HNK
     go_wp2
     go_roundw
     case rel=>exact⟨k+1,by omega,by go_num,by rw [za HE];exact za HO,za HBEL⟩
     case measure=>simp [intOf];omega
    ·have HE:Hid (hFK L (k+1)=hFK L k++[(c,(k:Int)+1)]):=zb (za HYK hc)
     have hc':(c != 0)=true:=bne_iff_ne.2 hc
     have HO4:=HO
     have HB4:=HBEL
     clear HYK HNK HO HBEL
     have hbA:Below wr.heap.size wr (wr.alloc (.cells #[.int .i64 c,.int .i64 ((k:Int)+1)] 324)):=(Below.refl _ _).alloc (Nat.le_refl _) _
     have HOA:=zb ((za HO4).below hbA)
     have HBA:=zb ((za HB4).trans (hbA.mono (za HB4).size))
     have HGN:Hid ((wr.alloc (.cells #[.int .i64 c,.int .i64 ((k:Int)+1)] 324)).heap[wr.heap.size]?=some (.cells (flC (c,(k:Int)+1)).toArray 324 (0,0))):=zb (heap_alloc_new wr _)
     have hs4:=(za HB4).size
     clear hbA HO4 HB4
     go_wp2_with (at_builtin;refine zr rfl _ _ 276 rfl w.heap.size i0 (.agg #[.int .i64 0,.int .i64 0]) 16 Tryz.underlying276 hi0 hz0 hz1 hz2 rfl (by decide) (by decide) _ _ rfl (za HOA) wr.heap.size (c,(k:Int)+1) rfl (za HGN) rfl (zel _) (Nat.le_trans (za HLN) (by omega)) (by simp;omega) ?_)
     intro v9 w9 hown9 hbel9
     have HO9:=zb hown9
     have HB9:=zb ((za HBA).trans hbel9)
     obtain⟨a9,m9,c9,rfl⟩:=hown9.shape
     clear hown9 hbel9 HOA HBA HGN
     go_wp2
     go_roundw
     case rel=>exact⟨k+1,by omega,by go_num,by rw [za HE];exact za HO9,za HB9⟩
     case measure=>simp [intOf];omega
  ·obtain rfl:k=40:=by omega
   have HO:=zb hown
   have HBEL:=zb hbel
   clear hown hbel
   go_wp2
   go_ret
   exact⟨_,rfl,za HO,za HBEL⟩
def zAW(c:Int)(R I:Bool)(v:Int):Bool:=(c != 0) || (R || (!I || (v != 0)))
set_option maxRecDepth 100000 in
set_option maxHeartbeats 2000000 in
theorem zoP(a:Option Addr)(cap:Nat)(r:List Int)(m:Nat)(w:World)(s:ByteArray)(c:Int)(R I:Bool)(v:Int)(hbs:Bs w a cap r)(h11:r.length=11)(hs:(zG (r.take 8)).1=s)(hc:(zG (r.take 8)).2=c)(hR:zj ((r.drop 8).take 2)=R)
  (hlook:∀ W,Below w.heap.size w W->(Instr.lookup 303 (.map (some m)) (.int .i64 (r.getD 10 0)) true).run Tryz.prog W=.ok (.tuple #[.int .i64 v,.bool I]) W) :
  Calls Tryz.prog 277 #[.slice a 11 cap,.map (some m)] w fun e w'=>e=.returned (.tuple #[.string (if zAW c R I v=true then { data:=#[]} else s),.bool (!zAW c R I v)])/\Below w.heap.size w w':=by
 obtain⟨a1,hs1,hb1⟩:=slice_hi (P:=Tryz.prog) (t:=29) Tryz.underlying29 zx hbs 8 (by omega)
 rw [h11,show((8:Nat):Int)=8 from rfl] at hs1
 have h8:(r.take 8).length=8:=by rw [List.length_take];omega
 have HG:=zb (zf4 a1 cap (r.take 8) w hb1)
 rw [h8,hs,hc] at HG
 obtain⟨a2,hs2,hb2⟩:=slice_lohi (P:=Tryz.prog) (t:=29) Tryz.underlying29 zx hbs 8 10 (by omega) (by omega)
 rw [h11,show((8:Nat):Int)=8 from rfl,show((10:Nat):Int)=10 from rfl,show 10-8=2 from rfl] at hs2
 have h2:((r.drop 8).take 2).length=2:=by simp;omega
 have HA:=zb (fun(W:World) (hW:Below w.heap.size w W)=>zfY a2 _ _ W (hb2.below hW))
 rw [hR,h2] at HA
 obtain⟨b,off,rfl,hcell⟩:=hbs.at 10 (by omega)
 have hbd:=hbs.1.getD 10
 have hlt:=block_lt_of_cell hcell
 dsimp only at hlt
 have HL:=zb hlook
 generalize r.getD 10 0=x at *
 clear hlook hb1 hb2 hs hc hR h8 h2 hbs
 unfold zAW
 by_cases h0:c=0
 ·subst h0
  rw [zf] at HG
  have hz:((0:Int) != 0)=false:=rfl
  rw [hz,Bool.false_or]
  cases R with
  | true =>
   rw [Bool.true_or,if_pos rfl,Bool.not_true]
   go_enter Tryz.func277,Tryz.ntmps277
   go_wp2_with fail
   refine(za HG).mono ?_
   rintro e w1 ⟨rfl,hw1⟩
   have hc1:=(hw1.cell (block_lt_of_cell hcell)).trans hcell
   have hk1:=za HL w1 hw1
   have HA1:=zb (za HA w1 hw1)
   have HB1:=zb hw1
   have hl1:b<w1.heap.size:=Nat.lt_of_lt_of_le hlt hw1.size
   clear hw1 HG HL HA hcell hlt
   go_wp2_with (go_at_call 274;refine(za HA1).mono ?_;rintro e w2 ⟨rfl,hw2⟩;subst hw2)
   go_ret2
   exact⟨rfl,za HB1⟩
  | false =>
   rw [Bool.false_or]
   cases I with
   | false =>
    rw [Bool.not_false,Bool.true_or,if_pos rfl,Bool.not_true]
    go_enter Tryz.func277,Tryz.ntmps277
    go_wp2_with fail
    refine(za HG).mono ?_
    rintro e w1 ⟨rfl,hw1⟩
    have hc1:=(hw1.cell (block_lt_of_cell hcell)).trans hcell
    have hk1:=za HL w1 hw1
    have HA1:=zb (za HA w1 hw1)
    have HB1:=zb hw1
    have hl1:b<w1.heap.size:=Nat.lt_of_lt_of_le hlt hw1.size
    clear hw1 HG HL HA hcell hlt
    go_wp2_with (go_at_call 274;refine(za HA1).mono ?_;rintro e w2 ⟨rfl,hw2⟩;subst hw2)
    go_ret2
    exact⟨rfl,za HB1⟩
   | true =>
    rw [Bool.not_true,Bool.false_or]
    by_cases hv:v=0
    ·subst hv
     rw [hz,if_neg (by simp),Bool.not_false]
     go_enter Tryz.func277,Tryz.ntmps277
     go_wp2_with fail
     refine(za HG).mono ?_
     rintro e w1 ⟨rfl,hw1⟩
     have hc1:=(hw1.cell (block_lt_of_cell hcell)).trans hcell
     have hk1:=za HL w1 hw1
     have HA1:=zb (za HA w1 hw1)
     have HB1:=zb hw1
     have hl1:b<w1.heap.size:=Nat.lt_of_lt_of_le hlt hw1.size
     clear hw1 HG HL HA hcell hlt
     go_wp2_with (go_at_call 274;refine(za HA1).mono ?_;rintro e w2 ⟨rfl,hw2⟩;subst hw2)
     go_ret2
     exact⟨rfl,za HB1⟩
    ·have hv':(v != 0)=true:=bne_iff_ne.2 hv
     rw [hv',if_pos rfl,Bool.not_true]
     go_enter Tryz.func277,Tryz.ntmps277
     go_wp2_with fail
     refine(za HG).mono ?_
     rintro e w1 ⟨rfl,hw1⟩
     have hc1:=(hw1.cell (block_lt_of_cell hcell)).trans hcell
     have hk1:=za HL w1 hw1
     have HA1:=zb (za HA w1 hw1)
     have HB1:=zb hw1
     have hl1:b<w1.heap.size:=Nat.lt_of_lt_of_le hlt hw1.size
     clear hw1 HG HL HA hcell hlt
     go_wp2_with (go_at_call 274;refine(za HA1).mono ?_;rintro e w2 ⟨rfl,hw2⟩;subst hw2)
     go_ret2
     exact⟨rfl,za HB1⟩
 ·rw [zh _ h0] at HG
  have hz:(c != 0)=true:=bne_iff_ne.2 h0
  rw [hz,Bool.true_or,if_pos rfl,Bool.not_true]
  clear hz h0
  go_enter Tryz.func277,Tryz.ntmps277
  go_wp2_with fail
  refine(za HG).mono ?_
  rintro e w1 ⟨rfl,hw1⟩
  have hc1:=(hw1.cell (block_lt_of_cell hcell)).trans hcell
  have hk1:=za HL w1 hw1
  have HB1:=zb hw1
  have hl1:b<w1.heap.size:=Nat.lt_of_lt_of_le hlt hw1.size
  clear hw1 HG HL HA hcell hlt
  go_wp2_with fail
  go_ret2
  exact⟨rfl,za HB1⟩
theorem zjB(l:List Int):(zG l).1.size<=l.length:=by
 unfold zG
 split
 ·simp
 ·split
  ·simp
  ·have:(strOf (l.take (zp l))).size=(l.take (zp l)).length:=by
    have h:=strOf_data (l.take (zp l))
    have h2:=congrArg List.length h
    simpa using h2
   rw [this,List.length_take]
   omega
end Go.Proofs.YtchmlnmhbfaclaaGreatDoor
namespace Go.Proofs.YtchmlnmhbfaclaaGreatDoor
open Go.RowKit
set_option linter.unusedVariables false
end Go.Proofs.YtchmlnmhbfaclaaGreatDoor
namespace Go.Proofs.YtchmlnmhbfaclaaGreatDoor
open Go.RowKit Go.MapKept Go.ChangeMaps
set_option linter.unusedVariables false
def NmM(w:World)(m n:Nat)(ns:List ByteArray):Prop :=
 ∃ Dm:DataW Unit,w.ownsMap Tryz.prog 9 (plainElem Tryz.prog 3) m n Dm/\∀ s:ByteArray,Maps.has Dm (.string s.data.toList)=ns.contains s
theorem NmM.made(w:World):NmM (w.alloc (.map #[] 0)) w.heap.size 0 []:=⟨.map [],World.ownsMap_made w _ _ _,fun s=>rfl⟩
theorem NmM.lt{w:World}{m n:Nat}{ns:List ByteArray}(h:NmM w m n ns):m<w.heap.size:=by
 obtain⟨Dm,h1,_⟩:=h
 exact h1.lt
theorem NmM.same{w w':World}{m n:Nat}{ns:List ByteArray}(h:NmM w m n ns)(hs:w'.heap[m]?=w.heap[m]?):NmM w' m n ns:=by
 obtain⟨Dm,⟨es,clock,hb,r⟩,h2⟩:=h
 exact⟨Dm,⟨es,clock,hs.trans hb,r⟩,h2⟩
theorem NmM.below{w w':World}{m n:Nat}{ns:List ByteArray}(h:NmM w m n ns)(hb:Below w.heap.size w w'):NmM w' m n ns:=h.same (hb.block m h.lt)
theorem NmM.look{w:World}{m n:Nat}{ns:List ByteArray}(h:NmM w m n ns)(s:ByteArray)(hs:s.size<=maxLen) :
  ∃ v,(Instr.lookup 371 (.map (some m)) (.string s) true).run Tryz.prog w=.ok (.tuple #[.int .i64 v,.bool (ns.contains s)]) w:=by
 obtain⟨Dm,h1,h2⟩:=h
 have hkey:=WideMaps.keyOf_string_mk (P:=Tryz.prog) Tryz.underlying9 hs
 obtain⟨v,ps,hrun,hv⟩:=h1.look_ok (Maps.string_keyed Tryz.underlying9) Tryz.underlying371 (zmp w) (plainElem_int Tryz.underlying3 (a:=0) (by decide)) hkey
 obtain⟨a,rfl,_⟩:=plainElem_int_inv Tryz.underlying3 hv
 exact⟨a,by rw [hrun,h2 s]⟩
theorem NmM.store{w:World}{m n:Nat}{ns ns':List ByteArray}(h:NmM w m n ns)(s:ByteArray)(i:Int)(hs:s.size<=maxLen)(hn:n<=300)(hi:-9223372036854775808<=i/\i<=9223372036854775807)(hns:∀ t,ns'.contains t=(ns.contains t || (t == s))) :
  ∃ w',(Instr.mapUpdate 371 (.map (some m)) (.string s) (.int .i64 i)).run Tryz.prog w=.ok () w'/\NmM w' m (n+1) ns'/\w.mapTurned w' m:=by
 obtain⟨Dm,h1,h2⟩:=h
 have hkey:=WideMaps.keyOf_string_mk (P:=Tryz.prog) Tryz.underlying9 hs
 obtain⟨w',hrun,hown',ht⟩:=h1.store (Maps.string_keyed Tryz.underlying9) Tryz.underlying371 (by unfold maxLen;omega) hkey (plainElem_int Tryz.underlying3 (a:=i) (WalkArith.wf_i64 hi))
 have hlit:WideAt.IsKeyLit (.string s.data.toList):=(Maps.string_keyed Tryz.underlying9).key hkey
 refine⟨w',hrun,⟨_,hown',fun t=>?_⟩,ht⟩
 rw [hns t]
 by_cases hj:t=s
 ·subst hj
  rw [Maps.has_put_same h1.isMap hlit,zcm.2 rfl,Bool.or_true]
 ·have hne:Lit.string t.data.toList≠Lit.string s.data.toList:=by
   intro e;simp only [Lit.string.injEq] at e;exact hj (zqe e)
  have e0:(t == s)=false:=by
   cases hq:(t == s) with
   | false=>rfl
   | true=>exact absurd (zcm.1 hq) hj
  rw [Maps.has_put_other hne,h2 t,e0,Bool.or_false]
theorem zrx{L:List Int}{i:Nat}(hq:Zi L.length=true)(hi:i<8) :
  zAW (zG ((rowAt L i).take 8)).2 (zj (((rowAt L i).drop 8).take 2)) ((zo L 40).any (fun e=>e.1 == (rowAt L i).getD 10 0)) (zAZ (zo L 40) (mkV L) ((rowAt L i).getD 10 0))=ziJ L i:=by
 have hl:=zM.1 hq
 have h11:(rowAt L i).length=11:=zu (by omega)
 have hR:zj (((rowAt L i).drop 8).take 2)=(decide ((rowAt L i).getD 8 0≠0) || decide ((rowAt L i).getD 9 0≠0)):=by
  have hlen:(((rowAt L i).drop 8).take 2).length=2:=by simp;omega
  have hg:∀ j,j<2->(((rowAt L i).drop 8).take 2).getD j 0=(rowAt L i).getD (8+j) 0:=fun j hj=>by
   simp [List.getD,hj]
  have hz:=zj4 (l:=((rowAt L i).drop 8).take 2)
  rw [hlen] at hz
  have g0:=hg 0 (by omega)
  have g1:=hg 1 (by omega)
  rw [Nat.add_zero] at g0
  cases hr:zj (((rowAt L i).drop 8).take 2) with
  | false =>
   have h0:=hz.1 hr 0 (by omega)
   have h1:=hz.1 hr 1 (by omega)
   rw [g0] at h0
   rw [g1] at h1
   rw [h0,h1];rfl
  | true =>
   symm
   rw [Bool.or_eq_true,decide_eq_true_iff,decide_eq_true_iff]
   refine Classical.byContradiction fun hn=>?_
   have h8:(rowAt L i).getD 8 0=0:=Classical.byContradiction fun h=>hn (.inl h)
   have h9:(rowAt L i).getD 9 0=0:=Classical.byContradiction fun h=>hn (.inr h)
   have:zj (((rowAt L i).drop 8).take 2)=false:=hz.2 (fun j hj=>by
    match j,hj with
    | 0,_=>rw [g0];exact h8
    | 1,_=>rw [g1];exact h9
    | j+2,hj=>omega)
   rw [this] at hr
   cases hr
 unfold zAW ziJ zAZ
 rw [hR,zgu]
 generalize (rowAt L i).getD 10 0=x
 have e1:∀ c:Int,(c != 0)=decide (c≠0):=fun c=>by
  by_cases h:c=0
  ·subst h;rfl
  ·rw [bne_iff_ne.2 h,decide_eq_true h]
 rw [e1,Bool.or_assoc]
 congr 3
 have hw1:=zav (b:=L) (h:=x)
 have hw0:=zcR (b:=L) (h:=x)
 have hwc:=zhw L x
 cases zaT x with
 | false=>rfl
 | true =>
  rw [Bool.true_and,Bool.not_true,Bool.false_or]
  by_cases ht:zg L x=0
  ·have:whE L x≠1:=by rw [hw0.2 ht];decide
   rw [ht,decide_eq_true this];rfl
  ·rw [bne_iff_ne.2 ht,if_pos rfl,Bool.not_true,Bool.false_or,e1]
   unfold mkV
   rcases hwc with h | h | h | h
   ·exact absurd (hw0.1 h) ht
   ·rw [h];rfl
   ·rw [h];rfl
   ·rw [h];rfl
theorem zoQ(a:Option Addr)(cap:Nat)(L:List Int)(i m:Nat)(w:World)(hbs:Bs w a cap (rowAt L i))(hq:Zi L.length=true)(hi:i<8)(hm:Mrk w m (zo L 40) (mkV L)) :
  Calls Tryz.prog 277 #[.slice a 11 cap,.map (some m)] w fun e w'=>e=.returned (.tuple #[.string (if ziJ L i=true then { data:=#[]} else nameAt L i),.bool (!ziJ L i)])/\Below w.heap.size w w':=by
 have hl:=zM.1 hq
 rw [<- zrx hq hi]
 have hbd:=hbs.1.getD 10
 exact zoP a cap (rowAt L i) m w _ _ _ _ _ hbs (zu (by omega)) rfl rfl rfl (fun W hW=>(hm.below hW).look _ (by omega))
theorem zAB{L:List Int}{k:Nat}(h:qN L k=[]):rFK L (k+1)=rFK L k:=by
 show rFK L k++_=_
 rw [h,List.append_nil]
theorem zx6{L:List Int}{k:Nat}{f:Int×Int}(h:qN L k=[f]):rFK L (k+1)=rFK L k++[f]:=by
 show rFK L k++_=_
 rw [h]
theorem zyi{L:List Int}{k:Nat}(h:qY L k (qZ L k)=false):qZ L (k+1)=qZ L k:=by
 show qZ L k++_=_
 rw [h,if_neg (by simp),List.append_nil]
theorem zuP{L:List Int}{k:Nat}(h:qY L k (qZ L k)=true):qZ L (k+1)=qZ L k++[nameAt L k]:=by
 show qZ L k++_=_
 rw [if_pos h]
theorem Lst.base{α:Type}{enc:α->List Value}{k T:Nat}{w:World}{B B':Nat}{v:Value}{l:List α}(h:Lst enc k T w B v l)(hb:B'<=B):Lst enc k T w B' v l:=by
 refine⟨h.1,?_⟩
 rcases h.2 with h0 | ⟨g,cap,cur,rfl,hB,hc,h3⟩
 ·exact .inl h0
 ·exact .inr ⟨g,cap,cur,rfl,by omega,hc,h3⟩
theorem NmM.more{w:World}{m n n':Nat}{ns:List ByteArray}(h:NmM w m n ns)(hn:n<=n'):NmM w m n' ns:=by
 obtain⟨Dm,⟨es,clock,hb,F,hs,r⟩,h2⟩:=h
 exact⟨Dm,⟨es,clock,hb,F,by omega,r⟩,h2⟩
theorem zzf{ns:List ByteArray}{s t:ByteArray}(h:ns.contains s=true):ns.contains t=(ns.contains t || (t == s)):=by
 by_cases e:t=s
 ·subst e;rw [h];rfl
 ·have e0:(t == s)=false:=by
   cases hq:(t == s) with
   | false=>rfl
   | true=>exact absurd (zcm.1 hq) e
  rw [e0,Bool.or_false]
theorem zv7{ns:List ByteArray}{s t:ByteArray}:(ns++[s]).contains t=(ns.contains t || (t == s)):=by
 haveI:=zgr
 rw [List.contains_eq_any_beq,List.contains_eq_any_beq,List.any_append,List.any_cons,List.any_nil,Bool.or_false]
set_option maxRecDepth 100000 in
set_option maxHeartbeats 4000000 in
theorem zpj(a:Option Addr)(cap:Nat)(L:List Int)(m:Nat)(w:World)(hbs:Bs w a cap L)(hq:Zi L.length=true)(hm:Mrk w m (zo L 40) (mkV L)) :
  Calls Tryz.prog 221 #[.slice a L.length cap,.map (some m)] w fun r w'=>∃ v,r=.returned v/\Lst flC 2 324 w' w.heap.size v (rFK L 8)/\Below w.heap.size w w':=by
 have hl:=zM.1 hq
 obtain⟨i0,hi0,hz0,hz1,hz2⟩:=info_parts ze0
 have hbl:=hbs.2.2.1
 have HB:=zb hbs
 have HM:=zb hm
 have HQ:=zb hq
 have hmm:=@run_makeMap Tryz.prog
 clear hbs hm hq
 go_enter Tryz.func221,Tryz.ntmps221
 go_wp2_with fail
 go_loopw [5,14] (fun v iv wr=>∃ k:Nat,k<=8/\iv=.int .i64 (k:Int)/\Lst flC 2 324 wr (w.heap.size+1) v (rFK L k)/\NmM wr w.heap.size k (qZ L k)/\Below w.heap.size w wr) (fun _ iv _=>8-(intOf iv).toNat)
 case atStart=>exact⟨0,by omega,rfl,Lst.nil _ _,NmM.made w,(Below.refl _ _).alloc (Nat.le_refl _) _⟩
 case round =>
  obtain⟨k,hk,rfl,hown,hnm,hbel⟩:=hrel
  obtain⟨va,vm,vc,rfl⟩:=hown.shape
  by_cases hlt:k<8
  ·have HLN:=zb (zfB L k)
   have HO:=zb hown
   have HNN:=zb hnm
   have HBEL:=zb hbel
   have HH:=zb (zg1 k wr hlt)
   have HP:=zb (fun(W:World) (hW:Below wr.heap.size wr W)=>zm1 a cap L (200+11 * k) 11 W (((za HB).below hbel).below hW) (by omega))
   have HA:=zb (fun(W:World) (a':Option Addr) (c':Nat) (h:Bs W a' c' (rowAt L k))=>zfY a' c' _ W h)
   have HNAME:=zb (fun(W:World) (a':Option Addr) (c':Nat) (h:Bs W a' c' (rowAt L k)) (hW:Below wr.heap.size wr W)=>zoQ a' c' L k m W h (za HQ) hlt (((za HM).below hbel).below hW))
   have hrl:(rowAt L k).length=11:=zu (by omega)
   rw [hrl] at HA
   have HRH:Hid ((L.drop (200+11 * k)).take 11=rowAt L k):=zb rfl
   rw [za HRH,show((11:Nat):Int)=11 from rfl] at HP
   clear HRH hrl hown hnm hbel
   have hns:(nameAt L k).size<=maxLen:=by
    have:=zjB ((rowAt L k).take 8)
    unfold nameAt
    rw [List.length_take] at this
    unfold maxLen
    omega
   have hfr:qN L k=if zj (rowAt L k)=false then [] else if ziJ L k=true then [(4,(k:Int))] else if (qZ L k).contains (nameAt L k)=true then [(5,(k:Int))] else []:=rfl
   have hfi:qY L k (qZ L k)=(zj (rowAt L k) && (!ziJ L k && !(qZ L k).contains (nameAt L k))):=rfl
   have HF0:=zb (fun h=>zAB (L:=L) (k:=k) h)
   have HF1:=zb (fun f h=>zx6 (L:=L) (k:=k) (f:=f) h)
   have HK0:=zb (fun h=>zyi (L:=L) (k:=k) h)
   have HK1:=zb (fun h=>zuP (L:=L) (k:=k) h)
   rw [hfr] at HF0 HF1
   rw [hfi] at HK0 HK1
   clear hfr hfi
   have HCI:=zb (fun t=>zzf (ns:=qZ L k) (s:=nameAt L k) (t:=t))
   generalize hcq:(qZ L k).contains (nameAt L k)=C at *
   have HCQ:=zb hcq
   clear hcq
   generalize zj (rowAt L k)=R at *
   generalize ziJ L k=D at *
   generalize rowAt L k=row at *
   generalize 200+11 * k=p at *
   cases R with
   | false =>
    have HE:Hid (rFK L (k+1)=rFK L k):=zb (za HF0 rfl)
    have HG:Hid (qZ L (k+1)=qZ L k):=zb (za HK0 rfl)
    clear HF0 HF1 HK0 HK1 HCI HCQ
    go_wp2_with fail
    refine(za HH).mono ?_
    rintro e w1 ⟨rfl,hb1⟩
    have HP1:=zb (za HP w1 hb1)
    have HB1:=zb hb1
    clear hb1 HH HP
    go_wp2_with fail
    refine(za HP1).mono ?_
    rintro e w2 ⟨a2,c2,rfl,hbs2,hb2⟩
    have HA2:=zb (za HA w2 a2 c2 hbs2)
    have hB2:=(za HB1).trans (hb2.mono (za HB1).size)
    have HNM:=zb (za HNAME w2 a2 c2 hbs2 hB2)
    have HO4:=zb ((za HO).below hB2)
    have HN4:=zb ((za HNN).below hB2)
    have HB4:=zb ((za HBEL).trans (hB2.mono (za HBEL).size))
    clear hb2 hbs2 hB2 HP1 HB1 HA HO HBEL HNN HNAME
    go_wp2_with (go_at_call 274;refine(za HA2).mono ?_;rintro e w3 ⟨rfl,hw3⟩;subst hw3)
    go_roundw
    case rel=>exact⟨k+1,by omega,by go_num,by rw [za HE];exact za HO4,by rw [za HG];exact(za HN4).more (Nat.le_succ _),za HB4⟩
    case measure=>simp [intOf];omega
   | true =>
    cases D with
    | true =>
     have HE:Hid (rFK L (k+1)=rFK L k++[(4,(k:Int))]):=zb (za HF1 _ rfl)
     have HG:Hid (qZ L (k+1)=qZ L k):=zb (za HK0 rfl)
     clear HF0 HF1 HK0 HK1 HCI HCQ
     go_wp2_with fail
     refine(za HH).mono ?_
     rintro e w1 ⟨rfl,hb1⟩
     have HP1:=zb (za HP w1 hb1)
     have HB1:=zb hb1
     clear hb1 HH HP
     go_wp2_with fail
     refine(za HP1).mono ?_
     rintro e w2 ⟨a2,c2,rfl,hbs2,hb2⟩
     have HA2:=zb (za HA w2 a2 c2 hbs2)
     have hB2:=(za HB1).trans (hb2.mono (za HB1).size)
     have HNM:=zb (za HNAME w2 a2 c2 hbs2 hB2)
     have HO4:=zb ((za HO).below hB2)
     have HN4:=zb ((za HNN).below hB2)
     have HB4:=zb ((za HBEL).trans (hB2.mono (za HBEL).size))
     clear hb2 hbs2 hB2 HP1 HB1 HA HO HBEL HNN HNAME
     go_wp2_with (go_at_call 274;refine(za HA2).mono ?_;rintro e w3 ⟨rfl,hw3⟩;subst hw3)
     refine(za HNM).mono ?_
     rintro e w5 ⟨rfl,hb5⟩
     have HO5:=zb ((za HO4).below hb5)
     have HN5:=zb ((za HN4).below hb5)
     have HB5:=zb ((za HB4).trans (hb5.mono (za HB4).size))
     clear HO4 HN4 HB4 hb5 HNM HA2
     have HO4:=HO5
     have HN4:=HN5
     have HB4:=HB5
     clear HO5 HN5 HB5
     have hbA:Below w5.heap.size w5 (w5.alloc (.cells #[.int .i64 4,.int .i64 (k:Int)] 324)):=(Below.refl _ _).alloc (Nat.le_refl _) _
     have HOA:=zb ((za HO4).below hbA)
     have HNA:=zb ((za HN4).below hbA)
     have HBA:=zb ((za HB4).trans (hbA.mono (za HB4).size))
     have HGN:Hid ((w5.alloc (.cells #[.int .i64 4,.int .i64 (k:Int)] 324)).heap[w5.heap.size]?=some (.cells (flC (4,(k:Int))).toArray 324 (0,0))):=zb (heap_alloc_new w5 _)
     have hs4:=(za HN4).lt
     clear hbA HO4 HB4 HN4
     go_wp2_with (at_builtin;refine zr rfl _ _ 276 rfl (w.heap.size+1) i0 (.agg #[.int .i64 0,.int .i64 0]) 16 Tryz.underlying276 hi0 hz0 hz1 hz2 rfl (by decide) (by decide) _ _ rfl (za HOA) w5.heap.size (4,(k:Int)) rfl (za HGN) rfl (zel _) (Nat.le_trans (za HLN) (by omega)) (by simp;omega) ?_)
     intro v9 w9 hown9 hbel9
     have hn9:=(za HNA).same (hbel9.block _ (Nat.lt_succ_self _))
     have hB9:=(za HBA).trans (hbel9.mono (Nat.le_succ _))
     have HO9:=zb hown9
     have HN9:=zb hn9
     have HB9:=zb hB9
     obtain⟨a9,m9,c9,rfl⟩:=hown9.shape
     clear hown9 hbel9 hn9 hB9 HOA HBA HNA HGN
     go_wp2
     go_roundw
     case rel=>exact⟨k+1,by omega,by go_num,by rw [za HE];exact za HO9,by rw [za HG];exact(za HN9).more (Nat.le_succ _),za HB9⟩
     case measure=>simp [intOf];omega
    | false =>
     cases C with
     | true =>
      have HE:Hid (rFK L (k+1)=rFK L k++[(5,(k:Int))]):=zb (za HF1 _ rfl)
      have HG:Hid (qZ L (k+1)=qZ L k):=zb (za HK0 rfl)
      have HST:=zb (fun(W:World) (h:NmM W w.heap.size k (qZ L k))=>h.store (ns':=qZ L k) (nameAt L k) k hns (by omega) (by omega) (fun t=>za HCI t rfl))
      have HLK:=zb (fun(W:World) (h:NmM W w.heap.size k (qZ L k))=>h.look (nameAt L k) hns)
      rw [za HCQ] at HLK
      clear HF0 HF1 HK0 HK1 HCI HCQ
      generalize nameAt L k=name at *
      go_wp2_with fail
      refine(za HH).mono ?_
      rintro e w1 ⟨rfl,hb1⟩
      have HP1:=zb (za HP w1 hb1)
      have HB1:=zb hb1
      clear hb1 HH HP
      go_wp2_with fail
      refine(za HP1).mono ?_
      rintro e w2 ⟨a2,c2,rfl,hbs2,hb2⟩
      have HA2:=zb (za HA w2 a2 c2 hbs2)
      have hB2:=(za HB1).trans (hb2.mono (za HB1).size)
      have HNM:=zb (za HNAME w2 a2 c2 hbs2 hB2)
      have HO4:=zb ((za HO).below hB2)
      have HN4:=zb ((za HNN).below hB2)
      have HB4:=zb ((za HBEL).trans (hB2.mono (za HBEL).size))
      clear hb2 hbs2 hB2 HP1 HB1 HA HO HBEL HNN HNAME
      go_wp2_with (go_at_call 274;refine(za HA2).mono ?_;rintro e w3 ⟨rfl,hw3⟩;subst hw3)
      refine(za HNM).mono ?_
      rintro e w5 ⟨rfl,hb5⟩
      have HO5:=zb ((za HO4).below hb5)
      have HN5:=zb ((za HN4).below hb5)
      have HB5:=zb ((za HB4).trans (hb5.mono (za HB4).size))
      clear HO4 HN4 HB4 hb5 HNM HA2
      have HO4:=HO5
      have HN4:=HN5
      have HB4:=HB5
      clear HO5 HN5 HB5
      obtain⟨lv,hlk⟩:=za HLK w5 (za HN4)
      have hbA:Below w5.heap.size w5 (w5.alloc (.cells #[.int .i64 5,.int .i64 (k:Int)] 324)):=(Below.refl _ _).alloc (Nat.le_refl _) _
      have HOA:=zb ((za HO4).below hbA)
      have HNA:=zb ((za HN4).below hbA)
      have HBA:=zb ((za HB4).trans (hbA.mono (za HB4).size))
      have HGN:Hid ((w5.alloc (.cells #[.int .i64 5,.int .i64 (k:Int)] 324)).heap[w5.heap.size]?=some (.cells (flC (5,(k:Int))).toArray 324 (0,0))):=zb (heap_alloc_new w5 _)
      have hs4:=(za HN4).lt
      clear hbA HO4 HB4 HN4
      go_wp2_with (at_builtin;refine zr rfl _ _ 276 rfl (w.heap.size+1) i0 (.agg #[.int .i64 0,.int .i64 0]) 16 Tryz.underlying276 hi0 hz0 hz1 hz2 rfl (by decide) (by decide) _ _ rfl (za HOA) w5.heap.size (5,(k:Int)) rfl (za HGN) rfl (zel _) (Nat.le_trans (za HLN) (by omega)) (by simp;omega) ?_)
      intro v9 w9 hown9 hbel9
      have hn9:=(za HNA).same (hbel9.block _ (Nat.lt_succ_self _))
      have hB9:=(za HBA).trans (hbel9.mono (Nat.le_succ _))
      obtain⟨w10,hst,hn10,htn⟩:=za HST w9 hn9
      have HB10:=zb (hB9.grown htn.grown hB9.size (fun j hj=>by cases hj;exact Nat.le_refl _))
      have HO10:=zb (hown9.turned htn (Nat.lt_succ_self _))
      have HN10:=zb hn10
      obtain⟨a9,m9,c9,rfl⟩:=hown9.shape
      clear hown9 hbel9 hn9 hB9 HOA HBA HNA HGN htn hn10 HST HLK
      go_wp2
      go_roundw
      case rel=>exact⟨k+1,by omega,by go_num,by rw [za HE];exact za HO10,by rw [za HG];exact za HN10,za HB10⟩
      case measure=>simp [intOf];omega
     | false =>
      have HE:Hid (rFK L (k+1)=rFK L k):=zb (za HF0 rfl)
      have HG:Hid (qZ L (k+1)=qZ L k++[nameAt L k]):=zb (za HK1 rfl)
      have HST:=zb (fun(W:World) (h:NmM W w.heap.size k (qZ L k))=>h.store (ns':=qZ L k++[nameAt L k]) (nameAt L k) k hns (by omega) (by omega) (fun t=>zv7))
      have HLK:=zb (fun(W:World) (h:NmM W w.heap.size k (qZ L k))=>h.look (nameAt L k) hns)
      rw [za HCQ] at HLK
      clear HF0 HF1 HK0 HK1 HCI HCQ
      generalize nameAt L k=name at *
      go_wp2_with fail
      refine(za HH).mono ?_
      rintro e w1 ⟨rfl,hb1⟩
      have HP1:=zb (za HP w1 hb1)
      have HB1:=zb hb1
      clear hb1 HH HP
      go_wp2_with fail
      refine(za HP1).mono ?_
      rintro e w2 ⟨a2,c2,rfl,hbs2,hb2⟩
      have HA2:=zb (za HA w2 a2 c2 hbs2)
      have hB2:=(za HB1).trans (hb2.mono (za HB1).size)
      have HNM:=zb (za HNAME w2 a2 c2 hbs2 hB2)
      have HO4:=zb ((za HO).below hB2)
      have HN4:=zb ((za HNN).below hB2)
      have HB4:=zb ((za HBEL).trans (hB2.mono (za HBEL).size))
      clear hb2 hbs2 hB2 HP1 HB1 HA HO HBEL HNN HNAME
      go_wp2_with (go_at_call 274;refine(za HA2).mono ?_;rintro e w3 ⟨rfl,hw3⟩;subst hw3)
      refine(za HNM).mono ?_
      rintro e w5 ⟨rfl,hb5⟩
      have HO5:=zb ((za HO4).below hb5)
      have HN5:=zb ((za HN4).below hb5)
      have HB5:=zb ((za HB4).trans (hb5.mono (za HB4).size))
      clear HO4 HN4 HB4 hb5 HNM HA2
      have HO4:=HO5
      have HN4:=HN5
      have HB4:=HB5
      clear HO5 HN5 HB5
      obtain⟨lv,hlk⟩:=za HLK w5 (za HN4)
      obtain⟨w10,hst,hn10,htn⟩:=za HST w5 (za HN4)
      have HB10:=zb ((za HB4).grown htn.grown (za HB4).size (fun j hj=>by cases hj;exact Nat.le_refl _))
      have HO10:=zb ((za HO4).turned htn (Nat.lt_succ_self _))
      have HN10:=zb hn10
      clear HO4 HN4 HB4 htn hn10 HST HLK
      go_wp2
      go_roundw
      case rel=>exact⟨k+1,by omega,by go_num,by rw [za HE];exact za HO10,by rw [za HG];exact za HN10,za HB10⟩
      case measure=>simp [intOf];omega
  ·obtain rfl:k=8:=by omega
   have HO:=zb (hown.base (Nat.le_succ w.heap.size))
   have HBEL:=zb hbel
   clear hown hbel hnm
   go_wp2
   go_ret
   exact⟨_,rfl,za HO,za HBEL⟩
end Go.Proofs.YtchmlnmhbfaclaaGreatDoor
