/-
  Parts of the proofs.
-/
import Derived.Test.YtcimhnnendlblaaGreatJIn
import Derived.Test.YtcimhnnendlblaaGreatJHp
import Derived.Test.YtcimhnnendlblaaGreatJExa
import Derived.Maps.OwnSet
import Derived.StringKeys
import Derived.Shelf.Spec.SlicesGrow
import Derived.Ground.Names8Prog
set_option maxRecDepth 100000
set_option maxHeartbeats 16000000
set_option linter.all false
namespace Go.Proofs.YtcimhnnendlblaaGreat
open Go.RowKit
theorem Fu{P:Program}(w:World)(dT ty:TypeId)(hu:P.underlying dT=some (.slice 5))(hz:∀ w,(zeroValue 5).run P w=.ok (.int .u8 0) w)
  (B g off n dCap c:Nat) (cur:Array Value) (z:List Int) (h0:0<n) (dc:off+n<=z.length) (hg:Row w B g c cur z) :
  (Builtin.clear_ #[dT] ty #[.slice (some ⟨g,off,none⟩) n dCap]).run P w=.ok (.tuple #[]) (fJ w g cur off (ag n)):=by
 obtain⟨h1,h2,h3,h4,h5⟩:=hg;have jw:=run_storeCells_at P g off 5 ((ag n).map (Value.int .u8)) 0 cur w h2 (by simp [aj];omega) (dE _);have hzc:(Builtin.zeroCells (Value.int .u8 0).cells n).toList=(ag n).map (Value.int .u8):=by simp [Builtin.zeroCells,Value.cells,ag,List.map_replicate];rw [List.eq_replicate_iff];simp [Nat.mod_one]
 obtain⟨m,rfl⟩:∃ m,n=m+1:=⟨n-1,by omega⟩;have Xj:(storeCells ⟨g,off,none⟩ ((ag (m+1)).map (Value.int .u8))).run P w=.ok () (fJ w g cur off (ag (m+1))):=by rw [fJ];simpa [splice] using jw
 simp only [Builtin.clear_,run_underlying hu,hz,hzc,Xj,Sem.run_bind,Sem.run_pure,Result.andThen,List.getElem?_toArray,List.getElem?_cons_zero]
theorem zaa(w:World):(zeroValue 5).run Tryz.prog w=.ok (.int .u8 0) w:=by
 have h:(Tryz.prog.info? 5).map (fun i=>(i.zero,i.size,i.bytes))=some (some (.int .u8 0),1,1):=by kernel_rfl
 obtain⟨i0,hi,cY,dw,dz⟩:=info_parts h;simp [zeroValue,typeInfo,hi,cY]
theorem MW(c:Int)(w:World):Calls Tryz.prog 220 #[.int .u8 c] w fun e w'=>e=.returned (.bool (c != 0))/\w=w':=by
 go_enter Tryz.func220,Tryz.ntmps220
 go_wp2;go_ret;exact⟨rfl,rfl⟩
theorem Ku(a:Option Addr)(cap:Nat)(l:List Int)(w:World)(aX:Bs w a cap l) :
  Calls Tryz.prog 161 #[.slice a l.length cap,.func (.func 220) #[] #[]] w fun e w'=>e=.returned (.int .i64 (fN l))/\w=w':=by
 have hl:l.length<=140737488351232:=aX.2.2.1;have HN:=af (fun k=>yg (l:=l) (k:=k));have HM:=af (yf (l:=l));generalize fN l=F at *;go_enter Tryz.func161,Tryz.ntmps161
 go_wp2
 go_loop [5,8] (fun _ i=>∃ k:Nat,k<=l.length/\i=.int .i64 k/\∀ j,j<k->(l.getD j 0 != 0)=false) (fun _ i=>l.length-(intOf i).toNat)
 case atStart=>exact⟨0,by omega,rfl,fun j hj=>absurd hj (Nat.not_lt_zero j)⟩
 case round =>
  obtain⟨k,hk,rfl,bB⟩:=hrel;have HA:Hid (∀ j,j<k->(l.getD j 0 != 0)=false):=bB;clear bB;by_cases aM:k<l.length
  ·obtain⟨b,off,rfl,bk⟩:=aX.at k aM;have HC:=af (MW (l.getD k 0) w);have HK:=af (ae HN k aM);clear aX;have HF:=af (fun h=>cF.step (f:=fun j=>(l.getD j 0 != 0)) (ae HA) h);generalize l.getD k 0=c at *;cases hb:(c != 0)
   ·rw [hb] at HC;have HS:=af (ae HF hb);clear hb;go_wp2_with (go_at_call 220;refine(ae HC).mono ?_;rintro e w' ⟨rfl,rfl⟩)
    go_round
    case rel=>exact⟨k+1,by omega,by go_num,ae HS⟩
    case measure=>simp [intOf];omega
   ·rw [hb] at HC;have HS:=af (ae HK hb (ae HA));clear hb;go_wp2_with (go_at_call 220;refine(ae HC).mono ?_;rintro e w' ⟨rfl,rfl⟩)
    go_ret;exact⟨by rw [ae HS];rfl,rfl⟩
  ·obtain rfl:k=l.length:=by omega
   go_wp2;go_ret;exact⟨by rw [ae HM (ae HA)];rfl,rfl⟩
theorem N7(a:Option Addr)(cap:Nat)(l:List Int)(w:World)(aX:Bs w a cap l) :
  Calls Tryz.prog 99 #[.slice a l.length cap,.func (.func 220) #[] #[]] w fun e w'=>e=.returned (.bool (isRoot l))/\w=w':=by
 have HI:=af (Ku a cap l w aX);have hv:fN l=-1/\isRoot l=false\/0<=fN l/\isRoot l=true:=by
  unfold fN;cases isRoot l with
  | true=>rw [if_pos rfl];exact .inr ⟨by omega,rfl⟩
  | false=>rw [if_neg (by simp)];exact .inl ⟨rfl,rfl⟩
 generalize fN l=F at *;generalize isRoot l=R at *;generalize l.length=N at *;rcases hv with ⟨rfl,rfl⟩ | ⟨h,rfl⟩
 all_goals
  go_enter Tryz.func99,Tryz.ntmps99
  go_wp2_with (go_at_call 161;refine(ae HI).mono ?_;rintro e w1 ⟨rfl,rfl⟩)
  go_ret;exact⟨rfl,rfl⟩
theorem wF(a:Option Addr)(cap:Nat)(l:List Int)(w:World)(aX:Bs w a cap l) :
  Calls Tryz.prog 158 #[.slice a l.length cap] w fun e w'=>e=.returned (.bool (isRoot l))/\w=w':=by
 have HI:=af (N7 a cap l w aX);clear aX;generalize isRoot l=R at *;generalize l.length=N at *;go_enter Tryz.func158,Tryz.ntmps158
 go_wp2_with fail
 refine(ae HI).mono ?_;rintro e w1 ⟨rfl,hw⟩;subst hw;go_wp2;go_ret;exact⟨rfl,rfl⟩
theorem IS(a:Option Addr)(cap:Nat)(l:List Int)(x n:Nat)(w:World)(aX:Bs w a cap l)(hx:x+n<=l.length) :
  Calls Tryz.prog 123 #[.slice a l.length cap,.agg #[.int .i64 x,.int .i64 n]] w fun e w'=>∃ a' c',e=.returned (.slice a' n c')/\Bs w' a' c' ((l.drop x).take n)/\Below w.heap.size w w':=by
 have gy:Below w.heap.size w (w.alloc (.cells #[.int .i64 x,.int .i64 n] 123)):=zBr.alloc zNr _;obtain⟨a1,gP,ay⟩:=eU (P:=Tryz.prog) (t:=30) zu30 aN (aX.below gy) x (x+n) (by omega) hx;have e1:x+n-x=n:=by omega
 rw [e1] at gP ay;have e2:((x+n:Nat):Int)=(x:Int)+n:=by omega
 rw [e2] at gP;have iw:=af gy;have aL:=af ay;have h3:=aX.2.2.1;clear aX gy ay e1 e2;generalize l.length=N at *;go_enter Tryz.func123,Tryz.ntmps123
 go_wp2;go_ret;exact⟨_,_,rfl,ae aL,ae iw⟩
theorem FL(h:Int)(w:World)(h1:1<=h)(h2:h<=40) :
  Calls Tryz.prog 159 #[.int .i64 h] w fun e w'=>e=.returned (.agg #[.int .i64 (cJ h:Nat),.int .i64 5])/\Below w.heap.size w w':=by
 have HH:=af (fun W=>fj h W);rw [aF.2 ⟨h1,h2⟩] at HH;have HP:=af (fun W=>ia h W h1 h2);generalize cJ h=p at *;clear h1 h2;go_enter Tryz.func159,Tryz.ntmps159
 go_wp2_with (first | (go_at_call 183;refine(ae HH _).mono ?_;rintro e w1 ⟨rfl,hw⟩;subst hw) | (go_at_call 126;refine(ae HP _).mono ?_;rintro e w1 ⟨rfl,hw⟩;subst hw))
 refine bodyPost_ret (results_cell_row rfl _ _ w.heap.size 123 _ (0,0) _ rfl (heap_alloc_new w _) Tryz.underlying123 rfl (by rw [Ie];rfl)) rfl ?_;exact⟨rfl,(Below.refl _ w).alloc zNr _⟩
theorem Ab(i:Nat)(w:World)(hi:i<8) :
  Calls Tryz.prog 152 #[.int .i64 i] w fun e w'=>e=.returned (.agg #[.int .i64 (200+11 * i:Nat),.int .i64 11])/\Below w.heap.size w w':=by
 have HH:=af (fun W=>qL i W);have hp:IL i=true:=by unfold IL;rw [Bool.and_eq_true,decide_eq_true_iff,decide_eq_true_iff];omega
 rw [hp] at HH;have HP:=af (fun W=>oX i W (by omega));generalize 200+11 * i=p at *;clear hp;go_enter Tryz.func152,Tryz.ntmps152
 go_wp2_with (first | (go_at_call 171;refine(ae HH _).mono ?_;rintro e w1 ⟨rfl,hw⟩;subst hw) | (go_at_call 98;refine(ae HP _).mono ?_;rintro e w1 ⟨rfl,hw⟩;subst hw))
 refine bodyPost_ret (results_cell_row rfl _ _ w.heap.size 123 _ (0,0) _ rfl (heap_alloc_new w _) Tryz.underlying123 rfl (by rw [Ie];rfl)) rfl ?_;exact⟨rfl,(Below.refl _ w).alloc zNr _⟩
def Cs(f:Int×Int):List Value:=[.int .i64 f.1,.int .i64 f.2]
theorem fM(f:Int×Int):(Cs f).length=2:=rfl
theorem rV(f:Int×Int):∀ u∈Cs f,u.oneCell'=true:=by
 intro u hu;unfold Cs at hu;rcases zMc hu with rfl | hu
 ·rfl
 rw [zMs hu];rfl
theorem uE:(Tryz.prog.info? 168).map (fun i=>(i.zero,i.size,i.bytes))=some (some (.agg #[.int .i64 0,.int .i64 0]),2,16):=by kernel_rfl
section
open Go.Sort
open Go.Shelf
def pV(n:Int)(x e:Int×Int):Bool:=r7 n [x,e] != 0
theorem QQ{n:Int}{x e:Int×Int}(hn:0<=n)(hn2:n<=6400)(hx:there n x=true)(he:there n e=true):pV n x e=over e x:=by
 unfold pV r7;rw [if_neg (by omega),if_neg (by simp)];unfold chkL;rw [if_neg (by rw [hx];simp),if_neg (by simp)];unfold chkL;rw [if_neg (by rw [he];simp),List.nil_append,List.any_cons,List.any_nil,Bool.or_false];cases over e x with
 | true=>rw [if_pos rfl];rfl
 | false=>rw [if_neg (by simp)];rfl
theorem N6(n:Int)(x e:Int×Int)(w:World)(hx:yv x)(he:yv e) :
  Calls Tryz.prog 219 #[.int .i64 n,.agg #[.int .i64 x.1,.int .i64 x.2],.agg #[.int .i64 e.1,.int .i64 e.2]] w fun r w'=>r=.returned (.bool (pV n x e))/\Below w.heap.size w w':=by
 have hb:Below w.heap.size w (((w.alloc (.cells #[.int .i64 x.1,.int .i64 x.2] 123)).alloc (.cells #[.int .i64 e.1,.int .i64 e.2] 123)).alloc (.cells #[.int .i64 x.1,.int .i64 x.2,.int .i64 e.1,.int .i64 e.2] 123)):=(((Below.refl _ w).alloc zNr _).alloc (by simp) _).alloc (by simp;omega) _;have hg:=heap_alloc_new ((w.alloc (.cells #[.int .i64 x.1,.int .i64 x.2] 123)).alloc (.cells #[.int .i64 e.1,.int .i64 e.2] 123)) (.cells #[.int .i64 x.1,.int .i64 x.2,.int .i64 e.1,.int .i64 e.2] 123);rw [aH,aH] at hg;have hex:GF (((w.alloc (.cells #[.int .i64 x.1,.int .i64 x.2] 123)).alloc (.cells #[.int .i64 e.1,.int .i64 e.2] 123)).alloc (.cells #[.int .i64 x.1,.int .i64 x.2,.int .i64 e.1,.int .i64 e.2] 123)) (some ⟨w.heap.size+1+1,0,none⟩) 2 [x,e]:=by
  refine⟨fun y hy=>?_,⟨by simp,fun h=>by cases h⟩,by simp,fun _=>⟨_,0,rfl,fun i hi=>?_⟩⟩
  ·rcases zMc hy with rfl | hy
   ·exact hx
   ·rw [zMs hy];exact he
  ·rw [cell_of_row _ _ _ _ _ _ hg,cell_of_row _ _ _ _ _ _ hg]
   match i,hi with
   | 0,_=>exact⟨rfl,rfl⟩
   | 1,_=>exact⟨rfl,rfl⟩
   | i+2,hi=>exact absurd hi (by simp)
 have HC:=af (xb n _ 2 [x,e] _ hex);have hv:r7 n [x,e]=0/\pV n x e=false\/r7 n [x,e]≠0/\pV n x e=true:=by
  unfold pV;by_cases h:r7 n [x,e]=0
  ·exact .inl ⟨h,by rw [h];rfl⟩
  ·exact .inr ⟨h,bne_iff_ne.2 h⟩
 have HB:=af hb;clear hb hex hg hx he;obtain⟨x1,x2⟩:=x;obtain⟨e1,e2⟩:=e;dsimp only at *;generalize pV n (x1,x2) (e1,e2)=r at *;generalize r7 n [(x1,x2),(e1,e2)]=c at *;rcases hv with ⟨rfl,rfl⟩ | ⟨hc,rfl⟩
 ·rw [aA] at HC;go_enter Tryz.func219,Tryz.ntmps219
  go_wp2_with fail
  refine(ae HC).mono ?_;rintro e w1 ⟨rfl,ay⟩;have aL:=zTr HB ay;clear ay HC HB;go_wp2;go_ret;exact⟨rfl,ae aL⟩
 ·rw [aC _ hc] at HC;go_enter Tryz.func219,Tryz.ntmps219
  go_wp2_with fail
  refine(ae HC).mono ?_;rintro e w1 ⟨rfl,ay⟩;have aL:=zTr HB ay;clear ay HC HB;go_wp2;go_ret;exact⟨rfl,ae aL⟩
structure Ex where
 val:Int×Int
 ok:yv val
def exS(x:Ex):List Value:=nI x.1
theorem P2(x:Ex):(exS x).length=2:=rfl
theorem zb3(x:Ex):∀ u∈exS x,u.oneCell'=true:=by
 intro u hu;unfold exS nI at hu;rcases zMc hu with rfl | hu
 ·rfl
 rw [zMs hu];rfl
theorem WV:(Tryz.prog.info? 123).map (fun i=>(i.zero,i.size,i.bytes))=some (some (.agg #[.int .i64 0,.int .i64 0]),2,16):=by kernel_rfl
theorem He(n:Int)(x:Ex)(e:(Int×Int×Int×Int))(gn ge:Nat)(W:World)(hn:W.cell? ⟨gn,0,none⟩=some (.int .i64 n))(he:rf W ge e)(hi:yv (e.2.1,e.2.2.1)) :
  Calls Tryz.prog 218 #[.agg #[.int .i64 x.1.1,.int .i64 x.1.2],.pointer (some ⟨gn,0,none⟩),.pointer (some ⟨ge,0,none⟩)] W fun r w'=>r=.returned (.bool (pV n x.1 (e.2.1,e.2.2.1)))/\Below W.heap.size W w':=by
 obtain⟨⟨x1,x2⟩,hx⟩:=x;obtain⟨h,a,l,t⟩:=e;have gy:Below W.heap.size W (W.alloc (.cells #[.int .i64 x1,.int .i64 x2] 123)):=(Below.refl _ W).alloc zNr _;have hn1:=(gy.cell (block_lt_of_cell hn)).trans hn;have Uo:=he.below gy he.lt;obtain⟨c0,c1,c2,c3⟩:=Uo.cells;have HO:=af (N6 n (x1,x2) (a,l) (W.alloc (.cells #[.int .i64 x1,.int .i64 x2] 123)) hx hi);have iw:=af gy;have hgn:=block_lt_of_cell hn;have tJ:=he.lt;dsimp only at *;generalize pV n (x1,x2) (a,l)=r at *;clear Uo gy hx hi he hn;go_enter Tryz.func218,Tryz.ntmps218
 go_wp2_with fail
 refine(ae HO).mono ?_;rintro e' w1 ⟨rfl,ay⟩;have aL:=zTr iw ay;clear ay;go_wp2;go_ret;exact⟨rfl,ae aL⟩
theorem J9(fv:Value)(w:World):Calls Tryz.prog 248 #[.slice none 0 0,fv] w fun r w'=>r=.returned (.int .i64 (-1))/\w=w':=by
 go_enter Tryz.func248,Tryz.ntmps248
 go_wp2
 go_loop [5,8] (fun _ i=>i=.int .i64 0) (fun _ _=>0)
 case atStart=>rfl
 case round =>subst hrel;go_wp2;go_ret;exact⟨rfl,rfl⟩
theorem NG(fv:Value)(w:World):Calls Tryz.prog 217 #[.slice none 0 0,fv] w fun r w'=>r=.returned (.bool false)/\w=w':=by
 have HI:=af (J9 fv w);go_enter Tryz.func217,Tryz.ntmps217
 go_wp2_with (go_at_call 248;refine(ae HI).mono ?_;rintro e w1 ⟨rfl,rfl⟩)
 go_ret;exact⟨rfl,rfl⟩
def sm(L:List Int)(e:(Int×Int×Int×Int))(T:List Ex):Int:=if di L e≠0 then 1 else if T.any (fun x=>pV L.length x.1 (e.2.1,e.2.2.1))=true then 2 else 0
theorem Lj(L:List Int)(e:(Int×Int×Int×Int))(B:Nat)(v:Value)(T:List Ex)(w:World)(hl:L.length<=140737488351232)(hi:yv (e.2.1,e.2.2.1))(hT:bT exS 2 123 w B v T)(hTl:T.length<=1000) :
  Calls Tryz.prog 156 #[.int .i64 L.length,k8 e,v] w fun r w'=>r=.returned (.int .i64 (sm L e T))/\Below w.heap.size w w':=by
 obtain⟨x,a,l,t⟩:=e;have gy:Below w.heap.size w ((w.alloc (.cells #[.int .i64 (L.length:Int)] 3)).alloc (.cells #[.int .i64 x,.int .i64 a,.int .i64 l,.int .i64 t] 125)):=((Below.refl _ w).alloc zNr _).alloc (by simp) _;have HK:=af (rZ L (x,a,l,t) ((w.alloc (.cells #[.int .i64 (L.length:Int)] 3)).alloc (.cells #[.int .i64 x,.int .i64 a,.int .i64 l,.int .i64 t] 125)) hl hi.1);have iw:=af gy;have fc:=rf.new (w.alloc (.cells #[.int .i64 (L.length:Int)] 3)) (x,a,l,t);rw [aH] at fc;have hcn:((w.alloc (.cells #[.int .i64 (L.length:Int)] 3)).alloc (.cells #[.int .i64 x,.int .i64 a,.int .i64 l,.int .i64 t] 125)).cell? ⟨w.heap.size,0,none⟩=some (.int .i64 (L.length:Int)):=by rw [World.cell?_alloc_lt _ _ _ (by simp),cell_of_row _ _ _ _ _ (0,0) (heap_alloc_new w _)];rfl
 unfold k8 at HK ⊢;dsimp only at HK ⊢ hi;obtain⟨va,vm,vc,rfl⟩:=hT.shape;by_cases h0:di L (x,a,l,t)=0
 ·have hw:sm L (x,a,l,t) T=if T.any (fun y=>pV L.length y.1 (a,l))=true then 2 else 0:=by unfold sm;rw [if_neg (by rw [h0];simp)]
  rw [h0,aA] at HK;rw [hw];clear hw h0;have HC:Hid (∀ W:World,Below w.heap.size w W->rf W (w.heap.size+1) (x,a,l,t)->W.cell? ⟨w.heap.size,0,none⟩=some (.int .i64 (L.length:Int)) ->
    Calls Tryz.prog 217 #[.slice va vm vc,.func (.func 218) #[] #[.pointer (some ⟨w.heap.size,0,none⟩),.pointer (some ⟨w.heap.size+1,0,none⟩)]] W fun r w'=>r=.returned (.bool (T.any (fun y=>pV L.length y.1 (a,l))))/\Below W.heap.size W w'):=af (fun W hW hE hN=>by
   have hTW:=hT.below hW;obtain⟨a1,c1,e1,tE⟩:=hTW.kk P2 (by omega);simp only [Value.slice.injEq] at e1;obtain⟨rfl,rfl,rfl⟩:=e1;rcases hTW.2 with ⟨h',h00⟩ | ⟨g,cap,cur,h',hB,hc,h3,h4,h5,h6⟩
   ·simp only [Value.slice.injEq] at h';obtain rfl:T=[]:=List.eq_nil_of_length_eq_zero h00;rw [h'.1,h'.2.2];exact(NG _ W).mono fun r w' ⟨hr,hw⟩=>⟨hr,by rw [hw];exact zBr⟩
   ·simp only [Value.slice.injEq,true_and] at h';obtain⟨rfl,rfl⟩:=h';have aM:g<W.heap.size:=(zAg hc).1;haveI:Inhabited Ex:=⟨⟨(0,0),by unfold yv;decide⟩⟩
    have kK:=AnyQ.slices_ContainsFunc Yy 2 Tryz.isAgg123 Tryz.sizeOf123 exS P2 (fun y:Ex=>pV L.length y.1 (a,l)) 218 #[.pointer (some ⟨w.heap.size,0,none⟩),.pointer (some ⟨w.heap.size+1,0,none⟩)] (enters_of Tryz.func218 (by kernel_rfl) rfl) g 0 T.length vc T W
     (fun W2 y Gg=>(He L.length y (x,a,l,t) w.heap.size (w.heap.size+1) W2 ((Gg.cell (block_lt_of_cell hN)).trans hN) (hE.below Gg hE.lt) hi).mono fun r w' ⟨hr,Cn⟩=>⟨hr,Gg.trans (Cn.mono Gg.size)⟩)
     zNr (by omega) aM
     (fun j hj i u hu=>by
      have ej:T[j]?=some T[j]! := by simp [hj]
      obtain⟨b,off,nk,bk⟩:=tE.2.2.2 (by intro e;rw [e] at hj;simp at hj);simp only [Option.some.injEq,Addr.mk.injEq,and_true] at nk;obtain⟨rfl,rfl⟩:=nk;exact bk j _ ej i u hu)
    change Calls Tryz.prog 217 _ _ _ at kK;rw [List.take_length] at kK;exact kK)
  clear hT hTl hi hl;generalize T.any (fun y=>pV L.length y.1 (a,l))=r at *;have qd:=af fc;have HCN:=af hcn;clear fc hcn gy;cases r with
  | true =>
   rw [if_pos rfl];go_enter Tryz.func156,Tryz.ntmps156
   go_wp2_with fail
   refine(ae HK).mono ?_;rintro e w1 ⟨rfl,ay⟩;have dm:=zTs iw ay;have mC:=af (ae HC w1 dm ((ae qd).below ay (by simp)) ((ay.cell (by simp;omega)).trans (ae HCN)));have aL:=af dm;clear ay dm HC iw qd HCN HK;go_wp2_with fail
   refine(ae mC).mono ?_;rintro e w2 ⟨rfl,aK⟩;have br:=zTr aL aK;clear aK mC aL;go_wp2;go_ret;exact⟨rfl,ae br⟩
  | false =>
   rw [if_neg (by simp)];go_enter Tryz.func156,Tryz.ntmps156
   go_wp2_with fail
   refine(ae HK).mono ?_;rintro e w1 ⟨rfl,ay⟩;have dm:=zTs iw ay;have mC:=af (ae HC w1 dm ((ae qd).below ay (by simp)) ((ay.cell (by simp;omega)).trans (ae HCN)));have aL:=af dm;clear ay dm HC iw qd HCN HK;go_wp2_with fail
   refine(ae mC).mono ?_;rintro e w2 ⟨rfl,aK⟩;have br:=zTr aL aK;clear aK mC aL;go_wp2;go_ret;exact⟨rfl,ae br⟩
 ·have hw:sm L (x,a,l,t) T=1:=by unfold sm;rw [if_pos h0]
  rw [aC _ h0] at HK;rw [hw];clear hw h0 fc hcn gy hT hi hl;generalize di L (x,a,l,t)=c at *;go_enter Tryz.func156,Tryz.ntmps156
  go_wp2_with fail
  refine(ae HK).mono ?_;rintro e w1 ⟨rfl,ay⟩;have aL:=zTr iw ay;clear ay;go_wp2;go_ret;exact⟨rfl,ae aL⟩
end
section
open Go.MapKept
open Go.ChangeMaps
open Go.Sort
open Go.Shelf
open Go.Maps (Keyed)
theorem zch{H:Type}{D:DataW H}{k:Lit}(h:Maps.has D k=false){z:DataW H}:D.atKey k z=z:=by
 cases D <;> try rfl
 rename_i es
 show(match es.find? (fun p=>p.1.sameKey k) with | some p=>p.2 | none=>z)=z
 have:es.find? (fun p=>p.1.sameKey k)=none:=List.find?_eq_none.2 (fun p hp hs=>(List.any_eq_false.1 h p hp) hs);rw [this]
def Bz(w:World)(m:Nat)(E:List (Int×Int×Int×Int))(f:Int->Int):Prop :=∃ Dm:DataW Unit,w.ownsMap Tryz.prog 3 (plainElem Tryz.prog 3) m E.length Dm/\∀ z:Int,Maps.has Dm (.int .i64 z)=E.any (fun e=>e.1 == z)/\(E.any (fun e=>e.1 == z)=true->∀ d,Dm.atKey (.int .i64 z) d=.lit (.int .i64 (f z)))
theorem Bz.made(w:World)(f:Int->Int):Bz (w.alloc (.map #[] 0)) w.heap.size [] f:=⟨.map [],World.ownsMap_made w _ _ _,fun z=>⟨rfl,fun h=>by cases h⟩⟩
theorem Bz.lt{w:World}{m:Nat}{E:List (Int×Int×Int×Int)}{f:Int->Int}(h:Bz w m E f):m<w.heap.size:=by obtain⟨Dm,h1,_⟩:=h;exact h1.lt
theorem Bz.same{w w':World}{m:Nat}{E:List (Int×Int×Int×Int)}{f:Int->Int}(h:Bz w m E f)(hs:w'.heap[m]?=w.heap[m]?):Bz w' m E f:=by obtain⟨Dm,⟨es,clock,hb,r⟩,h2⟩:=h;exact⟨Dm,⟨es,clock,hs.trans hb,r⟩,h2⟩
theorem Bz.below{w w':World}{m:Nat}{E:List (Int×Int×Int×Int)}{f:Int->Int}(h:Bz w m E f)(hb:Below w.heap.size w w'):Bz w' m E f:=h.same (hb.block m h.lt)
theorem WR:(Tryz.prog.info? 3).map (fun i=>(i.zero,i.size,i.bytes))=some (some (.int .i64 0),1,8):=by kernel_rfl
theorem zero_num(w:World):(zeroValue 3).run Tryz.prog w=.ok (.int .i64 0) w:=by obtain⟨i0,eP,cY,dw,dz⟩:=info_parts WR;simp [zeroValue,typeInfo,eP,cY]
def Wj(E:List (Int×Int×Int×Int))(f:Int->Int)(z:Int):Int:=if E.any (fun e=>e.1 == z)=true then f z else 0
theorem Bz.look{w:World}{m:Nat}{E:List (Int×Int×Int×Int)}{f:Int->Int}(h:Bz w m E f)(z:Int)(hz:-9223372036854775808<=z/\z<=9223372036854775807) :
  (Instr.lookup 164 (.map (some m)) (.int .i64 z) true).run Tryz.prog w=.ok (.tuple #[.int .i64 (Wj E f z),.bool (E.any (fun e=>e.1 == z))]) w:=by
 obtain⟨Dm,h1,h2⟩:=h;have hwf:(Lit.int .i64 z).wf=true:=WalkArith.wf_i64 hz;have dt:=Maps.keyOf_int_mk (P:=Tryz.prog) zu3 hwf;obtain⟨v,ps,bw,hv⟩:=h1.look_ok (Maps.int_keyed zu3) zu164 (zero_num w) (plainElem_int zu3 (a:=0) (by decide)) dt;obtain⟨a,rfl,he,_⟩:=plainElem_int_inv zu3 hv;have Z9:=congrArg Prod.fst he;dsimp only at Z9;rw [bw,(h2 z).1];unfold Wj;cases hq:E.any (fun e=>e.1 == z) with
 | true =>rw [if_pos rfl];rw [(h2 z).2 hq] at Z9;simp only [DataW.lit.injEq,Lit.int.injEq,true_and] at Z9;rw [Z9]
 | false =>rw [if_neg (by simp)];rw [zch (by rw [(h2 z).1];exact hq)] at Z9;simp only [DataW.lit.injEq,Lit.int.injEq,true_and] at Z9;rw [Z9]
theorem Bz.store{w:World}{m:Nat}{E:List (Int×Int×Int×Int)}{f:Int->Int}(h:Bz w m E f)(hk:E.length<=300)(e:(Int×Int×Int×Int))(hz:-9223372036854775808<=e.1/\e.1<=9223372036854775807)(hf:-9223372036854775808<=f e.1/\f e.1<=9223372036854775807) :
  ∃ w',(Instr.mapUpdate 164 (.map (some m)) (.int .i64 e.1) (.int .i64 (f e.1))).run Tryz.prog w=.ok () w'/\Bz w' m (E++[e]) f/\w.mapTurned w' m:=by
 obtain⟨Dm,h1,h2⟩:=h;have hwf:(Lit.int .i64 e.1).wf=true:=WalkArith.wf_i64 hz;have dt:=Maps.keyOf_int_mk (P:=Tryz.prog) zu3 hwf;obtain⟨w',bw,ew,ht⟩:=h1.store (Maps.int_keyed zu3) zu164 (by unfold maxLen;omega) dt (plainElem_int zu3 (a:=f e.1) (WalkArith.wf_i64 hf));have jM:WideAt.IsKeyLit (.int .i64 e.1):=(Maps.int_keyed zu3).key dt;refine⟨w',bw,⟨_,by rw [zLa];exact ew,fun z=>?_⟩,ht⟩;rw [List.any_append];by_cases hj:z=e.1
 ·subst hj;rw [Maps.has_put_same h1.isMap jM];refine⟨by simp,fun _ d=>Maps.atKey_put_same h1.isMap jM _ _⟩
 ·have aO:Lit.int .i64 z≠Lit.int .i64 e.1:=by intro e;simp only [Lit.int.injEq,true_and] at e;exact hj e
  have e0:(e.1 == z)=false:=by rw [beq_eq_false_iff_ne];exact fun e=>hj e.symm
  rw [Maps.has_put_other aO,List.any_cons,List.any_nil,e0,Bool.or_false,Bool.or_false];refine⟨(h2 z).1,fun hq d=>?_⟩;rw [Maps.atKey_put_other aO];exact(h2 z).2 hq d
theorem lO{L:List Int}{e:(Int×Int×Int×Int)}:∀ {k:Nat},e∈entsK L k ↔ ∃ j:Nat,j<k/\aq L ((j:Int)+1)≠0/\e=ai L ((j:Int)+1)
 | 0=>by simp [entsK]
 | k+1=>by
  unfold entsK;rw [List.mem_append,lO];by_cases ht:aq L ((k:Int)+1)=0
  ·rw [if_pos ht];constructor
   ·rintro (⟨j,h1,h2⟩ | h2)
    ·exact⟨j,by omega,h2⟩
    ·cases h2
   ·rintro ⟨j,h1,h2,h3⟩;by_cases e:j=k
    ·subst e;exact absurd ht h2
    ·exact .inl ⟨j,by omega,h2,h3⟩
  ·rw [if_neg ht];constructor
   ·rintro (⟨j,h1,h2⟩ | h2)
    ·exact⟨j,by omega,h2⟩
    ·exact⟨k,by omega,ht,zMs h2⟩
   ·rintro ⟨j,h1,h2,h3⟩;by_cases e:j=k
    ·subst e;exact .inr (List.mem_singleton.2 h3)
    ·exact .inl ⟨j,by omega,h2,h3⟩
theorem P7{L:List Int}{e:(Int×Int×Int×Int)}{k:Nat}:∀ {m:Nat},(entsK L m)[k]?=some e->∃ j:Nat,j<m/\aq L ((j:Int)+1)≠0/\e=ai L ((j:Int)+1)/\(entsK L m).take k=entsK L j
 | 0,h=>by simp [entsK] at h
 | m+1,h=>by
  by_cases hk:k<(entsK L m).length
  ·have h':(entsK L m)[k]?=some e:=by unfold entsK at h;rwa [List.getElem?_append_left hk] at h
   obtain⟨j,h1,h2,h3,h4⟩:=P7 h';refine⟨j,by omega,h2,h3,?_⟩
   show(entsK L m++_).take k=_
   rw [List.take_append_of_le_length (by omega)];exact h4
  ·unfold entsK at h;rw [List.getElem?_append_right (by omega)] at h;by_cases ht:aq L ((m:Int)+1)=0
   ·rw [if_pos ht] at h;simp at h
   ·rw [if_neg ht] at h;have hk0:k=(entsK L m).length:=by have:=(zLs h).1;simp at this;omega
    subst hk0;rw [Nat.sub_self] at h;refine⟨m,by omega,ht,(zOi h).symm,?_⟩
    show(entsK L m++_).take _=_
    rw [List.take_append_of_le_length zNr,List.take_length]
def yM(e:(Int×Int×Int×Int)):Int×Int:=(e.2.1,e.2.2.1)
theorem P3{L:List Int}{h:Int}(hb:bj L)(hl:288<=L.length)(h1:1<=h)(h2:h<=40):yv (yM (ai L h)):=by have hp:=cH h1 h2;unfold yM ai yv;dsimp only;rw [dI _ _ (by omega),dI _ _ (by omega)];have e1:=hb.getD (cJ h+1);have e2:=hb.getD (cJ h+1+1);have e3:=hb.getD (cJ h+3);have e4:=hb.getD (cJ h+3+1);omega
theorem WZ:yv (0,0):=by unfold yv;decide
def zei(e:Int×Int):Bool:=decide ((-9223372036854775808<=e.1/\e.1<=9223372036854775807)/\-9223372036854775808<=e.2/\e.2<=9223372036854775807)
theorem Ju{e:Int×Int}:zei e=true ↔ yv e:=by unfold zei yv;rw [decide_eq_true_iff]
def Ca(e:Int×Int):Ex:=if h:zei e=true then ⟨e,Ju.1 h⟩ else ⟨(0,0),WZ⟩
theorem I9{e:Int×Int}(h:yv e):(Ca e).1=e:=by unfold Ca;rw [dif_pos (Ju.2 h)]
def fw(L:List Int)(E:List (Int×Int×Int×Int)):List Ex:=(E.filter (fun e=>decide (di L e=0))).map (fun e=>Ca (yM e))
theorem Lz(L:List Int)(E:List (Int×Int×Int×Int)):(fw L E).length<=E.length:=by unfold fw;rw [zLm];exact List.length_filter_le _ _
def B9(L:List Int)(h:Int):Int:=if oM L h=3 then 1 else if oM L h=2 then 2 else 0
theorem zeb(L:List Int)(h:Int):-9223372036854775808<=B9 L h/\B9 L h<=9223372036854775807:=by
 unfold B9;split
 ·omega
 ·split <;> omega
theorem CN{L:List Int}{e:(Int×Int×Int×Int)}(h:di L e=0):there L.length (yM e)=true:=by obtain⟨_,_,h3⟩:=bS.1 h;exact rp.2 (by unfold yM;dsimp only;omega)
theorem UN{L:List Int}{j:Nat}(hb:bj L)(hq:b9 L.length=true)(hj:j<40)(ht:aq L ((j:Int)+1)≠0):sm L (ai L ((j:Int)+1)) (fw L (entsK L j))=B9 L ((j:Int)+1):=by
 have hl:=bF.1 hq;unfold sm B9;by_cases h0:di L (ai L ((j:Int)+1))=0
 ·rw [if_neg (by rw [h0];simp)];have nE:oM L ((j:Int)+1)≠3:=by unfold oM;rw [if_neg ht,if_neg (by rw [h0];simp)];split <;> omega
  rw [if_neg nE];have zbQ:(fw L (entsK L j)).any (fun x=>pV L.length x.1 ((ai L ((j:Int)+1)).2.1,(ai L ((j:Int)+1)).2.2.1))=lapK L ((j:Int)+1) j:=by
   have ov:(fw L (entsK L j)).any (fun x=>pV L.length x.1 (yM (ai L ((j:Int)+1))))=true ↔ lapK L ((j:Int)+1) j=true:=by
    rw [List.any_eq_true,nY];have key:∀ i:Nat,i<j->di L (ai L ((i:Int)+1))=0->pV L.length (Ca (yM (ai L ((i:Int)+1)))).1 (yM (ai L ((j:Int)+1)))=nZ (ai L ((j:Int)+1)) (ai L ((i:Int)+1)):=fun i hi hp=>by rw [I9 (P3 hb (by omega) (by omega) (by omega)),QQ (by omega) (by omega) (CN hp) (CN h0)];rfl
    constructor
    ·rintro ⟨x,hx,hxt⟩;unfold fw at hx;obtain⟨e,he,rfl⟩:=List.mem_map.1 hx;obtain⟨Uo,he2⟩:=List.mem_filter.1 he;obtain⟨i,hi,hti,rfl⟩:=lO.1 Uo;have hp:=of_decide_eq_true he2;rw [key i hi hp] at hxt;exact⟨i,hi,by unfold Ul;rw [Bool.and_eq_true,decide_eq_true_iff,decide_eq_true_iff];exact⟨hti,hp⟩,hxt⟩
    ·rintro ⟨i,hi,dy,SN⟩;unfold Ul at dy;rw [Bool.and_eq_true,decide_eq_true_iff,decide_eq_true_iff] at dy;refine⟨Ca (yM (ai L ((i:Int)+1))),?_,by rw [key i hi dy.2];exact SN⟩;exact List.mem_map.2 ⟨_,List.mem_filter.2 ⟨lO.2 ⟨i,hi,dy.1,rfl⟩,decide_eq_true dy.2⟩,rfl⟩
   unfold yM at ov;cases h3:(fw L (entsK L j)).any (fun x=>pV L.length x.1 ((ai L ((j:Int)+1)).2.1,(ai L ((j:Int)+1)).2.2.1)) <;> cases h4:lapK L ((j:Int)+1) j
   ·rfl
   ·rw [h3,h4] at ov;simp at ov
   ·rw [h3,h4] at ov;simp at ov
   ·rfl
  rw [zbQ];have Nh:((j:Int)+1-1).toNat=j:=by omega
  have hw:oM L ((j:Int)+1)=if lapK L ((j:Int)+1) j=true then 2 else 1:=by unfold oM;rw [if_neg ht,if_neg (by rw [h0];simp),Nh]
  rw [hw];cases lapK L ((j:Int)+1) j with
  | true=>rfl
  | false=>rfl
 ·rw [if_pos h0];have nE:oM L ((j:Int)+1)=3:=by unfold oM;rw [if_neg ht,if_pos h0]
  rw [if_pos nE]
theorem UM{L:List Int}{e:(Int×Int×Int×Int)}{T:List Ex}:sm L e T=1 ↔ di L e≠0:=by
 unfold sm;by_cases h0:di L e=0
 ·rw [if_neg (by rw [h0];simp)];constructor
  ·intro h;split at h <;> omega
  ·intro h;exact absurd h0 h
 ·rw [if_pos h0];exact⟨fun _=>h0,fun _=>rfl⟩
theorem Ly{L:List Int}{E:List (Int×Int×Int×Int)}{e:(Int×Int×Int×Int)}(h:di L e=0):fw L (E++[e])=fw L E++[Ca (yM e)]:=by unfold fw;rw [List.filter_append,List.map_append];simp [h]
theorem QW{L:List Int}{E:List (Int×Int×Int×Int)}{e:(Int×Int×Int×Int)}(h:di L e≠0):fw L (E++[e])=fw L E:=by unfold fw;rw [List.filter_append,List.map_append];simp [h]
theorem gj{α:Type}{enc:α->List Value}{k T:Nat}{P:Program}{w:World}{ops:Array Oper}{rest:List Oper}{o:Oper}{a:Act}{Q:Exit->Act->World->Prop}(pZ:o.guard=none)(s x:Operand)(t:TypeId)
  (ho:o.op=.call { callee:=.builtin .append,args:=#[s,x],argTypes:=#[t,t]}) (B:Nat) (i0:TypeInfo) (z:Value) (bytes:Nat)
  (ht:P.underlying t=some (.slice T)) (hi:P.info? T=some i0) (hz:i0.zero=some z) (xW:i0.size=k) (ik:i0.bytes=bytes) (W7:z.cells.size=k) (cL:0<k) (Cn:bytes<=100)
  (v:Value) (l:List α) (hs:a.eval s=v) (az:bT enc k T w B v l) (g:Nat) (y:α) (hx:a.eval x=.slice (some ⟨g,0,none⟩) 1 1)
  (hy:w.heap[g]?=some (.cells (enc y).toArray T (0,0))) (hk:(enc y).length=k) (h1:∀ u∈enc y,u.oneCell'=true) (hn:l.length<=1000) (hB:B<=w.heap.size)
  (h:∀ v' w',bT enc k T w' B v' (l++[y])->Below B w w'->(∀ j,j<w.heap.size->v.ownBlock≠some j->w'.heap[j]?=w.heap[j]?)->wpList P ops Q rest (a.put o.dst v') w') :
  wpList P ops Q (o :: rest) a w:=by
 refine wpList_append_own w pZ s x t ho B T i0 z k bytes ht hi hz xW ik W7 cL v l.length (l.flatMap enc) hs az ⟨g,0,none⟩ 1 1 (enc y) hx (by rw [hk,Nat.one_mul]) (fun j u hj=>?_) h1 (by unfold maxLen;omega) (Nat.le_trans (Nat.mul_le_mul (show l.length+1<=1001 by omega) Cn) (by decide)) hB ?_
 ·rw [addr_add,Nat.zero_add,cell_of_row _ _ _ _ _ _ hy];simpa using hj
 ·intro v' w' xX ow _;refine h v' w' ?_ (zBr.grown ow hB (fun k hk=>az.block k hk)) (fun j hj aO=>ow.block j hj (fun e=>aO e.symm));unfold bT;rw [zLa,List.flatMap_append];simpa using xX
theorem bT.VR{α:Type}{enc:α->List Value}{k T:Nat}{w:World}{B:Nat}{v:Value}{l:List α}(h:bT enc k T w B v l):∀ g,v.ownBlock=some g->g<w.heap.size:=by
 intro g hg;rcases h.2 with ⟨rfl,_⟩ | ⟨g',cap',cur,rfl,hB,hc,_⟩
 ·cases hg
 ·simp [Value.ownBlock] at hg;subst hg;exact(zAg hc).1
theorem bT.EW{α:Type}{enc:α->List Value}{k T:Nat}{w w':World}{B m:Nat}{v:Value}{l:List α}(h:bT enc k T w B v l)(ht:w.mapTurned w' m)(hm:m<B):bT enc k T w' B v l:=by
 obtain⟨es,clock,es',clock',hb,rfl⟩:=ht;refine⟨h.1,?_⟩;rcases h.2 with h0 | ⟨g,cap,cur,rfl,hB,hc,h3⟩
 ·exact .inl h0
 ·exact .inr ⟨g,cap,cur,rfl,hB,(heap_setBlock_other hb _ (by omega)).trans hc,h3⟩
theorem Je(L:List Int)(ea:Option Addr)(ec:Nat)(w:World)(hb:bj L)(hq:b9 L.length=true)(hE:fG tM 4 w ea ec (entsK L 40)) :
  Calls Tryz.prog 94 #[.int .i64 L.length,.slice ea (entsK L 40).length ec] w fun r w'=>r=.returned (.map (some w.heap.size))/\Bz w' w.heap.size (entsK L 40) (B9 L)/\Below w.heap.size w w':=by
 have hl:=bF.1 hq;obtain⟨i0,eP,cY,dw,dz⟩:=info_parts WV;have HEL:=af (b8 L 40);have HAT:=af (fun(k:Nat) (e:(Int×Int×Int×Int)) (h:(entsK L 40)[k]?=some e)=>P7 h);have HE:=af hE;have SR:=hE.2.2.1;have ic:=af hb;have HQ:=af hq;have D1:=@run_makeMap Tryz.prog;generalize hEE:entsK L 40=E at *;clear hE hb hq hEE;go_enter Tryz.func94,Tryz.ntmps94
 go_wp2_with fail
 go_loopw [6,13] (fun v iv wr=>∃ k:Nat,k<=E.length/\iv=.int .i64 k/\bT exS 2 123 wr (w.heap.size+1) v (fw L (E.take k))/\Bz wr w.heap.size (E.take k) (B9 L)/\Below w.heap.size w wr) (fun _ iv _=>E.length-(intOf iv).toNat)
 case atStart=>exact⟨0,Nat.zero_le _,rfl,bT.nil _ _,Bz.made w _,zBr.alloc zNr _⟩
 case round =>
  obtain⟨k,hk,rfl,az,SG,ao⟩:=hrel;obtain⟨va,vm,vc,rfl⟩:=az.shape;by_cases aM:k<E.length
  ·have aO:E≠[]:=by intro e;rw [e] at aM;simp at aM
   obtain⟨b1,o1,rfl,dR⟩:=((ae HE).below ao).2.2.2 aO;obtain⟨e,he⟩:∃ e,E[k]?=some e:=⟨E[k],zLg aM⟩;obtain⟨q0,q1,q2,q3⟩:=fG.jB (cap:=0) dR he;obtain⟨j,hj,htj,hej,pY⟩:=ae HAT k e he;have eQ:yv (yM e):=by rw [hej];exact P3 (ae ic) (by omega) (by omega) (by omega)
   have hwv:sm L e (fw L (E.take k))=B9 L e.1:=by rw [pY,hej];exact UN (ae ic) (ae HQ) hj htj
   have Uo:-9223372036854775808<=e.1/\e.1<=9223372036854775807:=by rw [hej];show _<=(j:Int)+1/\(j:Int)+1<=_;omega
   have zcM:E.take (k+1)=E.take k++[e]:=by rw [List.take_add_one,he];rfl
   have jx:=UM (L:=L) (e:=e) (T:=fw L (E.take k));have hmi:=zeb L e.1;have HY:=af (fun h=>Ly (L:=L) (E:=E.take k) (e:=e) h);have HNO:=af (fun h=>QW (L:=L) (E:=E.take k) (e:=e) h);have HTA:=af zcM;have mm:(fw L (E.take k)).length<=40:=Nat.le_trans (Lz _ _) (by rw [zLt];have:=ae HEL;omega);have zlp:(E.take k).length<=300:=by rw [zLt];have:=ae HEL;omega
   have ay:Below w.heap.size w (wr.alloc (.cells #[.int .i64 e.1,.int .i64 e.2.1,.int .i64 e.2.2.1,.int .i64 e.2.2.2] 125)):=ao.alloc ao.size _;have fp:Below wr.heap.size wr (wr.alloc (.cells #[.int .i64 e.1,.int .i64 e.2.1,.int .i64 e.2.2.1,.int .i64 e.2.2.2] 125)):=zBr.alloc zNr _;have fc:=rf.new wr e;have cz:=az.below fp;have hold:=az.VR;have zcT:=SG.below fp;have tH:=SG.lt;have HW:=af (Lj L e (w.heap.size+1) _ _ _ (by omega) eQ cz (by omega));rw [hwv] at HW jx;unfold k8 at HW;have aL:=af ay;have qd:=af fc;have BX:=af cz;have KS:=af zcT;clear az SG ao dR aO hwv hej pY htj hj zcM ay fp fc cz zcT;have Ov:Hid (∀ (W:World),Bz W w.heap.size (E.take k) (B9 L)->∃ w',(Instr.mapUpdate 164 (.map (some w.heap.size)) (.int .i64 e.1) (.int .i64 (B9 L e.1))).run Tryz.prog W=.ok () w'/\Bz w' w.heap.size (E.take (k+1)) (B9 L)/\W.mapTurned w' w.heap.size):=af (fun W hM=>by rw [ae HTA];exact hM.store zlp e Uo hmi);generalize B9 L e.1=c at *;obtain⟨x,a,l,t⟩:=e;dsimp only at *;clear he;by_cases hc:c=1
   ·subst hc;have BA:Hid (fw L (E.take (k+1))=fw L (E.take k)):=af (by rw [ae HTA];exact ae HNO (jx.1 rfl));clear jx HY HNO eQ hold;go_wp2_with fail
    refine(ae HW).mono ?_;rintro e' w1 ⟨rfl,ay⟩;obtain⟨w2,jw,iP,j5⟩:=ae Ov w1 ((ae KS).below ay);have ox:=(ae qd).below ay (by simp);obtain⟨c0,c1,c2,c3⟩:=ox.cells;have dm:=zTs aL ay;have br:=af (dm.grown j5.grown dm.size (fun j hj=>by cases hj;exact zNr));have zm:=af (((ae BX).below ay).EW j5 (Nat.lt_succ_self _));have EH:=af iP;dsimp only at c0 c1 c2 c3;clear ay ox dm iP j5 aL KS BX HW Ov qd;go_wp2;go_roundw
    case rel=>exact⟨k+1,by omega,by go_num,by rw [ae BA];exact ae zm,ae EH,ae br⟩
    case measure=>simp [intOf];omega
   ·have GP:di L (x,a,l,t)=0:=Classical.byContradiction fun h=>hc (jx.2 h)
    have BA:Hid (fw L (E.take (k+1))=fw L (E.take k)++[Ca (a,l)]):=af (by rw [ae HTA];exact ae HY GP);have lG:exS (Ca (a,l))=[.int .i64 a,.int .i64 l]:=by unfold exS nI;rw [I9 (show yv (a,l) from eQ)]
    have hc':(c != 1)=true:=bne_iff_ne.2 hc;clear jx HY HNO eQ GP;go_wp2_with fail
    refine(ae HW).mono ?_;rintro e' w1 ⟨rfl,ay⟩;have ox:=(ae qd).below ay (by simp);obtain⟨c0,c1,c2,c3⟩:=ox.cells;have dm:=zTs aL ay;have fp:Below w1.heap.size w1 (w1.alloc (.cells #[.int .i64 a,.int .i64 l] 123)):=zBr.alloc zNr _;have zm:=af (((ae BX).below ay).below fp);have EH:=af (((ae KS).below ay).below fp);have tA:=af (ox.below fp ox.lt);have br:=af (dm.trans (fp.mono dm.size));have jK:Hid ((w1.alloc (.cells #[.int .i64 a,.int .i64 l] 123)).heap[w1.heap.size]?=some (.cells (exS (Ca (a,l))).toArray 123 (0,0))):=af (by rw [lG];exact heap_alloc_new w1 _);have gP:w.heap.size+1<=w1.heap.size:=by have:=ay.size;simp at this;omega
    dsimp only at c0 c1 c2 c3;clear ay ox dm aL KS BX HW qd fp lG;go_wp2_with (at_builtin;refine gj rfl _ _ 214 rfl (w.heap.size+1) i0 (.agg #[.int .i64 0,.int .i64 0]) 16 zu214 eP cY dw dz rfl (by decide) (by decide) _ _ rfl (ae zm) w1.heap.size (Ca (a,l)) rfl (ae jK) rfl (zb3 _) (by omega) (by simp;omega) ?_)
    intro v9 w9 aZ en qP;obtain⟨w10,jw,zh2,j5⟩:=ae Ov w9 ((ae EH).same (en.block _ (Nat.lt_succ_self _)));have zik:rf w9 wr.heap.size (x,a,l,t):=(qP _ (by have:=(ae tA).lt;rw [aH] at this;exact this) (fun e=>by have:=hold _ e;omega)).trans (ae tA);obtain⟨d0,d1,d2,d3⟩:=zik.cells;dsimp only at d0 d1 d2 d3;have Ef:=(ae br).trans (en.mono (Nat.le_succ _));have sl:=af (Ef.grown j5.grown Ef.size (fun j hj=>by cases hj;exact zNr));have Ot:=af (aZ.EW j5 (Nat.lt_succ_self _));have zlT:=af zh2;obtain⟨a9,m9,c9,rfl⟩:=aZ.shape;clear aZ en qP zik Ef zh2 j5 br EH zm Ov tA jK hold c0 c1 c2 c3;go_wp2;go_roundw
    case rel=>exact⟨k+1,by omega,by go_num,by rw [ae BA];exact ae Ot,ae zlT,ae sl⟩
    case measure=>simp [intOf];omega
  ·obtain rfl:k=E.length:=by omega
   rw [List.take_length] at SG;have HM:=af SG;have aQ:=af ao;clear az SG ao;go_wp2;go_ret;exact⟨rfl,ae HM,ae aQ⟩
end
section
open Go.MapKept
open Go.ChangeMaps
theorem xo{L:List Int}{z:Int}:(entsK L 40).any (fun e=>e.1 == z)=(dC z && (aq L z != 0)):=by
 have ov:(entsK L 40).any (fun e=>e.1 == z)=true ↔ (dC z && (aq L z != 0))=true:=by
  rw [List.any_eq_true,Bool.and_eq_true,bne_iff_ne,aF];constructor
  ·rintro ⟨e,he,hz⟩;obtain⟨j,hj,ht,rfl⟩:=lO.1 he;have hz':(j:Int)+1=z:=by have:=(beq_iff_eq.1 hz);exact this
   subst hz';exact⟨by omega,ht⟩
  ·rintro ⟨⟨h1,h2⟩,ht⟩;obtain⟨n,rfl⟩:∃ n:Nat,z=(n:Int)+1:=⟨(z-1).toNat,by omega⟩;exact⟨ai L ((n:Int)+1),lO.2 ⟨n,by omega,ht,rfl⟩,beq_iff_eq.2 rfl⟩
 cases h3:(entsK L 40).any (fun e=>e.1 == z) <;> cases h4:(dC z && (aq L z != 0))
 ·rfl
 ·rw [h3,h4] at ov;simp at ov
 ·rw [h3,h4] at ov;simp at ov
 ·rfl
def s6(L:List Int)(h:Int):List Int:=(L.drop (cJ h)).take 5
theorem DK{l:List Int}:isRoot l=false ↔ ∀ j,j<l.length->l.getD j 0=0:=by
 unfold isRoot;rw [List.any_eq_false];constructor
 ·intro h j hj;have:=h l[j] (List.getElem_mem hj);have e:l.getD j 0=l[j]:=by simp [List.getD,hj]
  rw [e];simpa using this
 ·intro h x hx;obtain⟨j,hj,rfl⟩:=List.getElem_of_mem hx;have:=h j hj;have e:l.getD j 0=l[j]:=by simp [List.getD,hj]
  rw [e] at this;simp [this]
theorem Vl{L:List Int}{h:Int}(hb:bj L)(hl:288<=L.length)(h1:1<=h)(h2:h<=40)(ht:aq L h=0):isRoot (s6 L h)=false ↔ ((ai L h).2.1=0/\(ai L h).2.2.1=0):=by
 have hp:=cH h1 h2;have hg:∀ j,j<5->(s6 L h).getD j 0=L.getD (cJ h+j) 0:=fun j hj=>by unfold s6;simp [List.getD,hj]
 have hlen:(s6 L h).length=5:=by unfold s6;simp;omega
 rw [DK,hlen];unfold ai;dsimp only;rw [dI _ _ (by omega),dI _ _ (by omega)];have b1:=hb.getD (cJ h+1);have b2:=hb.getD (cJ h+1+1);have b3:=hb.getD (cJ h+3);have b4:=hb.getD (cJ h+3+1);have g0:=hg 0 (by omega);have g1:=hg 1 (by omega);have g2:=hg 2 (by omega);have g3:=hg 3 (by omega);have g4:=hg 4 (by omega);unfold aq at ht;rw [Nat.add_zero,ht] at g0;rw [show cJ h+1+1=cJ h+2 by omega] at *;rw [show cJ h+3+1=cJ h+4 by omega] at *;constructor
 ·intro hz;have z1:=hz 1 (by omega);have z2:=hz 2 (by omega);have z3:=hz 3 (by omega);have z4:=hz 4 (by omega);omega
 ·intro hz j hj
  match j,hj with
  | 0,_=>exact g0
  | 1,_=>omega
  | 2,_=>omega
  | 3,_=>omega
  | 4,_=>omega
  | j+5,hj=>omega
def ZS(L:List Int)(h:Int):Int:=if aq L h=0 then (if isRoot (s6 L h)=true then 3 else 0) else B9 L h
theorem Ee{L:List Int}{h:Int}(hb:bj L)(hl:288<=L.length)(h1:1<=h)(h2:h<=40):eH L h=if ZS L h=0 then [] else [(ZS L h,h)]:=by
 unfold eH ZS;by_cases ht:aq L h=0
 ·rw [if_pos (oR.2 ht),if_pos ht];have hr:=Vl hb hl h1 h2 ht;by_cases hz:(ai L h).2.1=0/\(ai L h).2.2.1=0
  ·rw [if_pos hz,hr.2 hz];rfl
  ·rw [if_neg hz];have:isRoot (s6 L h)=true:=by
    cases hq:isRoot (s6 L h) with
    | true=>rfl
    | false=>exact absurd (hr.1 hq) hz
   rw [this];rfl
 ·rw [if_neg (fun e=>ht (oR.1 e)),if_neg ht];unfold B9;rcases zp L h with h0 | h0 | h0 | h0
  ·exact absurd (oR.1 h0) ht
  ·rw [h0];rfl
  ·rw [h0];rfl
  ·rw [h0];rfl
theorem zbU{L:List Int}{k:Nat}(hb:bj L)(hl:288<=L.length)(hk:k<40)(h:ZS L ((k:Int)+1)≠0):vC L (k+1)=vC L k++[(ZS L ((k:Int)+1),(k:Int)+1)]:=by
 show vC L k++_=_
 rw [Ee hb hl (by omega) (by omega),if_neg h]
theorem ze6{L:List Int}{k:Nat}(hb:bj L)(hl:288<=L.length)(hk:k<40)(h:ZS L ((k:Int)+1)=0):vC L (k+1)=vC L k:=by
 show vC L k++_=_
 rw [Ee hb hl (by omega) (by omega),if_pos h,List.append_nil]
theorem Gp(a:Option Addr)(cap:Nat)(L:List Int)(m:Nat)(w:World)(aX:Bs w a cap L)(hq:b9 L.length=true)(hm:Bz w m (entsK L 40) (B9 L)) :
  Calls Tryz.prog 96 #[.slice a L.length cap,.map (some m)] w fun r w'=>∃ v,r=.returned v/\bT Cs 2 168 w' w.heap.size v (vC L 40)/\Below w.heap.size w w':=by
 have hl:=bF.1 hq;obtain⟨i0,eP,cY,dw,dz⟩:=info_parts uE;have iq:=aX.2.2.1;have HB:=af aX;have HM:=af hm;have HY:=af (fun(k:Nat)=>zbU (L:=L) (k:=k) aX.1 (by omega));have HNO:=af (fun(k:Nat)=>ze6 (L:=L) (k:=k) aX.1 (by omega));clear aX hm hq;go_enter Tryz.func96,Tryz.ntmps96
 go_wp2_with fail
 go_loopw [5,6] (fun v hv wr=>∃ k:Nat,k<=40/\hv=.int .i64 ((k:Int)+1)/\bT Cs 2 168 wr w.heap.size v (vC L k)/\Below w.heap.size w wr) (fun _ hv _=>41-(intOf hv).toNat)
 case atStart=>exact⟨0,by omega,rfl,bT.nil _ _,zBr⟩
 case round =>
  obtain⟨k,hk,rfl,az,ao⟩:=hrel;obtain⟨va,vm,vc,rfl⟩:=az.shape;by_cases aM:k<40
  ·have bX:=((ae HM).below ao).look ((k:Int)+1) (by omega);rw [xo] at bX;unfold Wj at bX;rw [xo,aF.2 (show 1<=(k:Int)+1/\(k:Int)+1<=40 by omega),Bool.true_and] at bX;have HYK:=af (ae HY k aM);have HNK:=af (ae HNO k aM);have vG:=af (rT L k);have HO:=af az;have aQ:=af ao;have cL:=ao.size;by_cases ht:aq L ((k:Int)+1)=0
   ·have hwv:ZS L ((k:Int)+1)=if isRoot (s6 L ((k:Int)+1))=true then 3 else 0:=by unfold ZS;rw [if_pos ht]
    have gy:(aq L ((k:Int)+1) != 0)=false:=by rw [ht];rfl
    rw [gy,if_neg (by simp)] at bX;have HH:=af (FL ((k:Int)+1) wr (by omega) (by omega));have pM:=cH (h:=(k:Int)+1) (by omega) (by omega);have HP:=af (fun(W:World) (hW:Below wr.heap.size wr W)=>IS a cap L (cJ ((k:Int)+1)) 5 W (((ae HB).below ao).below hW) (by omega));have HA:=af (fun(W:World) (a':Option Addr) (c':Nat) (h:Bs W a' c' (s6 L ((k:Int)+1)))=>wF a' c' _ W h);have uJ:(s6 L ((k:Int)+1)).length=5:=by unfold s6;simp;omega
    rw [uJ] at HA;clear az ao ht gy uJ;rw [hwv] at HYK HNK;have HRH:Hid ((L.drop (cJ ((k:Int)+1))).take 5=s6 L ((k:Int)+1)):=af rfl;rw [ae HRH] at HP;generalize isRoot (s6 L ((k:Int)+1))=R at *;generalize s6 L ((k:Int)+1)=row at *;generalize cJ ((k:Int)+1)=p at *;clear hwv;rw [show((5:Nat):Int)=5 from rfl] at HP;cases R with
    | true =>
     have HE:Hid (vC L (k+1)=vC L k++[(3,(k:Int)+1)]):=af (ae HYK (by simp));clear HYK HNK;go_wp2_with fail
     refine(ae HH).mono ?_;rintro e w1 ⟨rfl,ay⟩;have lK:=af (ae HP w1 ay);have aL:=af ay;clear ay HH HP;go_wp2_with fail
     refine(ae lK).mono ?_;rintro e w2 ⟨a2,c2,rfl,fD,aK⟩;have Le:=af (ae HA w2 a2 c2 fD);have cD:=zTs aL aK;have qb:=af ((ae HO).below cD);have ez:=zTr aQ cD;clear aK fD cD lK aL HA HO aQ;go_wp2_with fail
     refine(ae Le).mono ?_;rintro e w3 ⟨rfl,nE⟩;subst nE;clear Le;have fp:Below w2.heap.size w2 (w2.alloc (.cells #[.int .i64 3,.int .i64 ((k:Int)+1)] 168)):=zBr.alloc zNr _;have Zw:=af ((ae qb).below fp);have kj:=zTr ez fp;have jK:Hid ((w2.alloc (.cells #[.int .i64 3,.int .i64 ((k:Int)+1)] 168)).heap[w2.heap.size]?=some (.cells (Cs (3,(k:Int)+1)).toArray 168 (0,0))):=af (heap_alloc_new w2 _);have hs4:=(ae ez).size;clear fp qb ez;go_wp2_with (at_builtin;refine bM rfl _ _ 85 rfl w.heap.size i0 (.agg #[.int .i64 0,.int .i64 0]) 16 zu85 eP cY dw dz rfl (by decide) (by decide) _ _ rfl (ae Zw) w2.heap.size (3,(k:Int)+1) rfl (ae jK) rfl (rV _) (Nat.le_trans (ae vG) (by omega)) (by simp;omega) ?_)
     intro v9 w9 aZ en;have pS:=af aZ;have jI:=af ((ae kj).trans en);obtain⟨a9,m9,c9,rfl⟩:=aZ.shape;clear aZ en Zw kj jK;go_wp2;go_roundw
     case rel=>exact⟨k+1,by omega,by go_num,by rw [ae HE];exact ae pS,ae jI⟩
     case measure=>simp [intOf];omega
    | false =>
     have HE:Hid (vC L (k+1)=vC L k):=af (ae HNK (by simp));clear HYK HNK;go_wp2_with fail
     refine(ae HH).mono ?_;rintro e w1 ⟨rfl,ay⟩;have lK:=af (ae HP w1 ay);have aL:=af ay;clear ay HH HP;go_wp2_with fail
     refine(ae lK).mono ?_;rintro e w2 ⟨a2,c2,rfl,fD,aK⟩;have Le:=af (ae HA w2 a2 c2 fD);have cD:=zTs aL aK;have qb:=af ((ae HO).below cD);have ez:=zTr aQ cD;clear aK fD cD lK aL HA HO aQ;go_wp2_with fail
     refine(ae Le).mono ?_;rintro e w3 ⟨rfl,nE⟩;subst nE;clear Le;go_wp2;go_roundw
     case rel=>exact⟨k+1,by omega,by go_num,by rw [ae HE];exact ae qb,ae ez⟩
     case measure=>simp [intOf];omega
   ·have hwv:ZS L ((k:Int)+1)=B9 L ((k:Int)+1):=by unfold ZS;rw [if_neg ht]
    have gy:(aq L ((k:Int)+1) != 0)=true:=bne_iff_ne.2 ht;rw [gy,if_pos rfl] at bX;rw [hwv] at HYK HNK;clear az ao ht gy hwv;generalize B9 L ((k:Int)+1)=c at *;by_cases hc:c=0
    ·subst hc;have HE:Hid (vC L (k+1)=vC L k):=af (ae HNK rfl);clear HYK HNK;go_wp2;go_roundw
     case rel=>exact⟨k+1,by omega,by go_num,by rw [ae HE];exact ae HO,ae aQ⟩
     case measure=>simp [intOf];omega
    ·have HE:Hid (vC L (k+1)=vC L k++[(c,(k:Int)+1)]):=af (ae HYK hc);have hc':(c != 0)=true:=bne_iff_ne.2 hc;have qb:=HO;have ez:=aQ;clear HYK HNK HO aQ;have fp:Below wr.heap.size wr (wr.alloc (.cells #[.int .i64 c,.int .i64 ((k:Int)+1)] 168)):=zBr.alloc zNr _;have Zw:=af ((ae qb).below fp);have kj:=zTr ez fp;have jK:Hid ((wr.alloc (.cells #[.int .i64 c,.int .i64 ((k:Int)+1)] 168)).heap[wr.heap.size]?=some (.cells (Cs (c,(k:Int)+1)).toArray 168 (0,0))):=af (heap_alloc_new wr _);have hs4:=(ae ez).size;clear fp qb ez;go_wp2_with (at_builtin;refine bM rfl _ _ 85 rfl w.heap.size i0 (.agg #[.int .i64 0,.int .i64 0]) 16 zu85 eP cY dw dz rfl (by decide) (by decide) _ _ rfl (ae Zw) wr.heap.size (c,(k:Int)+1) rfl (ae jK) rfl (rV _) (Nat.le_trans (ae vG) (by omega)) (by simp;omega) ?_)
     intro v9 w9 aZ en;have pS:=af aZ;have jI:=af ((ae kj).trans en);obtain⟨a9,m9,c9,rfl⟩:=aZ.shape;clear aZ en Zw kj jK;go_wp2;go_roundw
     case rel=>exact⟨k+1,by omega,by go_num,by rw [ae HE];exact ae pS,ae jI⟩
     case measure=>simp [intOf];omega
  ·obtain rfl:k=40:=by omega
   have HO:=af az;have aQ:=af ao;clear az ao;go_wp2;go_ret;exact⟨_,rfl,ae HO,ae aQ⟩
def Wa(c:Int)(R I:Bool)(v:Int):Bool:=(c != 0) || (R || (!I || (v != 0)))
theorem Mr(a:Option Addr)(cap:Nat)(r:List Int)(m:Nat)(w:World)(s:ByteArray)(c:Int)(R I:Bool)(v:Int)(aX:Bs w a cap r)(h11:r.length=11)(hs:(aT (r.take 8)).1=s)(hc:(aT (r.take 8)).2=c)(hR:isRoot ((r.drop 8).take 2)=R)
  (bX:∀ W,Below w.heap.size w W->(Instr.lookup 164 (.map (some m)) (.int .i64 (r.getD 10 0)) true).run Tryz.prog W=.ok (.tuple #[.int .i64 v,.bool I]) W) :
  Calls Tryz.prog 160 #[.slice a 11 cap,.map (some m)] w fun e w'=>e=.returned (.tuple #[.string (if Wa c R I v=true then { data:=#[]} else s),.bool (!Wa c R I v)])/\Below w.heap.size w w':=by
 obtain⟨a1,gP,ay⟩:=jm (P:=Tryz.prog) (t:=30) zu30 aN aX 8 (by omega);rw [h11,show((8:Nat):Int)=8 from rfl] at gP;have h8:(r.take 8).length=8:=by rw [zLt];omega
 have HG:=af (qS a1 cap (r.take 8) w ay);rw [h8,hs,hc] at HG;obtain⟨a2,gM,aK⟩:=eU (P:=Tryz.prog) (t:=30) zu30 aN aX 8 10 (by omega) (by omega);rw [h11,show((8:Nat):Int)=8 from rfl,show((10:Nat):Int)=10 from rfl,show 10-8=2 from rfl] at gM;have h2:((r.drop 8).take 2).length=2:=by simp;omega
 have HA:=af (fun(W:World) (hW:Below w.heap.size w W)=>wF a2 _ _ W (aK.below hW));rw [hR,h2] at HA;obtain⟨b,off,rfl,bk⟩:=aX.at 10 (by omega);have sE:=aX.1.getD 10;have aM:=block_lt_of_cell bk;dsimp only at aM;have HL:=af bX;generalize r.getD 10 0=x at *;clear bX ay aK hs hc hR h8 h2 aX;unfold Wa;by_cases h0:c=0
 ·subst h0;rw [aA] at HG;have hz:((0:Int) != 0)=false:=rfl;rw [hz,Bool.false_or];cases R with
  | true =>
   rw [Bool.true_or,if_pos rfl,Bool.not_true];go_enter Tryz.func160,Tryz.ntmps160
   go_wp2_with fail
   refine(ae HG).mono ?_;rintro e w1 ⟨rfl,fR⟩;have dR:=(fR.cell (block_lt_of_cell bk)).trans bk;have wJ:=ae HL w1 fR;have HA1:=af (ae HA w1 fR);have aL:=af fR;have kU:b<w1.heap.size:=Nat.lt_of_lt_of_le aM fR.size;clear fR HG HL HA bk aM;go_wp2_with (go_at_call 158;refine(ae HA1).mono ?_;rintro e w2 ⟨rfl,Xb⟩;subst Xb)
   go_ret2;exact⟨rfl,ae aL⟩
  | false =>
   rw [Bool.false_or];cases I with
   | false =>
    rw [Bool.not_false,Bool.true_or,if_pos rfl,Bool.not_true];go_enter Tryz.func160,Tryz.ntmps160
    go_wp2_with fail
    refine(ae HG).mono ?_;rintro e w1 ⟨rfl,fR⟩;have dR:=(fR.cell (block_lt_of_cell bk)).trans bk;have wJ:=ae HL w1 fR;have HA1:=af (ae HA w1 fR);have aL:=af fR;have kU:b<w1.heap.size:=Nat.lt_of_lt_of_le aM fR.size;clear fR HG HL HA bk aM;go_wp2_with (go_at_call 158;refine(ae HA1).mono ?_;rintro e w2 ⟨rfl,Xb⟩;subst Xb)
    go_ret2;exact⟨rfl,ae aL⟩
   | true =>
    rw [Bool.not_true,Bool.false_or];by_cases hv:v=0
    ·subst hv;rw [hz,if_neg (by simp),Bool.not_false];go_enter Tryz.func160,Tryz.ntmps160
     go_wp2_with fail
     refine(ae HG).mono ?_;rintro e w1 ⟨rfl,fR⟩;have dR:=(fR.cell (block_lt_of_cell bk)).trans bk;have wJ:=ae HL w1 fR;have HA1:=af (ae HA w1 fR);have aL:=af fR;have kU:b<w1.heap.size:=Nat.lt_of_lt_of_le aM fR.size;clear fR HG HL HA bk aM;go_wp2_with (go_at_call 158;refine(ae HA1).mono ?_;rintro e w2 ⟨rfl,Xb⟩;subst Xb)
     go_ret2;exact⟨rfl,ae aL⟩
    ·have hv':(v != 0)=true:=bne_iff_ne.2 hv;rw [hv',if_pos rfl,Bool.not_true];go_enter Tryz.func160,Tryz.ntmps160
     go_wp2_with fail
     refine(ae HG).mono ?_;rintro e w1 ⟨rfl,fR⟩;have dR:=(fR.cell (block_lt_of_cell bk)).trans bk;have wJ:=ae HL w1 fR;have HA1:=af (ae HA w1 fR);have aL:=af fR;have kU:b<w1.heap.size:=Nat.lt_of_lt_of_le aM fR.size;clear fR HG HL HA bk aM;go_wp2_with (go_at_call 158;refine(ae HA1).mono ?_;rintro e w2 ⟨rfl,Xb⟩;subst Xb)
     go_ret2;exact⟨rfl,ae aL⟩
 ·rw [aC _ h0] at HG;have hz:(c != 0)=true:=bne_iff_ne.2 h0;rw [hz,Bool.true_or,if_pos rfl,Bool.not_true];clear hz h0;go_enter Tryz.func160,Tryz.ntmps160
  go_wp2_with fail
  refine(ae HG).mono ?_;rintro e w1 ⟨rfl,fR⟩;have dR:=(fR.cell (block_lt_of_cell bk)).trans bk;have wJ:=ae HL w1 fR;have aL:=af fR;have kU:b<w1.heap.size:=Nat.lt_of_lt_of_le aM fR.size;clear fR HG HL HA bk aM;go_wp2_with fail
  go_ret2;exact⟨rfl,ae aL⟩
theorem ua(l:List Int):(aT l).1.size<=l.length:=by
 unfold aT;split
 ·simp
 ·split
  ·simp
  ·have:(strOf (l.take (bU l))).size=(l.take (bU l)).length:=by have h:=oS (l.take (bU l));have h2:=congrArg List.length h;simpa using h2
   rw [this,zLt];omega
end
section
open Go.MapKept
open Go.ChangeMaps
def zj(w:World)(m n:Nat)(ns:List ByteArray):Prop :=∃ Dm:DataW Unit,w.ownsMap Tryz.prog 9 (plainElem Tryz.prog 3) m n Dm/\∀ s:ByteArray,Maps.has Dm (.string s.data.toList)=ns.contains s
theorem zj.made(w:World):zj (w.alloc (.map #[] 0)) w.heap.size 0 []:=⟨.map [],World.ownsMap_made w _ _ _,fun s=>rfl⟩
theorem zj.lt{w:World}{m n:Nat}{ns:List ByteArray}(h:zj w m n ns):m<w.heap.size:=by obtain⟨Dm,h1,_⟩:=h;exact h1.lt
theorem zj.same{w w':World}{m n:Nat}{ns:List ByteArray}(h:zj w m n ns)(hs:w'.heap[m]?=w.heap[m]?):zj w' m n ns:=by obtain⟨Dm,⟨es,clock,hb,r⟩,h2⟩:=h;exact⟨Dm,⟨es,clock,hs.trans hb,r⟩,h2⟩
theorem zj.below{w w':World}{m n:Nat}{ns:List ByteArray}(h:zj w m n ns)(hb:Below w.heap.size w w'):zj w' m n ns:=h.same (hb.block m h.lt)
theorem zj.look{w:World}{m n:Nat}{ns:List ByteArray}(h:zj w m n ns)(s:ByteArray)(hs:s.size<=maxLen) :
  ∃ v,(Instr.lookup 112 (.map (some m)) (.string s) true).run Tryz.prog w=.ok (.tuple #[.int .i64 v,.bool (ns.contains s)]) w:=by
 obtain⟨Dm,h1,h2⟩:=h;have dt:=WideMaps.keyOf_string_mk (P:=Tryz.prog) zu9 hs;obtain⟨v,ps,bw,hv⟩:=h1.look_ok (Maps.string_keyed zu9) zu112 (zero_num w) (plainElem_int zu3 (a:=0) (by decide)) dt;obtain⟨a,rfl,_⟩:=plainElem_int_inv zu3 hv;exact⟨a,by rw [bw,h2 s]⟩
theorem zj.store{w:World}{m n:Nat}{ns ns':List ByteArray}(h:zj w m n ns)(s:ByteArray)(i:Int)(hs:s.size<=maxLen)(hn:n<=300)(hi:-9223372036854775808<=i/\i<=9223372036854775807)(hns:∀ t,ns'.contains t=(ns.contains t || (t == s))) :
  ∃ w',(Instr.mapUpdate 112 (.map (some m)) (.string s) (.int .i64 i)).run Tryz.prog w=.ok () w'/\zj w' m (n+1) ns'/\w.mapTurned w' m:=by
 obtain⟨Dm,h1,h2⟩:=h;have dt:=WideMaps.keyOf_string_mk (P:=Tryz.prog) zu9 hs;obtain⟨w',bw,ew,ht⟩:=h1.store (Maps.string_keyed zu9) zu112 (by unfold maxLen;omega) dt (plainElem_int zu3 (a:=i) (WalkArith.wf_i64 hi));have jM:WideAt.IsKeyLit (.string s.data.toList):=(Maps.string_keyed zu9).key dt;refine⟨w',bw,⟨_,ew,fun t=>?_⟩,ht⟩;rw [hns t];by_cases hj:t=s
 ·subst hj;rw [Maps.has_put_same h1.isMap jM,fF.2 rfl,Bool.or_true]
 ·have aO:Lit.string t.data.toList≠Lit.string s.data.toList:=by intro e;simp only [Lit.string.injEq] at e;exact hj (str_inj e)
  have e0:(t == s)=false:=by
   cases hq:(t == s) with
   | false=>rfl
   | true=>exact absurd (fF.1 hq) hj
  rw [Maps.has_put_other aO,h2 t,e0,Bool.or_false]
theorem RR{L:List Int}{i:Nat}(hq:b9 L.length=true)(hi:i<8) :
  Wa (aT ((rowAt L i).take 8)).2 (isRoot (((rowAt L i).drop 8).take 2)) ((entsK L 40).any (fun e=>e.1 == (rowAt L i).getD 10 0)) (Wj (entsK L 40) (B9 L) ((rowAt L i).getD 10 0))=pJ L i:=by
 have hl:=bF.1 hq;have h11:(rowAt L i).length=11:=aS (by omega);have hR:isRoot (((rowAt L i).drop 8).take 2)=(decide ((rowAt L i).getD 8 0≠0) || decide ((rowAt L i).getD 9 0≠0)):=by
  have hlen:(((rowAt L i).drop 8).take 2).length=2:=by simp;omega
  have hg:∀ j,j<2->(((rowAt L i).drop 8).take 2).getD j 0=(rowAt L i).getD (8+j) 0:=fun j hj=>by simp [List.getD,hj]
  have hz:=DK (l:=((rowAt L i).drop 8).take 2);rw [hlen] at hz;have g0:=hg 0 (by omega);have g1:=hg 1 (by omega);rw [Nat.add_zero] at g0;cases hr:isRoot (((rowAt L i).drop 8).take 2) with
  | false =>have h0:=hz.1 hr 0 (by omega);have h1:=hz.1 hr 1 (by omega);rw [g0] at h0;rw [g1] at h1;rw [h0,h1];rfl
  | true =>
   symm;rw [Bool.or_eq_true,decide_eq_true_iff,decide_eq_true_iff];refine Classical.byContradiction fun hn=>?_
   have h8:(rowAt L i).getD 8 0=0:=Classical.byContradiction fun h=>hn (.inl h)
   have h9:(rowAt L i).getD 9 0=0:=Classical.byContradiction fun h=>hn (.inr h)
   have:isRoot (((rowAt L i).drop 8).take 2)=false:=hz.2 (fun j hj=>by
    match j,hj with
    | 0,_=>rw [g0];exact h8
    | 1,_=>rw [g1];exact h9
    | j+2,hj=>omega)
   rw [this] at hr;cases hr
 unfold Wa pJ Wj;rw [hR,xo];generalize (rowAt L i).getD 10 0=x;have e1:∀ c:Int,(c != 0)=decide (c≠0):=fun c=>by
  by_cases h:c=0
  ·subst h;rfl
  ·rw [bne_iff_ne.2 h,decide_eq_true h]
 rw [e1,Bool.or_assoc]
 congr 3
 have fR:=iJ (b:=L) (h:=x);have hw0:=oR (b:=L) (h:=x);have hwc:=zp L x;cases dC x with
 | false=>rfl
 | true =>
  rw [Bool.true_and,Bool.not_true,Bool.false_or];by_cases ht:aq L x=0
  ·have:oM L x≠1:=by rw [hw0.2 ht];decide
   rw [ht,decide_eq_true this];rfl
  ·rw [bne_iff_ne.2 ht,if_pos rfl,Bool.not_true,Bool.false_or,e1];unfold B9;rcases hwc with h | h | h | h
   ·exact absurd (hw0.1 h) ht
   ·rw [h];rfl
   ·rw [h];rfl
   ·rw [h];rfl
theorem Mt(a:Option Addr)(cap:Nat)(L:List Int)(i m:Nat)(w:World)(aX:Bs w a cap (rowAt L i))(hq:b9 L.length=true)(hi:i<8)(hm:Bz w m (entsK L 40) (B9 L)) :
  Calls Tryz.prog 160 #[.slice a 11 cap,.map (some m)] w fun e w'=>e=.returned (.tuple #[.string (if pJ L i=true then { data:=#[]} else nameAt L i),.bool (!pJ L i)])/\Below w.heap.size w w':=by
 have hl:=bF.1 hq;rw [<- RR hq hi];have sE:=aX.1.getD 10;exact Mr a cap (rowAt L i) m w _ _ _ _ _ aX (aS (by omega)) rfl rfl rfl (fun W hW=>(hm.below hW).look _ (by omega))
theorem zdN{L:List Int}{k:Nat}(h:dX L k=[]):vy L (k+1)=vy L k:=by
 show vy L k++_=_
 rw [h,List.append_nil]
theorem zaM{L:List Int}{k:Nat}{f:Int×Int}(h:dX L k=[f]):vy L (k+1)=vy L k++[f]:=by
 show vy L k++_=_
 rw [h]
theorem za7{L:List Int}{k:Nat}(h:dJ L k (cG L k)=false):cG L (k+1)=cG L k:=by
 show cG L k++_=_
 rw [h,if_neg (by simp),List.append_nil]
theorem V7{L:List Int}{k:Nat}(h:dJ L k (cG L k)=true):cG L (k+1)=cG L k++[nameAt L k]:=by
 show cG L k++_=_
 rw [if_pos h]
theorem bT.base{α:Type}{enc:α->List Value}{k T:Nat}{w:World}{B B':Nat}{v:Value}{l:List α}(h:bT enc k T w B v l)(hb:B'<=B):bT enc k T w B' v l:=by
 refine⟨h.1,?_⟩;rcases h.2 with h0 | ⟨g,cap,cur,rfl,hB,hc,h3⟩
 ·exact .inl h0
 ·exact .inr ⟨g,cap,cur,rfl,by omega,hc,h3⟩
theorem zj.more{w:World}{m n n':Nat}{ns:List ByteArray}(h:zj w m n ns)(hn:n<=n'):zj w m n' ns:=by obtain⟨Dm,⟨es,clock,hb,F,hs,r⟩,h2⟩:=h;exact⟨Dm,⟨es,clock,hb,F,by omega,r⟩,h2⟩
theorem zb7{ns:List ByteArray}{s t:ByteArray}(h:ns.contains s=true):ns.contains t=(ns.contains t || (t == s)):=by
 by_cases e:t=s
 ·subst e;rw [h];rfl
 ·have e0:(t == s)=false:=by
   cases hq:(t == s) with
   | false=>rfl
   | true=>exact absurd (fF.1 hq) e
  rw [e0,Bool.or_false]
theorem YQ{ns:List ByteArray}{s t:ByteArray}:(ns++[s]).contains t=(ns.contains t || (t == s)):=by
 haveI:=se
 rw [List.contains_eq_any_beq,List.contains_eq_any_beq,List.any_append,List.any_cons,List.any_nil,Bool.or_false]
theorem Nx(a:Option Addr)(cap:Nat)(L:List Int)(m:Nat)(w:World)(aX:Bs w a cap L)(hq:b9 L.length=true)(hm:Bz w m (entsK L 40) (B9 L)) :
  Calls Tryz.prog 97 #[.slice a L.length cap,.map (some m)] w fun r w'=>∃ v,r=.returned v/\bT Cs 2 168 w' w.heap.size v (vy L 8)/\Below w.heap.size w w':=by
 have hl:=bF.1 hq;obtain⟨i0,eP,cY,dw,dz⟩:=info_parts uE;have iq:=aX.2.2.1;have HB:=af aX;have HM:=af hm;have HQ:=af hq;have D1:=@run_makeMap Tryz.prog;clear aX hm hq;go_enter Tryz.func97,Tryz.ntmps97
 go_wp2_with fail
 go_loopw [5,14] (fun v iv wr=>∃ k:Nat,k<=8/\iv=.int .i64 (k:Int)/\bT Cs 2 168 wr (w.heap.size+1) v (vy L k)/\zj wr w.heap.size k (cG L k)/\Below w.heap.size w wr) (fun _ iv _=>8-(intOf iv).toNat)
 case atStart=>exact⟨0,by omega,rfl,bT.nil _ _,zj.made w,zBr.alloc zNr _⟩
 case round =>
  obtain⟨k,hk,rfl,az,hnm,ao⟩:=hrel;obtain⟨va,vm,vc,rfl⟩:=az.shape;by_cases aM:k<8
  ·have vG:=af (rD L k);have HO:=af az;have G0:=af hnm;have aQ:=af ao;have HH:=af (Ab k wr aM);have HP:=af (fun(W:World) (hW:Below wr.heap.size wr W)=>IS a cap L (200+11 * k) 11 W (((ae HB).below ao).below hW) (by omega));have HA:=af (fun(W:World) (a':Option Addr) (c':Nat) (h:Bs W a' c' (rowAt L k))=>wF a' c' _ W h);have yy:=af (fun(W:World) (a':Option Addr) (c':Nat) (h:Bs W a' c' (rowAt L k)) (hW:Below wr.heap.size wr W)=>Mt a' c' L k m W h (ae HQ) aM (((ae HM).below ao).below hW));have uJ:(rowAt L k).length=11:=aS (by omega);rw [uJ] at HA;have HRH:Hid ((L.drop (200+11 * k)).take 11=rowAt L k):=af rfl;rw [ae HRH,show((11:Nat):Int)=11 from rfl] at HP;clear HRH uJ az hnm ao;have hns:(nameAt L k).size<=maxLen:=by have:=ua ((rowAt L k).take 8);unfold nameAt;rw [zLt] at this;unfold maxLen;omega
   have Ci:dX L k=if isRoot (rowAt L k)=false then [] else if pJ L k=true then [(4,(k:Int))] else if (cG L k).contains (nameAt L k)=true then [(5,(k:Int))] else []:=rfl
   have hfi:dJ L k (cG L k)=(isRoot (rowAt L k) && (!pJ L k && !(cG L k).contains (nameAt L k))):=rfl;have HF0:=af (fun h=>zdN (L:=L) (k:=k) h);have Ub:=af (fun f h=>zaM (L:=L) (k:=k) (f:=f) h);have G3:=af (fun h=>za7 (L:=L) (k:=k) h);have GC:=af (fun h=>V7 (L:=L) (k:=k) h);rw [Ci] at HF0 Ub;rw [hfi] at G3 GC;clear Ci hfi;have HCI:=af (fun t=>zb7 (ns:=cG L k) (s:=nameAt L k) (t:=t));generalize hcq:(cG L k).contains (nameAt L k)=C at *;have HCQ:=af hcq;clear hcq;generalize isRoot (rowAt L k)=R at *;generalize pJ L k=D at *;generalize rowAt L k=row at *;generalize 200+11 * k=p at *;cases R with
   | false =>
    have HE:Hid (vy L (k+1)=vy L k):=af (ae HF0 rfl);have HG:Hid (cG L (k+1)=cG L k):=af (ae G3 rfl);clear HF0 Ub G3 GC HCI HCQ;go_wp2_with fail
    refine(ae HH).mono ?_;rintro e w1 ⟨rfl,ay⟩;have lK:=af (ae HP w1 ay);have aL:=af ay;clear ay HH HP;go_wp2_with fail
    refine(ae lK).mono ?_;rintro e w2 ⟨a2,c2,rfl,fD,aK⟩;have Le:=af (ae HA w2 a2 c2 fD);have cD:=zTs aL aK;have HNM:=af (ae yy w2 a2 c2 fD cD);have qb:=af ((ae HO).below cD);have yV:=af ((ae G0).below cD);have ez:=zTr aQ cD;clear aK fD cD lK aL HA HO aQ G0 yy;go_wp2_with (go_at_call 158;refine(ae Le).mono ?_;rintro e w3 ⟨rfl,nE⟩;subst nE)
    go_roundw
    case rel=>exact⟨k+1,by omega,by go_num,by rw [ae HE];exact ae qb,by rw [ae HG];exact(ae yV).more (Nat.le_succ _),ae ez⟩
    case measure=>simp [intOf];omega
   | true =>
    cases D with
    | true =>
     have HE:Hid (vy L (k+1)=vy L k++[(4,(k:Int))]):=af (ae Ub _ rfl);have HG:Hid (cG L (k+1)=cG L k):=af (ae G3 rfl);clear HF0 Ub G3 GC HCI HCQ;go_wp2_with fail
     refine(ae HH).mono ?_;rintro e w1 ⟨rfl,ay⟩;have lK:=af (ae HP w1 ay);have aL:=af ay;clear ay HH HP;go_wp2_with fail
     refine(ae lK).mono ?_;rintro e w2 ⟨a2,c2,rfl,fD,aK⟩;have Le:=af (ae HA w2 a2 c2 fD);have cD:=zTs aL aK;have HNM:=af (ae yy w2 a2 c2 fD cD);have qb:=af ((ae HO).below cD);have yV:=af ((ae G0).below cD);have ez:=zTr aQ cD;clear aK fD cD lK aL HA HO aQ G0 yy;go_wp2_with (go_at_call 158;refine(ae Le).mono ?_;rintro e w3 ⟨rfl,nE⟩;subst nE)
     refine(ae HNM).mono ?_;rintro e w5 ⟨rfl,gJ⟩;have Lb:=af ((ae qb).below gJ);have HN5:=af ((ae yV).below gJ);have lj:=zTr ez gJ;clear qb yV ez gJ HNM Le;have qb:=Lb;have yV:=HN5;have ez:=lj;clear Lb HN5 lj;have fp:Below w5.heap.size w5 (w5.alloc (.cells #[.int .i64 4,.int .i64 (k:Int)] 168)):=zBr.alloc zNr _;have Zw:=af ((ae qb).below fp);have HNA:=af ((ae yV).below fp);have kj:=zTr ez fp;have jK:Hid ((w5.alloc (.cells #[.int .i64 4,.int .i64 (k:Int)] 168)).heap[w5.heap.size]?=some (.cells (Cs (4,(k:Int))).toArray 168 (0,0))):=af (heap_alloc_new w5 _);have hs4:=(ae yV).lt;clear fp qb ez yV;go_wp2_with (at_builtin;refine bM rfl _ _ 85 rfl (w.heap.size+1) i0 (.agg #[.int .i64 0,.int .i64 0]) 16 zu85 eP cY dw dz rfl (by decide) (by decide) _ _ rfl (ae Zw) w5.heap.size (4,(k:Int)) rfl (ae jK) rfl (rV _) (Nat.le_trans (ae vG) (by omega)) (by simp;omega) ?_)
     intro v9 w9 aZ en;have hn9:=(ae HNA).same (en.block _ (Nat.lt_succ_self _));have Ef:=(ae kj).trans (en.mono (Nat.le_succ _));have pS:=af aZ;have HN9:=af hn9;have jI:=af Ef;obtain⟨a9,m9,c9,rfl⟩:=aZ.shape;clear aZ en hn9 Ef Zw kj HNA jK;go_wp2;go_roundw
     case rel=>exact⟨k+1,by omega,by go_num,by rw [ae HE];exact ae pS,by rw [ae HG];exact(ae HN9).more (Nat.le_succ _),ae jI⟩
     case measure=>simp [intOf];omega
    | false =>
     cases C with
     | true =>
      have HE:Hid (vy L (k+1)=vy L k++[(5,(k:Int))]):=af (ae Ub _ rfl);have HG:Hid (cG L (k+1)=cG L k):=af (ae G3 rfl);have qh:=af (fun(W:World) (h:zj W w.heap.size k (cG L k))=>h.store (ns':=cG L k) (nameAt L k) k hns (by omega) (by omega) (fun t=>ae HCI t rfl));have Ua:=af (fun(W:World) (h:zj W w.heap.size k (cG L k))=>h.look (nameAt L k) hns);rw [ae HCQ] at Ua;clear HF0 Ub G3 GC HCI HCQ;generalize nameAt L k=name at *;go_wp2_with fail
      refine(ae HH).mono ?_;rintro e w1 ⟨rfl,ay⟩;have lK:=af (ae HP w1 ay);have aL:=af ay;clear ay HH HP;go_wp2_with fail
      refine(ae lK).mono ?_;rintro e w2 ⟨a2,c2,rfl,fD,aK⟩;have Le:=af (ae HA w2 a2 c2 fD);have cD:=zTs aL aK;have HNM:=af (ae yy w2 a2 c2 fD cD);have qb:=af ((ae HO).below cD);have yV:=af ((ae G0).below cD);have ez:=zTr aQ cD;clear aK fD cD lK aL HA HO aQ G0 yy;go_wp2_with (go_at_call 158;refine(ae Le).mono ?_;rintro e w3 ⟨rfl,nE⟩;subst nE)
      refine(ae HNM).mono ?_;rintro e w5 ⟨rfl,gJ⟩;have Lb:=af ((ae qb).below gJ);have HN5:=af ((ae yV).below gJ);have lj:=zTr ez gJ;clear qb yV ez gJ HNM Le;have qb:=Lb;have yV:=HN5;have ez:=lj;clear Lb HN5 lj;obtain⟨lv,lP⟩:=ae Ua w5 (ae yV);have fp:Below w5.heap.size w5 (w5.alloc (.cells #[.int .i64 5,.int .i64 (k:Int)] 168)):=zBr.alloc zNr _;have Zw:=af ((ae qb).below fp);have HNA:=af ((ae yV).below fp);have kj:=zTr ez fp;have jK:Hid ((w5.alloc (.cells #[.int .i64 5,.int .i64 (k:Int)] 168)).heap[w5.heap.size]?=some (.cells (Cs (5,(k:Int))).toArray 168 (0,0))):=af (heap_alloc_new w5 _);have hs4:=(ae yV).lt;clear fp qb ez yV;go_wp2_with (at_builtin;refine bM rfl _ _ 85 rfl (w.heap.size+1) i0 (.agg #[.int .i64 0,.int .i64 0]) 16 zu85 eP cY dw dz rfl (by decide) (by decide) _ _ rfl (ae Zw) w5.heap.size (5,(k:Int)) rfl (ae jK) rfl (rV _) (Nat.le_trans (ae vG) (by omega)) (by simp;omega) ?_)
      intro v9 w9 aZ en;have hn9:=(ae HNA).same (en.block _ (Nat.lt_succ_self _));have Ef:=(ae kj).trans (en.mono (Nat.le_succ _));obtain⟨w10,jw,Xw,j5⟩:=ae qh w9 hn9;have sl:=af (Ef.grown j5.grown Ef.size (fun j hj=>by cases hj;exact zNr));have Ot:=af (aZ.EW j5 (Nat.lt_succ_self _));have Zy:=af Xw;obtain⟨a9,m9,c9,rfl⟩:=aZ.shape;clear aZ en hn9 Ef Zw kj HNA jK j5 Xw qh Ua;go_wp2;go_roundw
      case rel=>exact⟨k+1,by omega,by go_num,by rw [ae HE];exact ae Ot,by rw [ae HG];exact ae Zy,ae sl⟩
      case measure=>simp [intOf];omega
     | false =>
      have HE:Hid (vy L (k+1)=vy L k):=af (ae HF0 rfl);have HG:Hid (cG L (k+1)=cG L k++[nameAt L k]):=af (ae GC rfl);have qh:=af (fun(W:World) (h:zj W w.heap.size k (cG L k))=>h.store (ns':=cG L k++[nameAt L k]) (nameAt L k) k hns (by omega) (by omega) (fun t=>YQ));have Ua:=af (fun(W:World) (h:zj W w.heap.size k (cG L k))=>h.look (nameAt L k) hns);rw [ae HCQ] at Ua;clear HF0 Ub G3 GC HCI HCQ;generalize nameAt L k=name at *;go_wp2_with fail
      refine(ae HH).mono ?_;rintro e w1 ⟨rfl,ay⟩;have lK:=af (ae HP w1 ay);have aL:=af ay;clear ay HH HP;go_wp2_with fail
      refine(ae lK).mono ?_;rintro e w2 ⟨a2,c2,rfl,fD,aK⟩;have Le:=af (ae HA w2 a2 c2 fD);have cD:=zTs aL aK;have HNM:=af (ae yy w2 a2 c2 fD cD);have qb:=af ((ae HO).below cD);have yV:=af ((ae G0).below cD);have ez:=zTr aQ cD;clear aK fD cD lK aL HA HO aQ G0 yy;go_wp2_with (go_at_call 158;refine(ae Le).mono ?_;rintro e w3 ⟨rfl,nE⟩;subst nE)
      refine(ae HNM).mono ?_;rintro e w5 ⟨rfl,gJ⟩;have Lb:=af ((ae qb).below gJ);have HN5:=af ((ae yV).below gJ);have lj:=zTr ez gJ;clear qb yV ez gJ HNM Le;have qb:=Lb;have yV:=HN5;have ez:=lj;clear Lb HN5 lj;obtain⟨lv,lP⟩:=ae Ua w5 (ae yV);obtain⟨w10,jw,Xw,j5⟩:=ae qh w5 (ae yV);have sl:=af ((ae ez).grown j5.grown (ae ez).size (fun j hj=>by cases hj;exact zNr));have Ot:=af ((ae qb).EW j5 (Nat.lt_succ_self _));have Zy:=af Xw;clear qb yV ez j5 Xw qh Ua;go_wp2;go_roundw
      case rel=>exact⟨k+1,by omega,by go_num,by rw [ae HE];exact ae Ot,by rw [ae HG];exact ae Zy,ae sl⟩
      case measure=>simp [intOf];omega
  ·obtain rfl:k=8:=by omega
   have HO:=af (az.base (Nat.le_succ w.heap.size));have aQ:=af ao;clear az ao hnm;go_wp2;go_ret;exact⟨_,rfl,ae HO,ae aQ⟩
end
section
open Go.Shelf
def A2:Ren:={ f:=fun | 4=>157 | n=>n,t:=fun | 22=>85 | 25=>168 | 3=>3 | 4=>4 | 9=>9 | 20=>20 | 0=>0 | 2=>3 | n=>n,g:=fun n=>n }
theorem Yp:Lays8.n4 Tryz.prog A2:={ mixed:=by kernel_rfl,f4:=⟨ "slices.Grow[[]vaultkeel/api.Fault,vaultkeel/api.Fault]",by decide,Tryz.func157.trans rfl⟩,t0:=Tryz.underlying0,a0:=Tryz.isAgg0,z0:=Tryz.sizeOf0,v0:=Tryz.zeroValue0,t3:=Tryz.underlying3,a3:=Tryz.isAgg3,z3:=Tryz.sizeOf3,v3:=Tryz.zeroValue3,t4:=Tryz.underlying4,a4:=Tryz.isAgg4,z4:=Tryz.sizeOf4,v4:=Tryz.zeroValue4,t9:=Tryz.underlying9,a9:=Tryz.isAgg9,z9:=Tryz.sizeOf9,v9:=Tryz.zeroValue9,t20:=Tryz.underlying20,a20:=Tryz.isAgg20,z20:=Tryz.sizeOf20,v20:=Tryz.zeroValue20,t22:=Tryz.underlying85,a22:=Tryz.isAgg85,z22:=Tryz.sizeOf85,v22:=Tryz.zeroValue85 }
end
end Go.Proofs.YtcimhnnendlblaaGreat
