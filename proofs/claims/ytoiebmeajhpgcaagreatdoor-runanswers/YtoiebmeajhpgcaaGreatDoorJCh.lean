import Derived.Test.YtoiebmeajhpgcaaGreatDoorJIn
import Derived.Test.YtoiebmeajhpgcaaGreatDoorJCut
import Derived.Test.YtoiebmeajhpgcaaGreatDoorJExa
import Derived.Maps.OwnSet
import Derived.Test.YtoiebmeajhpgcaaGreatDoorJDfr
import Derived.StringKeys
set_option maxRecDepth 100000
set_option maxHeartbeats 16000000
set_option linter.all false
namespace Go.Proofs.YtoiebmeajhpgcaaGreatDoor
variable {P:Program}{n k m T B:Nat}{e:(Int×I3)}{w w':World}{E:List (Int×I3)}{f:Int->Int}{L:LI}{h:Int}{v:Value}{ns:List BA}{s t:BA}
open Tryz
open Go.RowKit
theorem TO c w:zC 312 #[.int .u8 c] w (zr (.bool (c != 0)) fun w'=>w=w'):=by
 go_enter func312,ntmps312
 exact Tt
theorem Qs a cap l w(aH:Bs w a cap l) :
  zC 234 #[.slice a l.length cap,.func (.func 312) #[] #[]] w (zr (zi (im l)) fun w'=>w=w'):=by
 have hl:=aH.2.2.1;have HN:=ae (fun k=>CA (l:=l) (k:=k));have HM:=ae (Cz (l:=l));generalize im l=F at*;go_enter func234,ntmps234
 go_wp2
 go_loop [5,8] (fun _ i=>∃k:Nat,k<=l.length/\i=zi k/\∀j,j<k->(l.getD j 0 != 0)=false) (fun _ i=>l.length-(intOf i).toNat)
 case atStart=>exact YR
 case round =>
  obtain⟨k,hk,rfl,bQ⟩:=hrel;have HA:=bQ;by_cases aB:k<l.length
  ·obtain⟨b,off,rfl,bf⟩:=aH.at k aB;have HC:=ae (TO (l.getD k 0) w);have HK:=ae (HN k aB);have HF:=ae (fun h=>cd.step (f:=fun j=>(l.getD j 0 != 0)) HA h);generalize l.getD k 0=c at*;cases hb:(c != 0)
   ·rw[hb]at HC;have HS:=ae (HF hb);go_wp2_with (go_at_call 312;refine HC.mono ?_;rintro e w' ⟨rfl,rfl⟩)
    exact OX
   ·rw[hb]at HC;have HS:=ae (HK hb HA);go_wp2_with (go_at_call 312;refine HC.mono ?_;rintro e w' ⟨rfl,rfl⟩)
    go_ret;exact⟨by rw[aa HS];rfl,rfl⟩
  ·exact Pl
theorem UP a cap l w(aH:Bs w a cap l) :
  zC 193 #[.slice a l.length cap,.func (.func 312) #[] #[]] w (zr (.bool (isRoot l)) fun w'=>w=w'):=by
 have HI:=ae (Qs a cap l w aH);have hv:im l=-1/\isRoot l=false\/0<=im l/\isRoot l=true:=by
  unfold im;cases isRoot l with
  | true=>rw[zy rfl];exact .inr ⟨Sg,rfl⟩
  | false=>rw[zn Sk];exact .inl ⟨rfl,rfl⟩
 exact DC
theorem BE a cap l w(aH:Bs w a cap l) :
  zC 272 #[.slice a l.length cap] w (zr (.bool (isRoot l)) fun w'=>w=w'):=by
 have HI:=ae (UP a cap l w aH);generalize isRoot l=R,l.length=N at*;go_enter func272,ntmps272
 go_wp2_with fail
 refine HI.m ?_;exact znc
theorem Of a cap l x n w(aH:Bs w a cap l)(hx:x+n<=l.length) :
  zC 273 #[.slice a l.length cap,.agg #[zi x,zi n]] w fun e w'=>∃a' c',e=.returned (.slice a' n c')/\Bs w' a' c' ((l.drop x).take n)/\zB w w':=by
 have gT:zB w (w.alloc (.cells #[zi x,zi n] 122)):=zBr.alloc zNr _;obtain⟨a1,fQ,ay⟩:=dP (P:=prog) (t:=29) underlying29 aT (aH.below gT) x (x+n) Sg hx;have e1:x+n-x=n:=Sg;rw[e1]at fQ ay;have e2:((x+n:Nat):Int)=(x:Int)+n:=Sg;rw[e2]at fQ;have iX:=ae gT;have aQ:=ae ay;have h3:=aH.2.2.1;generalize l.length=N at*;go_enter func273,ntmps273
 go_wp2;go_ret;exact⟨_,_,rfl,aQ,iX⟩
theorem KV h w(h1:1<=h)(h2:h<=40) :
  zC 274 #[zi h] w (zr (.agg #[zi (bT h:Nat),zi 5]) fun w'=>zB w w'):=by
 have HH:=ae (fun W=>gK h W);rw[aN.2 ⟨h1,h2⟩]at HH;have HP:=ae (fun W=>jU h W h1 h2);generalize bT h=p at*;go_enter func274,ntmps274
 go_wp2_with (first|(go_at_call 229;refine(HH _).m ?_;intro w1 hw;subst hw)|(go_at_call 190;refine(HP _).m ?_;intro w1 hw;subst hw))
 exact zmq
theorem EE(i:Nat) w(hi:i<8) :
  zC 200 #[zi i] w (zr (.agg #[zi (200+11*i:Nat),zi 11]) fun w'=>zB w w'):=by
 have HH:=ae (fun W=>vG i W);have hp:Oc i=true:=by unfold Oc;rw[qAa,qAK,qAK];omega
 rw[hp]at HH;have HP:=ae (fun W=>tu i W Sg);generalize 200+11*i=p at*;go_enter func200,ntmps200
 go_wp2_with (first|(go_at_call 237;refine(HH _).m ?_;intro w1 hw;subst hw)|(go_at_call 192;refine(HP _).m ?_;intro w1 hw;subst hw))
 exact zmq
theorem KA w(dT ty:TypeId)(hu:P.underlying dT=some (.slice 5))(hz:∀w,(zeroValue 5).run P w=.ok (.int .u8 0) w) B g off n dCap c cur z(h0:0<n)(fc:off+n<=z.length)(hg:Row w B g c cur z) :
  (Builtin.clear_ #[dT] ty #[.slice (some ⟨g,off,none⟩) n dCap]).run P w=.ok (.tuple #[]) (lB w g cur off (af n)):=by
 obtain⟨h1,h2,h3,h4,h5⟩:=hg;have eF:=run_storeCells_at P g off 5 ((af n).map (Value.int .u8)) 0 cur w h2 (by simp[ag];omega) (ed _);have hzc:(Builtin.zeroCells (Value.int .u8 0).cells n).toList=(af n).map (Value.int .u8):=by simp[Builtin.zeroCells,Value.cells,af,List.map_replicate];rw[List.eq_replicate_iff];simp[Nat.mod_one]
 obtain⟨m,rfl⟩:∃m,n=m+1:=⟨n-1,Sg⟩;have zp2:(storeCells ⟨g,off,none⟩ ((af (m+1)).map (Value.int .u8))).run P w=.ok () (lB w g cur off (af (m+1))):=by rw[lB];simpa[splice]using eF
 simp only[Builtin.clear_,qCi hu,hz,hzc,zp2,Sem.run_bind,Sem.run_pure,Result.andThen,List.getElem?_toArray,List.getElem?_cons_zero]
theorem zfr w:(zeroValue 5).run prog w=.ok (.int .u8 0) w:=by have h:(prog.info? 5).map (fun i=>(i.zero,i.size,i.bytes))=some (some (.int .u8 0),1,1):=SQ;obtain⟨i0,hi,cO,cU,cV⟩:=qAO h;simp[zeroValue,typeInfo,hi,cO]
def Hk(f:I2):List Value:=[zi f.1,zi f.2]
theorem xo f:(Hk f).length=2:=rfl
theorem xn f:∀u∈Hk f,u.oneCell'=true:=by intro u hu;unfold Hk at hu;exact ve
theorem zZ:(prog.info? 322).map (fun i=>(i.zero,i.size,i.bytes))=some (some (.agg #[zi 0,zi 0]),2,16):=SQ
section
open Go.Sort
open Go.Shelf
def ux(n:Int)(x e:I2):Bool:=nY n [x,e] != 0
theorem Xs{n}{x e}(hn:0<=n)(xj:n<=6400)(hx:there n x=true)(he:there n e=true):ux n x e=over e x:=by
 unfold ux nY;rw[zn Sg,zn Sk];unfold chkL;rw[zn (by rw[hx];simp),zn Sk];unfold chkL;rw[zn (by rw[he];simp),qAg,List.any_cons,List.any_nil,qCM];cases over e x with
 | true=>rw[zy rfl];rfl
 | false=>rw[zn Sk];rfl
theorem UO n x e w(hx:uc x)(he:uc e) :
  zC 311 #[zi n,.agg #[zi x.1,zi x.2],.agg #[zi e.1,zi e.2]] w fun r w'=>r=.returned (.bool (ux n x e))/\zB w w':=by
 have hb:zB w (((w.alloc (.cells #[zi x.1,zi x.2] 122)).alloc (.cells #[zi e.1,zi e.2] 122)).alloc (.cells #[zi x.1,zi x.2,zi e.1,zi e.2] 122)):=(((Below.refl _ w).alloc zNr _).alloc Sk _).alloc Tb _;have hg:=qAB ((w.alloc (.cells #[zi x.1,zi x.2] 122)).alloc (.cells #[zi e.1,zi e.2] 122)) (.cells #[zi x.1,zi x.2,zi e.1,zi e.2] 122);rw[cJ,cJ]at hg;have hex:xB (((w.alloc (.cells #[zi x.1,zi x.2] 122)).alloc (.cells #[zi e.1,zi e.2] 122)).alloc (.cells #[zi x.1,zi x.2,zi e.1,zi e.2] 122)) (some ⟨w.heap.size+1+1,0,none⟩) 2 [x,e]:=by
  refine⟨fun y hy=>?_,⟨Sk,fun h=>Um⟩,Sk,fun _=>⟨_,0,rfl,fun i hi=>?_⟩⟩
  ·rcases zMc hy with rfl|hy
   ·exact hx
   ·rw[zMs hy];exact he
  ·rw[qAD _ _ _ _ _ _ hg,qAD _ _ _ _ _ _ hg]
   match i,hi with
   | 0,_=>exact⟨rfl,rfl⟩
   | 1,_=>exact⟨rfl,rfl⟩
   | i+2,hi=>exact absurd hi Sk
 have HC:=ae (B0 n _ 2 [x,e] _ hex);have hv:nY n [x,e]=0/\ux n x e=false\/nY n [x,e]≠0/\ux n x e=true:=by
  unfold ux;by_cases h:nY n [x,e]=0
  ·exact .inl ⟨h,by rw[h];rfl⟩
  ·exact .inr ⟨h,qBZ.2 h⟩
 have HB:=ae hb;clear hb hex hg hx he;obtain⟨x1,x2⟩:=x;obtain⟨e1,e2⟩:=e;dsimp only at*;generalize ux n (x1,x2) (e1,e2)=r,nY n [(x1,x2),(e1,e2)]=c at*;rcases hv with ⟨rfl,rfl⟩|⟨hc,rfl⟩
 ·rw[aC]at HC;exact LZ
 ·rw[aF _ hc]at HC;exact LZ
structure Ex where
 val:I2
 ok:uc val
def exS(x:Ex):List Value:=lG x.1
theorem Wy x:(exS x).length=2:=rfl
theorem zhI x:∀u∈exS x,u.oneCell'=true:=by intro u hu;unfold exS lG at hu;exact ve
theorem zda:(prog.info? 122).map (fun i=>(i.zero,i.size,i.bytes))=some (some (.agg #[zi 0,zi 0]),2,16):=SQ
theorem MO n(x:Ex) e gn ge W(hn:W.cell? (zp gn)=some (zi n))(he:qB W ge e)(hi:uc (e.2.1,e.2.2.1)) :
  zC 310 #[.agg #[zi x.1.1,zi x.1.2],zq gn,zq ge] W fun r w'=>r=.returned (.bool (ux n x.1 (e.2.1,e.2.2.1)))/\zB W w':=by
 obtain⟨⟨x1,x2⟩,hx⟩:=x;obtain⟨h,a,l,t⟩:=e;have gT:zB W (W.alloc (.cells #[zi x1,zi x2] 122)):=(Below.refl _ W).alloc zNr _;have Gx:=(gT.cell (qAA hn)).trans hn;have he1:=he.below gT he.lt;obtain⟨c0,c1,c2,c3⟩:=he1.cells;have HO:=ae (UO n (x1,x2) (a,l) (W.alloc (.cells #[zi x1,zi x2] 122)) hx hi);have iX:=ae gT;have hgn:=qAA hn;have mi:=he.lt;dsimp only at*;generalize ux n (x1,x2) (a,l)=r at*;go_enter func310,ntmps310
 go_wp2_with fail
 refine HO.mono ?_;rintro e' w1 ⟨rfl,ay⟩;exact zmo
theorem P4 fv w:zC 331 #[.slice none 0 0,fv] w fun r w'=>r=.returned (zi (-1))/\w=w':=by
 go_enter func331,ntmps331
 go_wp2
 go_loop [5,8] (fun _ i=>i=zi 0) (fun _ _=>0)
 case atStart=>rfl
 case round =>subst hrel;exact Tt
theorem Uw fv w:zC 304 #[.slice none 0 0,fv] w fun r w'=>r=.returned (.bool false)/\w=w':=by
 have HI:=ae (P4 fv w);go_enter func304,ntmps304
 go_wp2_with (go_at_call 331;refine HI.m ?_;rintro w1 rfl)
 go_ret;exact Uq
def xM(L:LI)(e:(Int×I3))(T:List Ex):Int:=if dJ L e≠0 then 1 else if T.any (fun x=>ux L.length x.1 (e.2.1,e.2.2.1))=true then 2 else 0
theorem RW L e B v T w(hl:L.length<=140737488351232)(hi:uc (e.2.1,e.2.2.1))(hT:cX exS 2 122 w B v T)(hTl:T.length<=1000) :
  zC 270 #[zi L.length,kV e,v] w fun r w'=>r=.returned (zi (xM L e T))/\zB w w':=by
 obtain⟨x,a,l,t⟩:=e;have gT:zB w ((w.alloc (.cells #[zi (L.length:Int)] 3)).alloc (.cells #[zi x,zi a,zi l,zi t] 124)):=((Below.refl _ w).alloc zNr _).alloc Sk _;have HK:=ae (xu L (x,a,l,t) ((w.alloc (.cells #[zi (L.length:Int)] 3)).alloc (.cells #[zi x,zi a,zi l,zi t] 124)) hl hi.1);have iX:=ae gT;have gj:=qB.new (w.alloc (.cells #[zi (L.length:Int)] 3)) (x,a,l,t);rw[cJ]at gj;have hcn:((w.alloc (.cells #[zi (L.length:Int)] 3)).alloc (.cells #[zi x,zi a,zi l,zi t] 124)).cell? (zp w.heap.size)=some (zi (L.length:Int)):=by rw[qBQ _ _ _ Sk,qAD _ _ _ _ _ (0,0) (qAB w _)];rfl
 unfold kV at HK ⊢;dsimp only at HK ⊢ hi;obtain⟨va,vm,vc,rfl⟩:=hT.shape;by_cases h0:dJ L (x,a,l,t)=0
 ·have hw:xM L (x,a,l,t) T=if T.any (fun y=>ux L.length y.1 (a,l))=true then 2 else 0:=by unfold xM;rw[zn zcc]
  rw[h0,aC]at HK;rw[hw];clear hw h0;have HC:Hid (∀W:World,zB w W->qB W (w.heap.size+1) (x,a,l,t)->W.cell? (zp w.heap.size)=some (zi (L.length:Int)) ->
    zC 304 #[.slice va vm vc,.func (.func 310) #[] #[.pointer (some (zp w.heap.size)),.pointer (some ⟨w.heap.size+1,0,none⟩)]] W fun r w'=>r=.returned (.bool (T.any (fun y=>ux L.length y.1 (a,l))))/\zB W w'):=ae (fun W hW hE hN=>by
   have hTW:=hT.below hW;obtain⟨a1,c1,e1,lE⟩:=hTW.uM Wy Sg;simp only[qAS]at e1;obtain⟨rfl,rfl,rfl⟩:=e1;rcases hTW.2 with ⟨h',h00⟩|⟨g,cap,cur,h',hB,hc,h3,h4,h5,h6⟩
   ·simp only[qAS]at h';obtain rfl:T=[]:=qAp h00;rw[h'.1,h'.2.2];exact(Uw _ W).mono fun r w' ⟨hr,hw⟩=>⟨hr,Xd⟩
   ·simp only[qAS,qBL]at h';obtain⟨rfl,rfl⟩:=h';have aB:=(zAg hc).1;haveI:Inhabited Ex:=⟨⟨(0,0),by unfold uc;decide⟩⟩
    have qd:=AnyQ.slices_ContainsFunc zec 2 isAgg122 sizeOf122 exS Wy (fun y:Ex=>ux L.length y.1 (a,l)) 310 #[.pointer (some (zp w.heap.size)),.pointer (some ⟨w.heap.size+1,0,none⟩)] (enters_of func310 SQ rfl) g 0 T.length vc T W
     (fun W2 y hW2=>(MO L.length y (x,a,l,t) w.heap.size (w.heap.size+1) W2 ((hW2.cell (qAA hN)).trans hN) (hE.below hW2 hE.lt) hi).mono fun r w' ⟨hr,vQ⟩=>⟨hr,hW2.trans (vQ.mono hW2.size)⟩)
     zNr Sg aB
     (fun j hj i u hu=>by
      have ej:T[j]?=some T[j]! := by simp[hj]
      obtain⟨b,off,eh,bf⟩:=lE.2.2.2 (by intro e;rw[e]at hj;simp at hj);simp only[qAQ,qBI,qBj]at eh;obtain⟨rfl,rfl⟩:=eh;exact bf j _ ej i u hu)
    change zC 304 _ _ _ at qd;rw[qAk]at qd;exact qd)
  generalize T.any (fun y=>ux L.length y.1 (a,l))=r at*;have qs:=ae gj;have HCN:=ae hcn;cases r with
  | true =>rw[zy rfl];exact u7
  | false =>rw[zn Sk];exact u7
 ·have hw:xM L (x,a,l,t) T=1:=by unfold xM;rw[zy h0]
  rw[aF _ h0]at HK;rw[hw];generalize dJ L (x,a,l,t)=c at*;go_enter func270,ntmps270
  go_wp2_with fail
  refine HK.m ?_;intro w1 ay;exact zmo
end
section
open Go.MapKept
open Go.ChangeMaps
open Go.Sort
open Go.Shelf
open Go.Maps (Keyed)
theorem zh4{H:Type}{D:DataW H}{k}(h:Maps.has D k=false){z}:D.atKey k z=z:=by
 cases D <;> try rfl
 rename_i es
 show(match es.find? (fun p=>p.1.sameKey k)with | some p=>p.2 | none=>z)=z
 have:es.find? (fun p=>p.1.sameKey k)=none:=qCk.2 (fun p hp hs=>(qBz.1 h p hp) hs);rw[this]
def Gf(w:World)(m:Nat)(E:List (Int×I3))(f:Int->Int):Prop :=∃Dm:DataW Unit,w.ownsMap prog 3 (plainElem prog 3) m E.length Dm/\∀z:Int,Maps.has Dm (.int .i64 z)=E.any (fun e=>e.1 == z)/\(E.any (fun e=>e.1 == z)=true->∀d,Dm.atKey (.int .i64 z) d=.lit (.int .i64 (f z)))
theorem Gf.made(w:World) f:Gf (w.alloc (.map #[] 0)) w.heap.size [] f:=⟨.map [],World.ownsMap_made w _ _ _,fun z=>⟨rfl,fun h=>Um⟩⟩
theorem Gf.lt(h:Gf w m E f):m<w.heap.size:=zfq
theorem Gf.same(h:Gf w m E f)(hs:w'.heap[m]?=w.heap[m]?):Gf w' m E f:=zhC
theorem Gf.below(h:Gf w m E f)(hb:zB w w'):Gf w' m E f:=h.same (hb.block m h.lt)
theorem zc9:(prog.info? 3).map (fun i=>(i.zero,i.size,i.bytes))=some (some (zi 0),1,8):=SQ
theorem zero_num w:(zeroValue 3).run prog w=.ok (zi 0) w:=by obtain⟨i0,dU,cO,cU,cV⟩:=qAO zc9;simp[zeroValue,typeInfo,dU,cO]
def zcI(E:List (Int×I3))(f:Int->Int)(z:Int):Int:=if E.any (fun e=>e.1 == z)=true then f z else 0
theorem Gf.look(h:Gf w m E f) z(hz:-9223372036854775808<=z/\z<=9223372036854775807) :
  (Instr.lookup 301 (.map (some m)) (zi z) true).run prog w=.ok (.tuple #[zi (zcI E f z),.bool (E.any (fun e=>e.1 == z))]) w:=by
 obtain⟨Dm,h1,h2⟩:=h;have hwf:=qBo hz;have gL:=Maps.keyOf_int_mk (P:=prog) underlying3 hwf;obtain⟨v,ps,cF,hv⟩:=h1.look_ok (Maps.int_keyed underlying3) underlying301 (zero_num w) (plainElem_int underlying3 (a:=0) Si) gL;obtain⟨a,rfl,he,_⟩:=plainElem_int_inv underlying3 hv;have he':=qBB Prod.fst he;dsimp only at he';rw[cF,(h2 z).1];unfold zcI;cases hq:E.any (fun e=>e.1 == z)with
 | true =>rw[zy rfl];rw[(h2 z).2 hq]at he';simp only[DataW.lit.injEq,qCC,qBL]at he';rw[he']
 | false =>rw[zn Sk];rw[zh4 (by rw[(h2 z).1];exact hq)]at he';simp only[DataW.lit.injEq,qCC,qBL]at he';rw[he']
theorem Gf.store(h:Gf w m E f)(hk:E.length<=300) e(hz:-9223372036854775808<=e.1/\e.1<=9223372036854775807)(hf:-9223372036854775808<=f e.1/\f e.1<=9223372036854775807) :
  ∃w',(Instr.mapUpdate 301 (.map (some m)) (zi e.1) (zi (f e.1))).run prog w=.ok () w'/\Gf w' m (E++[e]) f/\w.mapTurned w' m:=by
 obtain⟨Dm,h1,h2⟩:=h;have hwf:=qBo hz;have gL:=Maps.keyOf_int_mk (P:=prog) underlying3 hwf;obtain⟨w',cF,jy,ht⟩:=h1.store (Maps.int_keyed underlying3) underlying301 Ts gL (plainElem_int underlying3 (a:=f e.1) (qBo hf));have sr:=(Maps.int_keyed underlying3).key gL;refine⟨w',cF,⟨_,by rw[zLa];exact jy,fun z=>?_⟩,ht⟩;rw[qCR];by_cases hj:z=e.1
 ·subst hj;rw[Maps.has_put_same h1.isMap sr];refine⟨Sk,fun _ d=>Maps.atKey_put_same h1.isMap sr _ _⟩
 ·have aG:Lit.int .i64 z≠Lit.int .i64 e.1:=by intro e;simp only[qCC,qBL]at e;exact hj e
  have e0:(e.1 == z)=false:=by rw[qAU];exact fun e=>hj e.symm
  rw[Maps.has_put_other aG,List.any_cons,List.any_nil,e0,qCM,qCM];refine⟨(h2 z).1,fun hq d=>?_⟩;rw[Maps.atKey_put_other aG];exact(h2 z).2 hq d
theorem rZ:∀ {k:Nat},e∈entsK L k ↔ ∃j:Nat,j<k/\aw L ((j:Int)+1)≠0/\e=ao L ((j:Int)+1)
 | 0=>by simp[entsK]
 | k+1=>by
  unfold entsK;rw[List.mem_append,rZ];by_cases ht:aw L ((k:Int)+1)=0
  ·exact Em
  ·exact BX
theorem WC:∀ {m:Nat},(entsK L m)[k]?=some e->∃j:Nat,j<m/\aw L ((j:Int)+1)≠0/\e=ao L ((j:Int)+1)/\(entsK L m).take k=entsK L j
 | 0,h=>by simp[entsK]at h
 | m+1,h=>by
  by_cases hk:k<(entsK L m).length
  ·have h':(entsK L m)[k]?=some e:=by unfold entsK at h;rwa[qAZ hk]at h
   obtain⟨j,h1,h2,h3,h4⟩:=WC h';refine⟨j,Sg,h2,h3,?_⟩
   show(entsK L m++_).take k=_
   rw[qAy Sg];exact h4
  ·unfold entsK at h;rw[qAR Sg]at h;by_cases ht:aw L ((m:Int)+1)=0
   ·rw[zy ht]at h;simp at h
   ·rw[zn ht]at h;have Wi:k=(entsK L m).length:=by have:=(zLs h).1;simp at this;omega
    subst Wi;rw[qCY]at h;refine⟨m,Sg,ht,(zOi h).symm,?_⟩
    show(entsK L m++_).take _=_
    rw[qAy zNr,qAk]
def C7(e:(Int×I3)):I2:=(e.2.1,e.2.2.1)
theorem WA(hb:bZ L)(hl:288<=L.length)(h1:1<=h)(h2:h<=40):uc (C7 (ao L h)):=by have hp:=du h1 h2;unfold C7 ao uc;dsimp only;rw[eY _ _ Sg,eY _ _ Sg];have e1:=hb.getD (bT h+1);have e2:=hb.getD (bT h+1+1);have e3:=hb.getD (bT h+3);have e4:=hb.getD (bT h+3+1);omega
theorem zde:uc (0,0):=by unfold uc;decide
def zkf(e:I2):Bool:=decide ((-9223372036854775808<=e.1/\e.1<=9223372036854775807)/\-9223372036854775808<=e.2/\e.2<=9223372036854775807)
theorem Pe{e}:zkf e=true ↔ uc e:=by unfold zkf uc;rw[qAK]
def GY(e:I2):Ex:=if h:zkf e=true then ⟨e,Pe.1 h⟩else ⟨(0,0),zde⟩
theorem ON{e}(h:uc e):(GY e).1=e:=by unfold GY;rw[dif_pos (Pe.2 h)]
def gO(L:LI)(E:List (Int×I3)):List Ex:=(E.filter (fun e=>decide (dJ L e=0))).map (fun e=>GY (C7 e))
theorem Sb L E:(gO L E).length<=E.length:=by unfold gO;rw[zLm];exact qBe _ _
def GX(L:LI)(h:Int):Int:=if sQ L h=3 then 1 else if sQ L h=2 then 2 else 0
theorem zj4 L h:-9223372036854775808<=GX L h/\GX L h<=9223372036854775807:=by
 unfold GX;split
 ·omega
 ·split <;> omega
theorem Ig(h:dJ L e=0):there L.length (C7 e)=true:=by obtain⟨_,_,h3⟩:=df.1 h;exact wK.2 (by unfold C7;dsimp only;omega)
theorem zaT{j:Nat}(hb:bZ L)(hq:ef L.length=true)(hj:j<40)(ht:aw L ((j:Int)+1)≠0):xM L (ao L ((j:Int)+1)) (gO L (entsK L j))=GX L ((j:Int)+1):=by
 have hl:=cm.1 hq;unfold xM GX;by_cases h0:dJ L (ao L ((j:Int)+1))=0
 ·rw[zn zcc];have qw:sQ L ((j:Int)+1)≠3:=by unfold sQ;rw[zn ht,zn zcc];split <;> omega
  rw[zn qw];have zht:(gO L (entsK L j)).any (fun x=>ux L.length x.1 ((ao L ((j:Int)+1)).2.1,(ao L ((j:Int)+1)).2.2.1))=lapK L ((j:Int)+1) j:=by
   have uC:(gO L (entsK L j)).any (fun x=>ux L.length x.1 (C7 (ao L ((j:Int)+1))))=true ↔ lapK L ((j:Int)+1) j=true:=by
    rw[qBH,sc];have key:∀i:Nat,i<j->dJ L (ao L ((i:Int)+1))=0->ux L.length (GY (C7 (ao L ((i:Int)+1)))).1 (C7 (ao L ((j:Int)+1)))=uz (ao L ((j:Int)+1)) (ao L ((i:Int)+1)):=fun i hi hp=>by rw[ON (WA hb Sg Sg Sg),Xs Sg Sg (Ig hp) (Ig h0)];rfl
    constructor
    ·rintro ⟨x,hx,hxt⟩;unfold gO at hx;obtain⟨e,he,rfl⟩:=qAT.1 hx;obtain⟨he1,he2⟩:=qCS.1 he;obtain⟨i,hi,hti,rfl⟩:=rZ.1 he1;have hp:=qCr he2;rw[key i hi hp]at hxt;exact⟨i,hi,by unfold okE;rw[qAa,qAK,qAK];exact⟨hti,hp⟩,hxt⟩
    ·rintro ⟨i,hi,jB,ZA⟩;unfold okE at jB;rw[qAa,qAK,qAK]at jB;refine⟨GY (C7 (ao L ((i:Int)+1))),?_,by rw[key i hi jB.2];exact ZA⟩;exact qAT.2 ⟨_,qCS.2 ⟨rZ.2 ⟨i,hi,jB.1,rfl⟩,qAE jB.2⟩,rfl⟩
   unfold C7 at uC;cases h3:(gO L (entsK L j)).any (fun x=>ux L.length x.1 ((ao L ((j:Int)+1)).2.1,(ao L ((j:Int)+1)).2.2.1)) <;> cases h4:lapK L ((j:Int)+1) j
   ·rfl
   ·exact zhY
   ·exact zhY
   ·rfl
  rw[zht];have T5:((j:Int)+1-1).toNat=j:=Sg;have hw:sQ L ((j:Int)+1)=if lapK L ((j:Int)+1) j=true then 2 else 1:=by unfold sQ;rw[zn ht,zn zcc,T5]
  rw[hw];cases lapK L ((j:Int)+1) j with
  | true=>rfl
  | false=>rfl
 ·rw[zy h0];have qw:sQ L ((j:Int)+1)=3:=by unfold sQ;rw[zn ht,zy h0]
  rw[zy qw]
theorem zaS{T}:xM L e T=1 ↔ dJ L e≠0:=by
 unfold xM;by_cases h0:dJ L e=0
 ·rw[zn zcc];constructor
  ·intro h;split at h <;> omega
  ·intro h;exact absurd h0 h
 ·rw[zy h0];exact⟨fun _=>h0,fun _=>rfl⟩
theorem Sa(h:dJ L e=0):gO L (E++[e])=gO L E++[GY (C7 e)]:=by unfold gO;rw[qCF,qAc];simp[h]
theorem Xy(h:dJ L e≠0):gO L (E++[e])=gO L E:=by unfold gO;rw[qCF,qAc];simp[h]
theorem kH{α:Type}{enc:α->List Value}{k T:Nat}{P:Program}{w:World}{ops:Array Oper}{rest:List Oper}{o:Oper}{a:Act}{Q:Exit->Act->World->Prop}(oA:o.guard=none)(s x:Operand)(t:TypeId)
  (ho:o.op=.call { callee:=.builtin .append,args:=#[s,x],argTypes:=#[t,t]}) (B:Nat) (i0:TypeInfo) (z:Value) (bytes:Nat)
  (ht:P.underlying t=some (.slice T)) (hi:P.info? T=some i0) (hz:i0.zero=some z) (uh:i0.size=k) (iF:i0.bytes=bytes) (hzs:z.cells.size=k) (bW:0<k) (vQ:bytes<=100)
  (v:Value) (l:List α) (hs:a.eval s=v) (az:cX enc k T w B v l) (g:Nat) (y:α) (hx:a.eval x=.slice (some (zp g)) 1 1)
  (hy:w.heap[g]?=some (.cells (enc y).toArray T (0,0))) (hk:(enc y).length=k) (h1:∀u∈enc y,u.oneCell'=true) (hn:l.length<=1000) (hB:B<=w.heap.size)
  (h:∀v' w',cX enc k T w' B v' (l++[y])->Below B w w'->(∀j,j<w.heap.size->v.ownBlock≠some j->w'.heap[j]?=w.heap[j]?)->wpList P ops Q rest (a.put o.dst v') w') :
  wpList P ops Q (o::rest) a w:=by
 refine qBU w oA s x t ho B T i0 z k bytes ht hi hz uh iF hzs bW v l.length (l.flatMap enc) hs az (zp g) 1 1 (enc y) hx zdg (fun j u hj=>?_) h1 Ts (qAF (qCg (show l.length+1<=1001 by omega) vQ) Si) hB ?_
 ·rw[addr_add,qAl,qAD _ _ _ _ _ _ hy];exact zbh
 ·intro v' w' sX oH _;refine h v' w' ?_ (zBr.grown oH hB (fun k hk=>az.block k hk)) (fun j hj aG=>oH.block j hj (fun e=>aG e.symm));exact zjb
theorem cX.IQ{α:Type}{enc:α->List Value}{k T:Nat}{w:World}{B:Nat}{v:Value}{l:List α}(h:cX enc k T w B v l):∀g,v.ownBlock=some g->g<w.heap.size:=by
 intro g hg;rcases h.2 with ⟨rfl,_⟩|⟨g',cap',cur,rfl,hB,hc,_⟩
 ·cases hg
 ·simp[Value.ownBlock]at hg;subst hg;exact(zAg hc).1
theorem cX.J8{α:Type}{enc:α->List Value}{k T:Nat}{w w':World}{B m:Nat}{v:Value}{l:List α}(h:cX enc k T w B v l)(ht:w.mapTurned w' m)(hm:m<B):cX enc k T w' B v l:=by
 obtain⟨es,clock,es',clock',hb,rfl⟩:=ht;refine⟨h.1,?_⟩;rcases h.2 with h0|⟨g,cap,cur,rfl,hB,hc,h3⟩
 ·exact .inl h0
 ·exact .inr ⟨g,cap,cur,rfl,hB,(heap_setBlock_other hb _ Sg).trans hc,h3⟩
theorem OO(L:LI)(ea:OA)(ec:Nat)(w:World)(hb:bZ L)(hq:ef L.length=true)(hE:fF xY 4 w ea ec (entsK L 40)) :
  zC 216 #[zi L.length,.slice ea (entsK L 40).length ec] w fun r w'=>r=.returned (.map (some w.heap.size))/\Gf w' w.heap.size (entsK L 40) (GX L)/\zB w w':=by
 have hl:=cm.1 hq;obtain⟨i0,dU,cO,cU,cV⟩:=qAO zda;have HEL:=ae (dt L 40);have HAT:=ae (fun(k:Nat) (e:(Int×I3)) (h:(entsK L 40)[k]?=some e)=>WC h);have HE:=ae hE;have hel:=hE.2.2.1;have iE:=ae hb;have HQ:=ae hq;have Jg:=@run_makeMap prog;generalize hEE:entsK L 40=E at*;clear hE hb hq hEE;go_enter func216,ntmps216
 go_wp2_with fail
 go_loopw [6,13] (fun v iv wr=>∃k:Nat,k<=E.length/\iv=zi k/\cX exS 2 122 wr (w.heap.size+1) v (gO L (E.take k))/\Gf wr w.heap.size (E.take k) (GX L)/\zB w wr) (fun _ iv _=>E.length-(intOf iv).toNat)
 case atStart=>exact⟨0,qAH _,rfl,cX.nil _ _,Gf.made w _,zBr.alloc zNr _⟩
 case round =>
  obtain⟨k,hk,rfl,az,Zz,ai⟩:=hrel;obtain⟨va,vm,vc,rfl⟩:=az.shape;by_cases aB:k<E.length
  ·have aG:E≠[]:=by intro e;rw[e]at aB;simp at aB
   obtain⟨b1,o1,rfl,eT⟩:=(HE.below ai).2.2.2 aG;obtain⟨e,he⟩:∃e,E[k]?=some e:=⟨E[k],zLg aB⟩;obtain⟨q0,q1,q2,q3⟩:=fF.nE (cap:=0) eT he;obtain⟨j,hj,htj,hej,uO⟩:=HAT k e he;have fu:uc (C7 e):=by rw[hej];exact WA iE Sg Sg Sg
   have hwv:xM L e (gO L (E.take k))=GX L e.1:=by rw[uO,hej];exact zaT iE HQ hj htj
   have he1:-9223372036854775808<=e.1/\e.1<=9223372036854775807:=by rw[hej];show _<=(j:Int)+1/\(j:Int)+1<=_;omega
   have zdl:E.take (k+1)=E.take k++[e]:=by rw[qAv,he];rfl
   have iB:=zaS (L:=L) (e:=e) (T:=gO L (E.take k));have hmi:=zj4 L e.1;have HY:=ae (fun h=>Sa (L:=L) (E:=E.take k) (e:=e) h);have Mi:=ae (fun h=>Xy (L:=L) (E:=E.take k) (e:=e) h);have HTA:=ae zdl;have htl:(gO L (E.take k)).length<=40:=qAF (Sb _ _) (by rw[zLt];have:=aa HEL;omega);have zqr:(E.take k).length<=300:=by rw[zLt];have:=aa HEL;omega
   have ay:zB w (wr.alloc (.cells #[zi e.1,zi e.2.1,zi e.2.2.1,zi e.2.2.2] 124)):=ai.alloc ai.size _;have jz:zB wr (wr.alloc (.cells #[zi e.1,zi e.2.1,zi e.2.2.1,zi e.2.2.2] 124)):=zBr.alloc zNr _;have gj:=qB.new wr e;have eV:=az.below jz;have hold:=az.IQ;have ziA:=Zz.below jz;have tM:=Zz.lt;have HW:=ae (RW L e (w.heap.size+1) _ _ _ Sg fu eV Sg);rw[hwv]at HW iB;unfold kV at HW;have aQ:=ae ay;have qs:=ae gj;have B7:=ae eV;have ME:=ae ziA;clear az Zz ai eT aG hwv hej uO htj hj zdl ay jz gj eV ziA;have HMV:Hid (∀ (W:World),Gf W w.heap.size (E.take k) (GX L)->∃w',(Instr.mapUpdate 301 (.map (some w.heap.size)) (zi e.1) (zi (GX L e.1))).run prog W=.ok () w'/\Gf w' w.heap.size (E.take (k+1)) (GX L)/\W.mapTurned w' w.heap.size):=ae (fun W hM=>by rw[aa HTA];exact hM.store zqr e he1 hmi);generalize GX L e.1=c at*;obtain⟨x,a,l,t⟩:=e;dsimp only at*;clear he;by_cases hc:c=1
   ·subst hc;have oK:Hid (gO L (E.take (k+1))=gO L (E.take k)):=ae (by rw[aa HTA];exact Mi (iB.1 rfl));clear iB HY Mi fu hold;go_wp2_with fail
    refine HW.mono ?_;rintro e' w1 ⟨rfl,ay⟩;obtain⟨w2,eF,kz,kx⟩:=HMV w1 (ME.below ay);have kR:=qs.below ay Sk;obtain⟨c0,c1,c2,c3⟩:=kR.cells;have ia:=zTs aQ ay;have bz:=ae (ia.grown kx.grown ia.size (fun j hj=>XW));have oj:=ae ((B7.below ay).J8 kx (qBu _));have AN:=ae kz;dsimp only at c0 c1 c2 c3;clear ay kR ia kz kx aQ ME B7 HW HMV qs;go_wp2;go_roundw
    case rel=>exact⟨k+1,Sg,Tc,by rw[aa oK];exact oj,AN,bz⟩
    case measure=>exact Te
   ·have Zw:dJ L (x,a,l,t)=0:=qAM fun h=>hc (iB.2 h)
    have oK:Hid (gO L (E.take (k+1))=gO L (E.take k)++[GY (a,l)]):=ae (by rw[aa HTA];exact HY Zw);have oZ:exS (GY (a,l))=[zi a,zi l]:=by unfold exS lG;rw[ON (show uc (a,l)from fu)]
    have Ub:(c != 1)=true:=qBZ.2 hc;clear iB HY Mi fu Zw;go_wp2_with fail
    refine HW.mono ?_;rintro e' w1 ⟨rfl,ay⟩;have kR:=qs.below ay Sk;obtain⟨c0,c1,c2,c3⟩:=kR.cells;have ia:=zTs aQ ay;have jz:zB w1 (w1.alloc (.cells #[zi a,zi l] 122)):=zBr.alloc zNr _;have oj:=ae ((B7.below ay).below jz);have AN:=ae ((ME.below ay).below jz);have rF:=ae (kR.below jz kR.lt);have bz:=ae (ia.trans (jz.mono ia.size));have kq:Hid ((w1.alloc (.cells #[zi a,zi l] 122)).heap[w1.heap.size]?=some (.cells (exS (GY (a,l))).toArray 122 (0,0))):=ae (by rw[oZ];exact qAB w1 _);have fQ:w.heap.size+1<=w1.heap.size:=by have:=ay.size;simp at this;omega
    dsimp only at c0 c1 c2 c3;clear ay kR ia aQ ME B7 HW qs jz oZ;go_wp2_with (at_builtin;refine kH rfl _ _ 94 rfl (w.heap.size+1) i0 (.agg #[zi 0,zi 0]) 16 underlying94 dU cO cU cV rfl Si Si _ _ rfl oj w1.heap.size (GY (a,l)) rfl kq rfl (zhI _) Sg Tb ?_)
    intro v9 w9 aU dS Ae;obtain⟨w10,eF,znN,kx⟩:=HMV w9 (AN.same (dS.block _ (qBu _)));have znZ:qB w9 wr.heap.size (x,a,l,t):=(Ae _ (by have:=rF.lt;rw[cJ]at this;exact this) (fun e=>by have:=hold _ e;omega)).trans rF;obtain⟨d0,d1,d2,d3⟩:=znZ.cells;dsimp only at d0 d1 d2 d3;have hB9:=bz.trans (dS.mono (qBi _));have H6:=ae (hB9.grown kx.grown hB9.size (fun j hj=>XW));have U7:=ae (aU.J8 kx (qBu _));have zrg:=ae znN;obtain⟨a9,m9,c9,rfl⟩:=aU.shape;clear aU dS Ae znZ hB9 znN kx bz AN oj HMV rF kq hold c0 c1 c2 c3;go_wp2;go_roundw
    case rel=>exact⟨k+1,Sg,Tc,by rw[aa oK];exact U7,zrg,H6⟩
    case measure=>exact Te
  ·obtain rfl:k=E.length:=by omega
   rw[qAk]at Zz;have HM:=ae Zz;have aJ:=ae ai;clear az Zz ai;go_wp2;go_ret;exact⟨rfl,HM,aJ⟩
end
section
open Go.MapKept
open Go.ChangeMaps
theorem B5{z}:(entsK L 40).any (fun e=>e.1 == z)=(eC z&&(aw L z != 0)):=by
 have uC:(entsK L 40).any (fun e=>e.1 == z)=true ↔ (eC z&&(aw L z != 0))=true:=by
  rw[qBH,qAa,qBZ,aN];constructor
  ·rintro ⟨e,he,hz⟩;obtain⟨j,hj,ht,rfl⟩:=rZ.1 he;have hz':(j:Int)+1=z:=by have:=(qCA.1 hz);exact this
   subst hz';exact⟨Sg,ht⟩
  ·rintro ⟨⟨h1,h2⟩,ht⟩;obtain⟨n,rfl⟩:∃n:Nat,z=(n:Int)+1:=⟨(z-1).toNat,Sg⟩;exact⟨ao L ((n:Int)+1),rZ.2 ⟨n,Sg,ht,rfl⟩,qCA.2 rfl⟩
 cases h3:(entsK L 40).any (fun e=>e.1 == z) <;> cases h4:(eC z&&(aw L z != 0))
 ·rfl
 ·exact zhY
 ·exact zhY
 ·rfl
def yu(L:LI)(h:Int):LI:=(L.drop (bT h)).take 5
theorem Ja{l}:isRoot l=false ↔ ∀j,j<l.length->l.getD j 0=0:=by
 unfold isRoot;rw[qBz];constructor
 ·intro h j hj;have:=h l[j] (qAf hj);have e:l.getD j 0=l[j]:=by simp[List.getD,hj]
  rw[e];exact V0
 ·intro h x hx;obtain⟨j,hj,rfl⟩:=qAm hx;have:=h j hj;have e:l.getD j 0=l[j]:=by simp[List.getD,hj]
  rw[e]at this;simp[this]
theorem zbO(hb:bZ L)(hl:288<=L.length)(h1:1<=h)(h2:h<=40)(ht:aw L h=0):isRoot (yu L h)=false ↔ ((ao L h).2.1=0/\(ao L h).2.2.1=0):=by
 have hp:=du h1 h2;have hg:∀j,j<5->(yu L h).getD j 0=L.getD (bT h+j) 0:=fun j hj=>by unfold yu;simp[List.getD,hj]
 have hlen:(yu L h).length=5:=by unfold yu;simp;omega
 rw[Ja,hlen];unfold ao;dsimp only;rw[eY _ _ Sg,eY _ _ Sg];have b1:=hb.getD (bT h+1);have b2:=hb.getD (bT h+1+1);have b3:=hb.getD (bT h+3);have b4:=hb.getD (bT h+3+1);have g0:=hg 0 Sg;have g1:=hg 1 Sg;have g2:=hg 2 Sg;have g3:=hg 3 Sg;have g4:=hg 4 Sg;unfold aw at ht;rw[qAq,ht]at g0;rw[show bT h+1+1=bT h+2 by omega]at*;rw[show bT h+3+1=bT h+4 by omega]at*;constructor
 ·intro hz;have z1:=hz 1 Sg;have z2:=hz 2 Sg;have z3:=hz 3 Sg;have z4:=hz 4 Sg;omega
 ·intro hz j hj
  match j,hj with
  | 0,_=>exact g0
  | 1,_=>omega
  | 2,_=>omega
  | 3,_=>omega
  | 4,_=>omega
  | j+5,hj=>omega
def wvH(L:LI)(h:Int):Int:=if aw L h=0 then (if isRoot (yu L h)=true then 3 else 0)else GX L h
theorem JE(hb:bZ L)(hl:288<=L.length)(h1:1<=h)(h2:h<=40):gg L h=if wvH L h=0 then []else [(wvH L h,h)]:=by
 unfold gg wvH;by_cases ht:aw L h=0
 ·rw[zy (tl.2 ht),zy ht];have hr:=zbO hb hl h1 h2 ht;by_cases hz:(ao L h).2.1=0/\(ao L h).2.2.1=0
  ·rw[zy hz,hr.2 hz];rfl
  ·rw[zn hz];have:isRoot (yu L h)=true:=by
    cases hq:isRoot (yu L h)with
    | true=>rfl
    | false=>exact absurd (hr.1 hq) hz
   rw[this];rfl
 ·rw[zn (fun e=>ht (tl.1 e)),zn ht];unfold GX;rcases DM L h with h0 | h0 | h0 | h0
  ·exact absurd (tl.1 h0) ht
  ·rw[h0];rfl
  ·rw[h0];rfl
  ·rw[h0];rfl
theorem zhw(hb:bZ L)(hl:288<=L.length)(hk:k<40)(h:wvH L ((k:Int)+1)≠0):AW L (k+1)=AW L k++[(wvH L ((k:Int)+1),(k:Int)+1)]:=by
 show AW L k++_=_
 rw[JE hb hl Sg Sg,zn h]
theorem zk6(hb:bZ L)(hl:288<=L.length)(hk:k<40)(h:wvH L ((k:Int)+1)=0):AW L (k+1)=AW L k:=by
 show AW L k++_=_
 rw[JE hb hl Sg Sg,zy h,qAh]
theorem LP a cap L m w(aH:Bs w a cap L)(hq:ef L.length=true)(hm:Gf w m (entsK L 40) (GX L)) :
  zC 218 #[.slice a L.length cap,.map (some m)] w fun r w'=>∃v,r=.returned v/\cX Hk 2 322 w' w.heap.size v (AW L 40)/\zB w w':=by
 have hl:=cm.1 hq;obtain⟨i0,dU,cO,cU,cV⟩:=qAO zZ;have fC:=aH.2.2.1;have HB:=ae aH;have HM:=ae hm;have HY:=ae (fun(k:Nat)=>zhw (L:=L) (k:=k) aH.1 Sg);have Mi:=ae (fun(k:Nat)=>zk6 (L:=L) (k:=k) aH.1 Sg);clear aH hm hq;go_enter func218,ntmps218
 go_wp2_with fail
 go_loopw [5,6] (fun v hv wr=>∃k:Nat,k<=40/\hv=zi ((k:Int)+1)/\cX Hk 2 322 wr w.heap.size v (AW L k)/\zB w wr) (fun _ hv _=>41-(intOf hv).toNat)
 case atStart=>exact zbM
 case round =>
  obtain⟨k,hk,rfl,az,ai⟩:=hrel;obtain⟨va,vm,vc,rfl⟩:=az.shape;by_cases aB:k<40
  ·have cN:=(HM.below ai).look ((k:Int)+1) Sg;rw[B5]at cN;unfold zcI at cN;rw[B5,aN.2 (show 1<=(k:Int)+1/\(k:Int)+1<=40 by omega),qCd]at cN;have HYK:=ae (HY k aB);have HNK:=ae (Mi k aB);have jD:=ae (Ai L k);have HO:=ae az;have aJ:=ae ai;have bW:=ai.size;by_cases ht:aw L ((k:Int)+1)=0
   ·have hwv:wvH L ((k:Int)+1)=if isRoot (yu L ((k:Int)+1))=true then 3 else 0:=by unfold wvH;rw[zy ht]
    have gT:(aw L ((k:Int)+1) != 0)=false:=by rw[ht];rfl
    rw[gT,zn Sk]at cN;have HH:=ae (KV ((k:Int)+1) wr Sg Sg);have si:=du (h:=(k:Int)+1) Sg Sg;have HP:=ae (fun(W:World) (hW:zB wr W)=>Of a cap L (bT ((k:Int)+1)) 5 W ((HB.below ai).below hW) Sg);have HA:=ae (fun(W:World) (a':OA) (c':Nat) (h:Bs W a' c' (yu L ((k:Int)+1)))=>BE a' c' _ W h);have xh:(yu L ((k:Int)+1)).length=5:=by unfold yu;simp;omega
    rw[xh]at HA;clear az ai ht gT xh;rw[hwv]at HYK HNK;have HRH:Hid ((L.drop (bT ((k:Int)+1))).take 5=yu L ((k:Int)+1)):=ae rfl;rw[aa HRH]at HP;generalize isRoot (yu L ((k:Int)+1))=R at*;generalize yu L ((k:Int)+1)=row at*;generalize bT ((k:Int)+1)=p at*;clear hwv;rw[show((5:Nat):Int)=5 from rfl]at HP;cases R with
    | true =>
     have HE:Hid (AW L (k+1)=AW L k++[(3,(k:Int)+1)]):=ae (HYK Sk);clear HYK HNK;go_wp2_with fail
     refine HH.m ?_;intro w1 ay;have nh:=ae (HP w1 ay);have aQ:=ae ay;clear ay HH HP;go_wp2_with fail
     refine nh.mono ?_;rintro e w2 ⟨a2,c2,rfl,gy,aK⟩;have RN:=ae (HA w2 a2 c2 gy);have dr:=zTs aQ aK;have uv:=ae (HO.below dr);have fh:=zTr aJ dr;clear aK gy dr nh aQ HA HO aJ;go_wp2_with fail
     refine RN.m ?_;intro w3 qw;subst qw;clear RN;have jz:zB w2 (w2.alloc (.cells #[zi 3,zi ((k:Int)+1)] 322)):=zBr.alloc zNr _;have HOA:=ae (uv.below jz);have oF:=zTr fh jz;have kq:Hid ((w2.alloc (.cells #[zi 3,zi ((k:Int)+1)] 322)).heap[w2.heap.size]?=some (.cells (Hk (3,(k:Int)+1)).toArray 322 (0,0))):=ae (qAB w2 _);have Ll:=fh.size;clear jz uv fh;go_wp2_with (at_builtin;refine aS rfl _ _ 274 rfl w.heap.size i0 (.agg #[zi 0,zi 0]) 16 underlying274 dU cO cU cV rfl Si Si _ _ rfl HOA w2.heap.size (3,(k:Int)+1) rfl kq rfl (xn _) (qAF jD Sg) Tb ?_)
     intro v9 w9 aU dS;have pO:=ae aU;have kE:=ae (oF.trans dS);obtain⟨a9,m9,c9,rfl⟩:=aU.shape;exact j8
    | false =>
     have HE:=ae (HNK Sk);go_wp2_with fail
     refine HH.m ?_;intro w1 ay;have nh:=ae (HP w1 ay);have aQ:=ae ay;go_wp2_with fail
     refine nh.mono ?_;rintro e w2 ⟨a2,c2,rfl,gy,aK⟩;have RN:=ae (HA w2 a2 c2 gy);have dr:=zTs aQ aK;have uv:=ae (HO.below dr);have fh:=zTr aJ dr;go_wp2_with fail
     refine RN.m ?_;intro w3 qw;subst qw;go_wp2;go_roundw
     case rel=>exact⟨k+1,Sg,Tc,by rw[aa HE];exact uv,fh⟩
     case measure=>exact Te
   ·have hwv:wvH L ((k:Int)+1)=GX L ((k:Int)+1):=by unfold wvH;rw[zn ht]
    have gT:=qBZ.2 ht;rw[gT,zy rfl]at cN;rw[hwv]at HYK HNK;generalize GX L ((k:Int)+1)=c at*;by_cases hc:c=0
    ·subst hc;have HE:=ae (HNK rfl);clear HYK HNK;go_wp2;exact sC
    ·have HE:Hid (AW L (k+1)=AW L k++[(c,(k:Int)+1)]):=ae (HYK hc);have Ub:(c != 0)=true:=qBZ.2 hc;have uv:=HO;have fh:=aJ;clear HYK HNK HO aJ;have jz:zB wr (wr.alloc (.cells #[zi c,zi ((k:Int)+1)] 322)):=zBr.alloc zNr _;have HOA:=ae (uv.below jz);have oF:=zTr fh jz;have kq:Hid ((wr.alloc (.cells #[zi c,zi ((k:Int)+1)] 322)).heap[wr.heap.size]?=some (.cells (Hk (c,(k:Int)+1)).toArray 322 (0,0))):=ae (qAB wr _);have Ll:=fh.size;clear jz uv fh;go_wp2_with (at_builtin;refine aS rfl _ _ 274 rfl w.heap.size i0 (.agg #[zi 0,zi 0]) 16 underlying274 dU cO cU cV rfl Si Si _ _ rfl HOA wr.heap.size (c,(k:Int)+1) rfl kq rfl (xn _) (qAF jD Sg) Tb ?_)
     intro v9 w9 aU dS;have pO:=ae aU;have kE:=ae (oF.trans dS);obtain⟨a9,m9,c9,rfl⟩:=aU.shape;clear aU dS HOA oF kq;exact j8
  ·obtain rfl:k=40:=by omega
   exact zoq
def zcD(c:Int)(R I:Bool)(v:Int):Bool:=(c != 0) || (R || (!I || (v != 0)))
theorem To a cap r m w s c R I v(aH:Bs w a cap r)(BQ:r.length=11)(hs:(bI (r.take 8)).1=s)(hc:(bI (r.take 8)).2=c)(hR:isRoot ((r.drop 8).take 2)=R)(cN:∀W,zB w W->(Instr.lookup 301 (.map (some m)) (zi (r.getD 10 0)) true).run prog W=.ok (.tuple #[zi v,.bool I]) W) :
  zC 275 #[.slice a 11 cap,.map (some m)] w (zr (.tuple #[.string (if zcD c R I v=true then { data:=#[]} else s),.bool (!zcD c R I v)]) fun w'=>zB w w'):=by
 obtain⟨a1,fQ,ay⟩:=jK (P:=prog) (t:=29) underlying29 aT aH 8 Sg;rw[BQ,show((8:Nat):Int)=8 from rfl]at fQ;have h8:(r.take 8).length=8:=VW;have HG:=ae (Cy a1 cap (r.take 8) w ay);rw[h8,hs,hc]at HG;obtain⟨a2,gN,aK⟩:=dP (P:=prog) (t:=29) underlying29 aT aH 8 10 Sg Sg;rw[BQ,show((8:Nat):Int)=8 from rfl,show((10:Nat):Int)=10 from rfl,show 10-8=2 from rfl]at gN;have h2:((r.drop 8).take 2).length=2:=Tb;have HA:=ae (fun(W:World) (hW:zB w W)=>BE a2 _ _ W (aK.below hW));rw[hR,h2]at HA;obtain⟨b,off,rfl,bf⟩:=aH.at 10 Sg;have iT:=aH.1.getD 10;have aB:=qAA bf;dsimp only at aB;have HL:=ae cN;generalize r.getD 10 0=x at*;clear cN ay aK hs hc hR h8 h2 aH;unfold zcD;by_cases h0:c=0
 ·subst h0;rw[aC]at HG;have hz:((0:Int) != 0)=false:=rfl;rw[hz,qDQ];cases R with
  | true =>
   rw[Bool.true_or,zy rfl,qDR];go_enter func275,ntmps275
   go_wp2_with fail
   refine HG.m ?_;intro w1 fM;have eT:=(fM.cell (qAA bf)).trans bf;have kF:=HL w1 fM;have HA1:=ae (HA w1 fM);have aQ:=ae fM;have jC:b<w1.heap.size:=qAL aB fM.size;go_wp2_with (go_at_call 272;refine HA1.m ?_;intro w2 xg;subst xg)
   exact zpR
  | false =>
   rw[qDQ];cases I with
   | false =>rw[Bool.not_false,Bool.true_or,zy rfl,qDR];exact kh
   | true =>
    rw[qDR,qDQ];by_cases hv:v=0
    ·subst hv;rw[hz,zn Sk,Bool.not_false];exact kh
    ·have hv':=qBZ.2 hv;rw[hv',zy rfl,qDR];exact kh
 ·rw[aF _ h0]at HG;have hz:=qBZ.2 h0;rw[hz,Bool.true_or,zy rfl,qDR];go_enter func275,ntmps275
  go_wp2_with fail
  refine HG.m ?_;intro w1 fM;have eT:=(fM.cell (qAA bf)).trans bf;have kF:=HL w1 fM;have aQ:=ae fM;have jC:=qAL aB fM.size;go_wp2_with fail
  exact zpR
theorem KF l:(bI l).1.size<=l.length:=by
 unfold bI;split
 ·simp
 ·split
  ·simp
  ·have:(strOf (l.take (aW l))).size=(l.take (aW l)).length:=by have h:=mC (l.take (aW l));have h2:=qBB List.length h;simpa using h2
   rw[this,zLt];omega
end
section
open Go.MapKept
open Go.ChangeMaps
def DF(w:World)(m n:Nat)(ns:List BA):Prop :=∃Dm:DataW Unit,w.ownsMap prog 9 (plainElem prog 3) m n Dm/\∀s:BA,Maps.has Dm (.string s.data.toList)=ns.contains s
theorem DF.made(w:World):DF (w.alloc (.map #[] 0)) w.heap.size 0 []:=⟨.map [],World.ownsMap_made w _ _ _,fun s=>rfl⟩
theorem DF.lt(h:DF w m n ns):m<w.heap.size:=zfq
theorem DF.same(h:DF w m n ns)(hs:w'.heap[m]?=w.heap[m]?):DF w' m n ns:=zhC
theorem DF.below(h:DF w m n ns)(hb:zB w w'):DF w' m n ns:=h.same (hb.block m h.lt)
theorem DF.look(h:DF w m n ns) s(hs:s.size<=maxLen) :
  ∃v,(Instr.lookup 369 (.map (some m)) (.string s) true).run prog w=.ok (.tuple #[zi v,.bool (ns.contains s)]) w:=by
 obtain⟨Dm,h1,h2⟩:=h;have gL:=WideMaps.keyOf_string_mk (P:=prog) underlying9 hs;obtain⟨v,ps,cF,hv⟩:=h1.look_ok (Maps.string_keyed underlying9) underlying369 (zero_num w) (plainElem_int underlying3 (a:=0) Si) gL;obtain⟨a,rfl,_⟩:=plainElem_int_inv underlying3 hv;exact⟨a,by rw[cF,h2 s]⟩
theorem DF.store{ns':List BA}(h:DF w m n ns) s i(hs:s.size<=maxLen)(hn:n<=300)(hi:-9223372036854775808<=i/\i<=9223372036854775807)(hns:∀t,ns'.contains t=(ns.contains t || (t == s))) :
  ∃w',(Instr.mapUpdate 369 (.map (some m)) (.string s) (zi i)).run prog w=.ok () w'/\DF w' m (n+1) ns'/\w.mapTurned w' m:=by
 obtain⟨Dm,h1,h2⟩:=h;have gL:=WideMaps.keyOf_string_mk (P:=prog) underlying9 hs;obtain⟨w',cF,jy,ht⟩:=h1.store (Maps.string_keyed underlying9) underlying369 Ts gL (plainElem_int underlying3 (a:=i) (qBo hi));have sr:=(Maps.string_keyed underlying9).key gL;refine⟨w',cF,⟨_,jy,fun t=>?_⟩,ht⟩;rw[hns t];by_cases hj:t=s
 ·subst hj;rw[Maps.has_put_same h1.isMap sr,ng.2 rfl,Bool.or_true]
 ·have aG:Lit.string t.data.toList≠Lit.string s.data.toList:=by intro e;simp only[Lit.string.injEq]at e;exact hj (str_inj e)
  have e0:(t == s)=false:=by
   cases hq:(t == s)with
   | false=>rfl
   | true=>exact absurd (ng.1 hq) hj
  rw[Maps.has_put_other aG,h2 t,e0,qCM]
theorem YL{i}(hq:ef L.length=true)(hi:i<8) :
  zcD (bI ((rowAt L i).take 8)).2 (isRoot (((rowAt L i).drop 8).take 2)) ((entsK L 40).any (fun e=>e.1 == (rowAt L i).getD 10 0)) (zcI (entsK L 40) (GX L) ((rowAt L i).getD 10 0))=ua L i:=by
 have hl:=cm.1 hq;have BQ:(rowAt L i).length=11:=aY Sg;have hR:isRoot (((rowAt L i).drop 8).take 2)=(decide ((rowAt L i).getD 8 0≠0) || decide ((rowAt L i).getD 9 0≠0)):=by
  have hlen:(((rowAt L i).drop 8).take 2).length=2:=Tb;have hg:∀j,j<2->(((rowAt L i).drop 8).take 2).getD j 0=(rowAt L i).getD (8+j) 0:=fun j hj=>zay
  have hz:=Ja (l:=((rowAt L i).drop 8).take 2);rw[hlen]at hz;have g0:=hg 0 Sg;have g1:=hg 1 Sg;rw[qAq]at g0;cases hr:isRoot (((rowAt L i).drop 8).take 2)with
  | false =>have h0:=hz.1 hr 0 Sg;have h1:=hz.1 hr 1 Sg;rw[g0]at h0;rw[g1]at h1;rw[h0,h1];rfl
  | true =>
   symm;rw[Bool.or_eq_true,qAK,qAK];refine qAM fun hn=>?_
   have h8:=qAM fun h=>hn (.inl h)
   have h9:(rowAt L i).getD 9 0=0:=qAM fun h=>hn (.inr h)
   have:isRoot (((rowAt L i).drop 8).take 2)=false:=hz.2 (fun j hj=>by
    match j,hj with
    | 0,_=>rw[g0];exact h8
    | 1,_=>rw[g1];exact h9
    | j+2,hj=>omega)
   rw[this]at hr;cases hr
 unfold zcD ua zcI;rw[hR,B5];generalize (rowAt L i).getD 10 0=x;have e1:∀c:Int,(c != 0)=decide (c≠0):=fun c=>by
  by_cases h:c=0
  ·subst h;rfl
  ·rw[qBZ.2 h,qAE h]
 rw[e1,Bool.or_assoc]
 congr 3
 have fM:=lM (b:=L) (h:=x);have hw0:=tl (b:=L) (h:=x);have hwc:=DM L x;cases eC x with
 | false=>rfl
 | true =>
  rw[qCd,qDR,qDQ];by_cases ht:aw L x=0
  ·have:sQ L x≠1:=by rw[hw0.2 ht];decide
   rw[ht,qAE this];rfl
  ·rw[qBZ.2 ht,zy rfl,qDR,qDQ,e1];unfold GX;rcases hwc with h|h|h|h
   ·exact absurd (hw0.1 h) ht
   ·rw[h];rfl
   ·rw[h];rfl
   ·rw[h];rfl
theorem Tp a cap L i m w(aH:Bs w a cap (rowAt L i))(hq:ef L.length=true)(hi:i<8)(hm:Gf w m (entsK L 40) (GX L)) :
  zC 275 #[.slice a 11 cap,.map (some m)] w (zr (.tuple #[.string (if ua L i=true then { data:=#[]} else nameAt L i),.bool (!ua L i)]) fun w'=>zB w w'):=by
 have hl:=cm.1 hq;rw[<-YL hq hi];have iT:=aH.1.getD 10;exact To a cap (rowAt L i) m w _ _ _ _ _ aH (aY Sg) rfl rfl rfl (fun W hW=>(hm.below hW).look _ Sg)
theorem zjI(h:fa L k=[]):AS L (k+1)=AS L k:=by
 show AS L k++_=_
 rw[h,qAh]
theorem zgo{f}(h:fa L k=[f]):AS L (k+1)=AS L k++[f]:=by
 show AS L k++_=_
 rw[h]
theorem zgB(h:eM L k (dD L k)=false):dD L (k+1)=dD L k:=by
 show dD L k++_=_
 rw[h,zn Sk,qAh]
theorem zcw(h:eM L k (dD L k)=true):dD L (k+1)=dD L k++[nameAt L k]:=by
 show dD L k++_=_
 rw[zy h]
theorem cX.base{α:Type}{enc:α->List Value}{k T:Nat}{w:World}{B B':Nat}{v:Value}{l:List α}(h:cX enc k T w B v l)(hb:B'<=B):cX enc k T w B' v l:=by
 exact JR
theorem DF.more{n':Nat}(h:DF w m n ns)(hn:n<=n'):DF w m n' ns:=by obtain⟨Dm,⟨es,clock,hb,F,hs,r⟩,h2⟩:=h;exact⟨Dm,⟨es,clock,hb,F,Sg,r⟩,h2⟩
theorem zhR(h:ns.contains s=true):ns.contains t=(ns.contains t || (t == s)):=by
 by_cases e:t=s
 ·subst e;rw[h];rfl
 ·have e0:(t == s)=false:=by
   cases hq:(t == s)with
   | false=>rfl
   | true=>exact absurd (ng.1 hq) e
  rw[e0,qCM]
theorem zeu:(ns++[s]).contains t=(ns.contains t || (t == s)):=by
 haveI:=B4
 rw[List.contains_eq_any_beq,List.contains_eq_any_beq,qCR,List.any_cons,List.any_nil,qCM]
theorem Us(a:OA)(cap:Nat)(L:LI)(m:Nat)(w:World)(aH:Bs w a cap L)(hq:ef L.length=true)(hm:Gf w m (entsK L 40) (GX L)) :
  zC 219 #[.slice a L.length cap,.map (some m)] w fun r w'=>∃v,r=.returned v/\cX Hk 2 322 w' w.heap.size v (AS L 8)/\zB w w':=by
 have hl:=cm.1 hq;obtain⟨i0,dU,cO,cU,cV⟩:=qAO zZ;have fC:=aH.2.2.1;have HB:=ae aH;have HM:=ae hm;have HQ:=ae hq;have Jg:=@run_makeMap prog;clear aH hm hq;go_enter func219,ntmps219
 go_wp2_with fail
 go_loopw [5,14] (fun v iv wr=>∃k:Nat,k<=8/\iv=zi (k:Int)/\cX Hk 2 322 wr (w.heap.size+1) v (AS L k)/\DF wr w.heap.size k (dD L k)/\zB w wr) (fun _ iv _=>8-(intOf iv).toNat)
 case atStart=>exact⟨0,Sg,rfl,cX.nil _ _,DF.made w,zBr.alloc zNr _⟩
 case round =>
  obtain⟨k,hk,rfl,az,hnm,ai⟩:=hrel;obtain⟨va,vm,vc,rfl⟩:=az.shape;by_cases aB:k<8
  ·have jD:=ae (zD L k);have HO:=ae az;have Hx:=ae hnm;have aJ:=ae ai;have HH:=ae (EE k wr aB);have HP:=ae (fun(W:World) (hW:zB wr W)=>Of a cap L (200+11*k) 11 W ((HB.below ai).below hW) Sg);have HA:=ae (fun(W:World) (a':OA) (c':Nat) (h:Bs W a' c' (rowAt L k))=>BE a' c' _ W h);have CP:=ae (fun(W:World) (a':OA) (c':Nat) (h:Bs W a' c' (rowAt L k)) (hW:zB wr W)=>Tp a' c' L k m W h HQ aB ((HM.below ai).below hW));have xh:(rowAt L k).length=11:=aY Sg;rw[xh]at HA;have HRH:Hid ((L.drop (200+11*k)).take 11=rowAt L k):=ae rfl;rw[aa HRH,show((11:Nat):Int)=11 from rfl]at HP;clear HRH xh az hnm ai;have hns:(nameAt L k).size<=maxLen:=by have:=KF ((rowAt L k).take 8);unfold nameAt;rw[zLt]at this;unfold maxLen;omega
   have kA:fa L k=if isRoot (rowAt L k)=false then []else if ua L k=true then [(4,(k:Int))]else if (dD L k).contains (nameAt L k)=true then [(5,(k:Int))]else []:=rfl
   have Rp:eM L k (dD L k)=(isRoot (rowAt L k)&&(!ua L k && !(dD L k).contains (nameAt L k))):=rfl;have HF0:=ae (fun h=>zjI (L:=L) (k:=k) h);have HF1:=ae (fun f h=>zgo (L:=L) (k:=k) (f:=f) h);have HK0:=ae (fun h=>zgB (L:=L) (k:=k) h);have DH:=ae (fun h=>zcw (L:=L) (k:=k) h);rw[kA]at HF0 HF1;rw[Rp]at HK0 DH;clear kA Rp;have HCI:=ae (fun t=>zhR (ns:=dD L k) (s:=nameAt L k) (t:=t));generalize hcq:(dD L k).contains (nameAt L k)=C at*;have HCQ:=ae hcq;clear hcq;generalize isRoot (rowAt L k)=R at*;generalize ua L k=D at*;generalize rowAt L k=row at*;generalize 200+11*k=p at*;cases R with
   | false =>
    have HE:Hid (AS L (k+1)=AS L k):=ae (HF0 rfl);have HG:Hid (dD L (k+1)=dD L k):=ae (HK0 rfl);clear HF0 HF1 HK0 DH HCI HCQ;go_wp2_with fail
    refine HH.mono ?_;rintro e w1 ⟨rfl,ay⟩;have nh:=ae (HP w1 ay);have aQ:=ae ay;clear ay HH HP;go_wp2_with fail
    refine nh.mono ?_;rintro e w2 ⟨a2,c2,rfl,gy,aK⟩;have RN:=ae (HA w2 a2 c2 gy);have dr:=zTs aQ aK;have RC:=ae (CP w2 a2 c2 gy dr);have uv:=ae (HO.below dr);have Gj:=ae (Hx.below dr);have fh:=zTr aJ dr;clear aK gy dr nh aQ HA HO aJ Hx CP;go_wp2_with (go_at_call 272;refine RN.mono ?_;rintro e w3 ⟨rfl,qw⟩;subst qw)
    go_roundw
    case rel=>exact⟨k+1,Sg,Tc,by rw[aa HE];exact uv,by rw[aa HG];exact Gj.more (qBi _),fh⟩
    case measure=>exact Te
   | true =>
    cases D with
    | true =>
     have HE:Hid (AS L (k+1)=AS L k++[(4,(k:Int))]):=ae (HF1 _ rfl);have HG:Hid (dD L (k+1)=dD L k):=ae (HK0 rfl);clear HF0 HF1 HK0 DH HCI HCQ;go_wp2_with fail
     refine HH.mono ?_;rintro e w1 ⟨rfl,ay⟩;have nh:=ae (HP w1 ay);have aQ:=ae ay;clear ay HH HP;go_wp2_with fail
     refine nh.mono ?_;rintro e w2 ⟨a2,c2,rfl,gy,aK⟩;have RN:=ae (HA w2 a2 c2 gy);have dr:=zTs aQ aK;have RC:=ae (CP w2 a2 c2 gy dr);have uv:=ae (HO.below dr);have Gj:=ae (Hx.below dr);have fh:=zTr aJ dr;clear aK gy dr nh aQ HA HO aJ Hx CP;go_wp2_with (go_at_call 272;refine RN.mono ?_;rintro e w3 ⟨rfl,qw⟩;subst qw)
     refine RC.mono ?_;rintro e w5 ⟨rfl,il⟩;have Rz:=ae (uv.below il);have HN5:=ae (Gj.below il);have oM:=zTr fh il;clear uv Gj fh il RC RN;have uv:=Rz;have Gj:=HN5;have fh:=oM;clear Rz HN5 oM;have jz:zB w5 (w5.alloc (.cells #[zi 4,zi (k:Int)] 322)):=zBr.alloc zNr _;have HOA:=ae (uv.below jz);have HNA:=ae (Gj.below jz);have oF:=zTr fh jz;have kq:Hid ((w5.alloc (.cells #[zi 4,zi (k:Int)] 322)).heap[w5.heap.size]?=some (.cells (Hk (4,(k:Int))).toArray 322 (0,0))):=ae (qAB w5 _);have Ll:=Gj.lt;clear jz uv fh Gj;go_wp2_with (at_builtin;refine aS rfl _ _ 274 rfl (w.heap.size+1) i0 (.agg #[zi 0,zi 0]) 16 underlying274 dU cO cU cV rfl Si Si _ _ rfl HOA w5.heap.size (4,(k:Int)) rfl kq rfl (xn _) (qAF jD Sg) Tb ?_)
     intro v9 w9 aU dS;have hn9:=HNA.same (dS.block _ (qBu _));have hB9:=oF.trans (dS.mono (qBi _));have pO:=ae aU;have yb:=ae hn9;have kE:=ae hB9;obtain⟨a9,m9,c9,rfl⟩:=aU.shape;clear aU dS hn9 hB9 HOA oF HNA kq;go_wp2;go_roundw
     case rel=>exact⟨k+1,Sg,Tc,by rw[aa HE];exact pO,by rw[aa HG];exact yb.more (qBi _),kE⟩
     case measure=>exact Te
    | false =>
     cases C with
     | true =>
      have HE:Hid (AS L (k+1)=AS L k++[(5,(k:Int))]):=ae (HF1 _ rfl);have HG:Hid (dD L (k+1)=dD L k):=ae (HK0 rfl);have fP:=ae (fun(W:World) (h:DF W w.heap.size k (dD L k))=>h.store (ns':=dD L k) (nameAt L k) k hns Sg Sg (fun t=>HCI t rfl));have QZ:=ae (fun(W:World) (h:DF W w.heap.size k (dD L k))=>h.look (nameAt L k) hns);rw[aa HCQ]at QZ;clear HF0 HF1 HK0 DH HCI HCQ;generalize nameAt L k=name at*;go_wp2_with fail
      refine HH.mono ?_;rintro e w1 ⟨rfl,ay⟩;have nh:=ae (HP w1 ay);have aQ:=ae ay;clear ay HH HP;go_wp2_with fail
      refine nh.mono ?_;rintro e w2 ⟨a2,c2,rfl,gy,aK⟩;have RN:=ae (HA w2 a2 c2 gy);have dr:=zTs aQ aK;have RC:=ae (CP w2 a2 c2 gy dr);have uv:=ae (HO.below dr);have Gj:=ae (Hx.below dr);have fh:=zTr aJ dr;clear aK gy dr nh aQ HA HO aJ Hx CP;go_wp2_with (go_at_call 272;refine RN.mono ?_;rintro e w3 ⟨rfl,qw⟩;subst qw)
      refine RC.mono ?_;rintro e w5 ⟨rfl,il⟩;have Rz:=ae (uv.below il);have HN5:=ae (Gj.below il);have oM:=zTr fh il;clear uv Gj fh il RC RN;have uv:=Rz;have Gj:=HN5;have fh:=oM;clear Rz HN5 oM;obtain⟨lv,Ct⟩:=QZ w5 Gj;have jz:zB w5 (w5.alloc (.cells #[zi 5,zi (k:Int)] 322)):=zBr.alloc zNr _;have HOA:=ae (uv.below jz);have HNA:=ae (Gj.below jz);have oF:=zTr fh jz;have kq:Hid ((w5.alloc (.cells #[zi 5,zi (k:Int)] 322)).heap[w5.heap.size]?=some (.cells (Hk (5,(k:Int))).toArray 322 (0,0))):=ae (qAB w5 _);have Ll:=Gj.lt;clear jz uv fh Gj;go_wp2_with (at_builtin;refine aS rfl _ _ 274 rfl (w.heap.size+1) i0 (.agg #[zi 0,zi 0]) 16 underlying274 dU cO cU cV rfl Si Si _ _ rfl HOA w5.heap.size (5,(k:Int)) rfl kq rfl (xn _) (qAF jD Sg) Tb ?_)
      intro v9 w9 aU dS;have hn9:=HNA.same (dS.block _ (qBu _));have hB9:=oF.trans (dS.mono (qBi _));obtain⟨w10,eF,zdt,kx⟩:=fP w9 hn9;have H6:=ae (hB9.grown kx.grown hB9.size (fun j hj=>XW));have U7:=ae (aU.J8 kx (qBu _));have zfd:=ae zdt;obtain⟨a9,m9,c9,rfl⟩:=aU.shape;clear aU dS hn9 hB9 HOA oF HNA kq kx zdt fP QZ;go_wp2;go_roundw
      case rel=>exact⟨k+1,Sg,Tc,by rw[aa HE];exact U7,by rw[aa HG];exact zfd,H6⟩
      case measure=>exact Te
     | false =>
      have HE:Hid (AS L (k+1)=AS L k):=ae (HF0 rfl);have HG:Hid (dD L (k+1)=dD L k++[nameAt L k]):=ae (DH rfl);have fP:=ae (fun(W:World) (h:DF W w.heap.size k (dD L k))=>h.store (ns':=dD L k++[nameAt L k]) (nameAt L k) k hns Sg Sg (fun t=>zeu));have QZ:=ae (fun(W:World) (h:DF W w.heap.size k (dD L k))=>h.look (nameAt L k) hns);rw[aa HCQ]at QZ;clear HF0 HF1 HK0 DH HCI HCQ;generalize nameAt L k=name at*;go_wp2_with fail
      refine HH.mono ?_;rintro e w1 ⟨rfl,ay⟩;have nh:=ae (HP w1 ay);have aQ:=ae ay;clear ay HH HP;go_wp2_with fail
      refine nh.mono ?_;rintro e w2 ⟨a2,c2,rfl,gy,aK⟩;have RN:=ae (HA w2 a2 c2 gy);have dr:=zTs aQ aK;have RC:=ae (CP w2 a2 c2 gy dr);have uv:=ae (HO.below dr);have Gj:=ae (Hx.below dr);have fh:=zTr aJ dr;clear aK gy dr nh aQ HA HO aJ Hx CP;go_wp2_with (go_at_call 272;refine RN.mono ?_;rintro e w3 ⟨rfl,qw⟩;subst qw)
      refine RC.mono ?_;rintro e w5 ⟨rfl,il⟩;have Rz:=ae (uv.below il);have HN5:=ae (Gj.below il);have oM:=zTr fh il;clear uv Gj fh il RC RN;have uv:=Rz;have Gj:=HN5;have fh:=oM;clear Rz HN5 oM;obtain⟨lv,Ct⟩:=QZ w5 Gj;obtain⟨w10,eF,zdt,kx⟩:=fP w5 Gj;have H6:=ae (fh.grown kx.grown fh.size (fun j hj=>XW));have U7:=ae (uv.J8 kx (qBu _));have zfd:=ae zdt;clear uv Gj fh kx zdt fP QZ;go_wp2;go_roundw
      case rel=>exact⟨k+1,Sg,Tc,by rw[aa HE];exact U7,by rw[aa HG];exact zfd,H6⟩
      case measure=>exact Te
  ·obtain rfl:k=8:=by omega
   have HO:=ae (az.base (qBi w.heap.size));have aJ:=ae ai;clear az ai hnm;exact zla
