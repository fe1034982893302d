/-
  Parts of the proofs.
-/
import Derived.Test.YtcimhnnendlblaaGreatJMgb
import Derived.Deep.CutRange
import Derived.OrdersHeld
set_option maxRecDepth 100000
set_option maxHeartbeats 16000000
set_option linter.all false
namespace Go.Proofs.YtcimhnnendlblaaGreat
open Go.RowKit
section
open Go.Shelf
theorem rO{w:World}{m a b:IM}(hM:Bs w m.1 m.2.1 m.2.2)(hA:Bs w a.1 a.2.1 a.2.2)(hB:Bs w b.1 b.2.1 b.2.2):Zl (w.alloc (.cells #[mi m,mi a,mi b] 30)) w.heap.size [m,a,b]/\Below w.heap.size w (w.alloc (.cells #[mi m,mi a,mi b] 30)):=by
 have hb:Below w.heap.size w (w.alloc (.cells #[mi m,mi a,mi b] 30)):=zBr.alloc zNr _;refine⟨⟨heap_alloc_new w _,fun x hx=>?_⟩,hb⟩;simp at hx;rcases hx with rfl | rfl | rfl
 ·exact hM.below hb
 ·exact hA.below hb
 ·exact hB.below hb
theorem Ho{gs:List Nat}(h:gs.length=3):∃ x y z,gs=[x,y,z]:=by
 match gs,h with
 | [x,y,z],_=>exact⟨x,y,z,rfl⟩
theorem zgT(gm ga gb:Nat)(m a b:List Int)(wA W:World)(hM:xw wA m W gm)(hA:xw wA a W ga)(hB:xw wA b W gb)(hW:Below wA.heap.size wA W) :
  Calls Tryz.prog 52 #[.map (some gm),.map (some ga),.map (some gb),.func (.func 53) #[] #[]] W fun e w'=>∃ gE v F,e=.returned (.tuple #[.map (some gE),v])/\W.heap.size<=gE/\(Mp fI w' gE 7000 F/\sf wA F (oT m a b))/\bT kY 1 3 w' W.heap.size v (fL.filter (E0 m a b))/\Below W.heap.size W w':=by
 obtain⟨Fm,hm,om⟩:=hM;obtain⟨Fa,ha,oa⟩:=hA;obtain⟨Fb,hb,ob⟩:=hB;have sam:∀ {F G:Int->Option OV} {x y:List Int},sf wA F (oL x)->sf wA G (oL y)->Gy W fL F G (fun k=>decide (oL x k=oL y k)):=fun o1 o2=>⟨fun k _ W' hW'=>o1.same o2 k W' (hW.trans (hW'.mono hW.size)),fun k _ h1 h2=>o1.zcE o2 k h1 h2⟩
 refine(zdv gm ga gb 40 40 40 Fm Fa Fb fL _ _ _ W hm ha hb uM om.inU oa.inU ob.inU PG (by rw [uN];omega) (by omega) (sam om oa) (sam om ob) (sam oa ob)).mono ?_;rintro e w' ⟨gE,v,rfl,h1,h2,h3,h4⟩;rw [zap] at h3;exact⟨gE,v,_,rfl,h1,⟨h2,sf.three om oa ob⟩,h3,h4⟩
theorem zdw(gm ga gb:Nat)(m a b:List Int)(W:World)(hM:xu W m W gm)(hA:xu W a W ga)(hB:xu W b W gb)(hnm:∀ s∈xR m a b,s.size<=8) :
  Calls Tryz.prog 54 #[.map (some gm),.map (some ga),.map (some gb),.func (.func 55) #[] #[]] W fun e w'=>∃ gE v,e=.returned (.tuple #[.map (some gE),v])/\W.heap.size<=gE/\Mp fY w' gE 7000 (za m a b)/\(∃ l,bT Ih 1 9 w' W.heap.size v l)/\Below W.heap.size W w':=by
 have sam:∀ (x y:List Int),Gx W (xR m a b) (xT (ak x 8)) (xT (ak y 8)) (fun s=>aU (ak x 8) s == aU (ak y 8) s):=fun x y=>⟨fun k _ W' hW'=>WK _ _ W',fun k _ h1 h2=>by
  show(aU (ak x 8) k == aU (ak y 8) k)=true
  rw [<- qK,<- qK,h1,h2];rfl⟩
 refine(zdu gm ga gb 8 8 8 (xT (ak m 8)) (xT (ak a 8)) (xT (ak b 8)) (xR m a b) _ _ _ W hM hA hB (Aw _) (fun k h=>zcF h) (fun k h=>zcH h) (fun k h=>zcG h) (fun k hk=>by show k.size<=maxLen;have:=hnm k hk;unfold maxLen;omega) (by have:=Pn (m:=m) (a:=a) (b:=b);omega) (by omega) (sam m a) (sam m b) (sam a b)).mono ?_;rintro e w' ⟨gE,v,rfl,h1,h2,h3,h4⟩;exact⟨gE,v,rfl,h1,h2,⟨_,h3⟩,h4⟩
theorem Wq(m a b:List Int)(h:(nT m a b).1≠0):(nT m a b).2=[]:=by
 unfold nT Wp at h ⊢;split at h
 ·rename_i h1;rw [if_pos h1]
 ·rename_i h1
  rw [if_neg h1];split at h
  ·rename_i h2;rw [if_pos h2]
  ·exact absurd rfl h
def thE(m a b:IM):Int:=if lu m.2.2.length [m,a,b]=0 then (nT m.2.2 a.2.2 b.2.2).1 else lu m.2.2.length [m,a,b]
def thL(m a b:IM):List Int:=if lu m.2.2.length [m,a,b]=0 then (nT m.2.2 a.2.2 b.2.2).2 else []
def thK(m a b:IM):List Int:=if thE m a b=0 then fL.filter (E0 m.2.2 a.2.2 b.2.2) else []
def T3(w w3 wx wA:World)(m a b:List Int)(bx gE:Nat)(v:Value):Prop :=∃ F,w3.heap.size<=gE/\w3.heap.size<=bx/\Mp fI wx gE 7000 F/\sf wA F (oT m a b)/\bT kY 1 3 wx w.heap.size v (fL.filter (E0 m a b))/\Below w3.heap.size w3 wx/\wx.cell? ⟨bx,0,none⟩=some (.map (some gE))
theorem bT.zdC{α:Type}{enc:α->List Value}{k T:Nat}{w:World}{B b i:Nat}{v:Value}{l:List α}(h:bT enc k T w B v l)(hb:b<B)(u:Value):bT enc k T (w.setCell ⟨b,i,none⟩ u) B v l:=by
 refine⟨h.1,?_⟩;rcases h.2 with h0 | ⟨g,cap,cur,e,hB,hc,r⟩
 ·exact .inl h0
 ·exact .inr ⟨g,cap,cur,e,hB,(Below.heap_setCell w ⟨b,i,none⟩ u g (by show g≠b;omega)).trans hc,r⟩
def C3(w3 W w' wA:World)(m a b:List Int)(gE:Nat)(v:Value)(F:Int->Option OV):Prop :=w3.heap.size<=gE/\Mp fI w' gE 7000 F/\sf wA F (oT m a b)/\bT kY 1 3 w' W.heap.size v (fL.filter (E0 m a b))/\Below w3.heap.size w3 w'/\Below W.heap.size W w'/\W.heap.size<=gE
section
variable {w w3 W w4 wA:World} {m a b:List Int} {gE:Nat} {v:Value} {F:Int->Option OV}
theorem C3.TM(h:C3 w3 W w4 wA m a b gE v F)(hw:w.heap.size<=W.heap.size):T3 w w3 (w4.alloc (.cells #[.map (some gE)] 108)) wA m a b w4.heap.size gE v:=by obtain⟨h1,h2,h3,h4,h5,h6,h7⟩:=h;have hb:Below w4.heap.size w4 (w4.alloc (.cells #[.map (some gE)] 108)):=zBr.alloc zNr _;exact⟨F,h1,h5.size,h2.below hb,h3,bT.Jh (h4.below hb) hw,h5.alloc h5.size _,dK _ _ _⟩
theorem C3.box(h:C3 w3 (w3.alloc (.cells #[.map none] 108)).drew w4 wA m a b gE v F):w4.cell? ⟨w3.heap.size,0,none⟩=some (.map none)/\w4.frozen? ⟨w3.heap.size,0,none⟩=false/\w3.heap.size<w4.heap.size/\Rw w4 w3.heap.size 108 [.map none]:=by obtain⟨h1,h2,h3,h4,h5,h6,h7⟩:=h;have hs:(w3.alloc (.cells #[.map none] 108)).drew.heap.size=w3.heap.size+1:=aH _ _;have hr:Rw w4 w3.heap.size 108 [.map none]:=(h6.block w3.heap.size (by rw [hs];omega)).trans (heap_alloc_new w3 _);exact⟨hr.cell rfl,hr.frozen 0,hr.lt,hr⟩
theorem C3.Y4(h:C3 w3 (w3.alloc (.cells #[.map none] 108)).drew w4 wA m a b gE v F)(hw:w.heap.size<=w3.heap.size):T3 w w3 (w4.setCell ⟨w3.heap.size,0,none⟩ (.map (some gE))) wA m a b w3.heap.size gE v:=by obtain⟨_,_,_,hr⟩:=h.box;obtain⟨h1,h2,h3,h4,h5,h6,h7⟩:=h;have hs:(w3.alloc (.cells #[.map none] 108)).drew.heap.size=w3.heap.size+1:=aH _ _;rw [hs] at h4 h7;exact⟨F,h1,zNr,h2.same (Below.heap_setCell _ _ _ _ (by show gE≠w3.heap.size;omega)),h3,bT.Jh (bT.zdC h4 (by omega) _) (by omega),h5.setCell zNr _,(hr.set 0 _).cell rfl⟩
theorem xj{b o:Nat}{u x:Value}(hb:b<w3.heap.size)(h:w4.cell? ⟨b,o,none⟩=some x):(w4.setCell ⟨w3.heap.size,0,none⟩ u).cell? ⟨b,o,none⟩=some x :=(((Below.refl w3.heap.size w4).setCell (p:=⟨w3.heap.size,0,none⟩) zNr u).cell (p:=⟨b,o,none⟩) hb).trans h
end
theorem MP(m a b:IM)(w:World)(hM:Bs w m.1 m.2.1 m.2.2)(hA:Bs w a.1 a.2.1 a.2.2)(hB:Bs w b.1 b.2.1 b.2.2) :
  Calls Tryz.prog 15 #[mi m,mi a,mi b] w fun e w'=>∃ x c v,e=.returned (.tuple #[.slice x (thL m a b).length c,v,aR (thE m a b)])/\Bs w' x c (thL m a b)/\bT kY 1 3 w' w.heap.size v (thK m a b)/\Below w.heap.size w w':=by
 obtain⟨hi,gy⟩:=rO hM hA hB;have CC:Hid (Calls Tryz.prog 47 #[.slice (some ⟨w.heap.size,0,none⟩) 3 3] (w.alloc (.cells #[mi m,mi a,mi b] 30)) fun e w'=>e=.returned (aR (lu m.2.2.length [m,a,b]))/\Below (w.alloc (.cells #[mi m,mi a,mi b] 30)).heap.size (w.alloc (.cells #[mi m,mi a,mi b] 30)) w'):=af (TG w.heap.size [m,a,b] m _ hi rfl (by show 3<=10;omega));have iw:=af gy;have HFI:=af (fun h=>NZ (n:=m.2.2.length) (l:=[m,a,b]) h);have HEO:=af (fun(W:World) (hW:Below w.heap.size w W) (hf:∀ x∈[m,a,b],aB x.2.2/\x.2.2.length=m.2.2.length)=>show Calls Tryz.prog 48 #[.func (.func 49) #[] #[],.slice (some ⟨W.heap.size,0,none⟩) 3 3] (W.alloc (.cells #[mi m,mi a,mi b] 30)) _ from ziX [m,a,b] W.heap.size _ (rO (hM.below hW) (hA.below hW) (hB.below hW)).1 (fun x hx=>(hf x hx).1) (by show 3<=10;omega));have HES:=af (fun(W:World) (hW:Below w.heap.size w W) (hf:∀ x∈[m,a,b],aB x.2.2/\x.2.2.length=m.2.2.length)=>show Calls Tryz.prog 50 #[.func (.func 51) #[] #[],.slice (some ⟨W.heap.size,0,none⟩) 3 3] (W.alloc (.cells #[mi m,mi a,mi b] 30)) _ from ziW [m,a,b] W.heap.size _ (rO (hM.below hW) (hA.below hW) (hB.below hW)).1 (fun x hx=>(hf x hx).1) (by show 3<=10;omega));have HBI:=af (fun(W:World) (hW:Below w.heap.size w W)=>(rO (hM.below hW) (hA.below hW) (hB.below hW)).2);have HKq:Hid (thK m a b=if thE m a b=0 then fL.filter (E0 m.2.2 a.2.2 b.2.2) else []):=af rfl;have HEq:Hid (thE m a b=if lu m.2.2.length [m,a,b]=0 then (nT m.2.2 a.2.2 b.2.2).1 else lu m.2.2.length [m,a,b]):=af rfl;have HLq:Hid (thL m a b=if lu m.2.2.length [m,a,b]=0 then (nT m.2.2 a.2.2 b.2.2).2 else []):=af rfl;generalize thK m a b=TK at *;generalize thE m a b=TE at *;generalize thL m a b=TL at *;have bym:=hM.1;have bya:=hA.1;have byb:=hB.1;generalize lu m.2.2.length [m,a,b]=C at *;clear hi gy hM hA hB;by_cases hC:C=0
 ·subst hC;rw [if_pos rfl] at HEq HLq;rw [aA] at CC;have hf:=ae HFI rfl;have fm:=hf m (by simp);have fa:=hf a (by simp);have fb:=hf b (by simp);have zfA:=af hf;obtain⟨ma,mc,ml⟩:=m;obtain⟨aa,ac,al⟩:=a;obtain⟨ba,bc,bl⟩:=b;unfold mi at *;dsimp only at *;have HFM:=af fm.1;have HFA:=af fa.1;have HFB:=af fb.1;have HYM:=af bym;have HYA:=af bya;have HYB:=af byb;have tH:=fm.1.len;clear HFI hf fm fa fb bym bya byb;go_enter Tryz.func15,Tryz.ntmps15
  go_wp2_with fail
  refine(ae CC).mono ?_;rintro e w1 ⟨rfl,ay⟩;have dm:Below w.heap.size w w1:=zTs iw ay;have CA:=af (ae HEO w1 dm (ae zfA));have zjO:=af (ae HBI w1 dm);have aL:=af dm;clear ay dm CC HEO iw;go_wp2_with fail
  refine(ae CA).mono ?_;rintro e w2 ⟨v2,gs,rfl,JX,zie,zbD,aK⟩;obtain⟨g0,g1,g2,rfl⟩:=Ho zie;obtain⟨a2,c2,rfl,oh⟩:=JX.kk Pj (by show 3<=_;omega);obtain⟨b2,o2,rfl,nH⟩:=oh.2.2.2 (by simp);have k0:w2.cell? ⟨b2,o2,none⟩=some (.map (some g0)):=by have:=nH 0 g0 rfl 0 _ rfl;simpa using this
  have k1:w2.cell? ⟨b2,o2+1,none⟩=some (.map (some g1)):=by have:=nH 1 g1 rfl 0 _ rfl;simpa using this
  have k2:w2.cell? ⟨b2,o2+2,none⟩=some (.map (some g2)):=by have:=nH 2 g2 rfl 0 _ rfl;simpa using this
  have kl:=block_lt_of_cell k0;have r0:=(zbD 0 _ _ rfl rfl).2;have r1:=(zbD 1 _ _ rfl rfl).2;have r2:=(zbD 2 _ _ rfl rfl).2;dsimp only at r0 r1 r2;have zfb:=ae zjO;have cD:Below w.heap.size w w2:=(zTs aL zfb).trans (aK.mono (Nat.le_trans (ae aL).size zfb.size));have HR0:=af r0;have vp:=af r1;have tN:=af r2;have G3:=af k0;have GC:=af k1;have xy:=af k2;have ZN:=af aK;have EI:=af (ae HES w2 cD (ae zfA));have zfK:=af (ae HBI w2 cD);have br:=af cD;clear JX zie zbD oh nH r0 r1 r2 k0 k1 k2 aK cD zfb CA HES HBI zfA zjO aL;go_wp2_with fail
  refine(ae EI).mono ?_;rintro e w3 ⟨v3,gs,rfl,hL3,zid,zbC,bR⟩;obtain⟨l0,l1,l2,rfl⟩:=Ho zid;obtain⟨a3,c3,rfl,F5⟩:=hL3.kk Pj (by show 3<=_;omega);obtain⟨b3,o3,rfl,BS⟩:=F5.2.2.2 (by simp);have j0:w3.cell? ⟨b3,o3,none⟩=some (.map (some l0)):=by have:=BS 0 l0 rfl 0 _ rfl;simpa using this
  have j1:w3.cell? ⟨b3,o3+1,none⟩=some (.map (some l1)):=by have:=BS 1 l1 rfl 0 _ rfl;simpa using this
  have j2:w3.cell? ⟨b3,o3+2,none⟩=some (.map (some l2)):=by have:=BS 2 l2 rfl 0 _ rfl;simpa using this
  have jl:=block_lt_of_cell j0;have s0:=(zbC 0 _ _ rfl rfl).2;have s1:=(zbC 1 _ _ rfl rfl).2;have s2:=(zbC 2 _ _ rfl rfl).2;dsimp only at s0 s1 s2;have yI:Below w2.heap.size w2 w3:=zTs zfK bR;have j8:Below w.heap.size w w3:=zTs br yI;have k0:=(yI.cell (p:=⟨b2,o2,none⟩) kl).trans (ae G3);have k1:=(yI.cell (p:=⟨b2,o2+1,none⟩) kl).trans (ae GC);have k2:=(yI.cell (p:=⟨b2,o2+2,none⟩) kl).trans (ae xy);have HT:=af (fun(W:World) (hW:Below w3.heap.size w3 W)=>show Calls Tryz.prog 52 #[.map (some g0),.map (some g1),.map (some g2),.func (.func 53) #[] #[]] W fun e w'=>∃ gE va vm vc F,e=.returned (.tuple #[.map (some gE),.slice va vm vc])/\C3 w3 W w' (w1.alloc (.cells #[.slice ma ml.length mc,.slice aa al.length ac,.slice ba bl.length bc] 30)) ml al bl gE (.slice va vm vc) F/\w'.cell? ⟨b2,o2,none⟩=some (.map (some g0))/\w'.cell? ⟨b2,o2+1,none⟩=some (.map (some g1))/\w'.cell? ⟨b2,o2+2,none⟩=some (.map (some g2)) from by have Gg:Below w2.heap.size w2 W:=yI.trans (hW.mono yI.size);refine(zgT g0 g1 g2 ml al bl _ W ((ae HR0).same (Gg.block g0 (by obtain⟨es,cl,hm⟩:=(ae HR0).isMap;exact(zAg hm).1))) ((ae vp).same (Gg.block g1 (by obtain⟨es,cl,hm⟩:=(ae vp).isMap;exact(zAg hm).1))) ((ae tN).same (Gg.block g2 (by obtain⟨es,cl,hm⟩:=(ae tN).isMap;exact(zAg hm).1))) (zTs ZN Gg)).mono ?_;rintro e w' ⟨gE,v,F,rfl,q1,⟨q2,q3⟩,q4,q5⟩;obtain⟨va,vm,vc,rfl⟩:=q4.shape;have q6:Below w3.heap.size w3 w':=hW.trans (q5.mono hW.size);exact⟨gE,va,vm,vc,F,rfl,⟨Nat.le_trans hW.size q1,q2,q3,q4,q6,q5,q1⟩,(q6.cell (p:=⟨b2,o2,none⟩) (Nat.lt_of_lt_of_le kl yI.size)).trans k0,(q6.cell (p:=⟨b2,o2+1,none⟩) (Nat.lt_of_lt_of_le kl yI.size)).trans k1,(q6.cell (p:=⟨b2,o2+2,none⟩) (Nat.lt_of_lt_of_le kl yI.size)).trans k2⟩);have hws:=j8.size;have yJ:Below (w1.alloc (.cells #[.slice ma ml.length mc,.slice aa al.length ac,.slice ba bl.length bc] 30)).heap.size (w1.alloc (.cells #[.slice ma ml.length mc,.slice aa al.length ac,.slice ba bl.length bc] 30)) w3:=zTs ZN yI;have cT:=af j8;have zl:=af s0;have mB:=af s1;have yU:=af s2;have HJ0:=af j0;have HJ1:=af j1;have HJ2:=af j2;have kl3:b2<w3.heap.size:=Nat.lt_of_lt_of_le kl yI.size;clear hL3 zid zbC F5 BS s0 s1 s2 j0 j1 j2 bR yI j8 EI zfK br ZN HR0 vp tN G3 GC xy;go_upto_region 10 with fail
  go_cut [13,14] from 48 to 60 (fun v13 v14 wx=>∃ bx gE va vm vc,v13=.pointer (some ⟨bx,0,none⟩)/\v14=.slice va vm vc/\T3 w w3 wx (w1.alloc (.cells #[.slice ma ml.length mc,.slice aa al.length ac,.slice ba bl.length bc] 30)) ml al bl bx gE (.slice va vm vc))
  case first =>
   refine wp_region_held_drew (S:=(fun w'=>w'.cell? ⟨b2,o2,none⟩=some (.map (some g0))/\w'.cell? ⟨b2,o2+1,none⟩=some (.map (some g1))/\w'.cell? ⟨b2,o2+2,none⟩=some (.map (some g2)))) (by kernel_rfl) ⟨k0,k1,k2⟩ (fun PU=>?_);refine wpAnyH_take (i:=0) (oi:={ dst:=some 49,op:=Op.move (Operand.tmp 10),type:=98,pos := "merge.go:46",after:=#[],guard:=none }) (v:=(.slice (some ⟨b2,o2,none⟩) 3 c2)) rfl (by kernel_rfl) (by kernel_rfl) (by kernel_rfl) (fun _ _ _ h=>h) (Or.inl ⟨by rfl,fun wq jz=>by (try dsimp only at jz);go_simp⟩) (by assumption) ?_
   try simp only [Act.put,List.setIfInBounds_toArray,List.set_cons_zero,List.set_cons_succ]
   refine wpAnyH_take (i:=1) (oi:={ dst:=some 50,op:=Op.indexAddr 98 (Operand.tmp 49) (Operand.const (Value.int IntKind.i64 0)),type:=0,pos := "merge.go:46",after:=#[{ on:=0,ground:=Ground.data }],guard:=none }) (v:=(.pointer (some ⟨b2,o2,none⟩))) rfl (by kernel_rfl) (by kernel_rfl) (by kernel_rfl) (fun _ _ _ h=>h) (Or.inl ⟨by rfl,fun wq jz=>by (try dsimp only at jz);go_simp⟩) (by assumption) ?_
   try simp only [Act.put,List.setIfInBounds_toArray,List.set_cons_zero,List.set_cons_succ]
   refine wpAnyH_take (i:=2) (oi:={ dst:=some 51,op:=Op.load 108 (Operand.tmp 50),type:=108,pos := "merge.go:46",after:=#[{ on:=1,ground:=Ground.data }],guard:=none }) (v:=(.map (some g0))) rfl (by kernel_rfl) (by kernel_rfl) (by kernel_rfl) (fun _ _ _ h=>h) (Or.inl ⟨by rfl,fun wq jz=>by (try dsimp only at jz);go_simp⟩) (by assumption) ?_
   try simp only [Act.put,List.setIfInBounds_toArray,List.set_cons_zero,List.set_cons_succ]
   refine wpAnyH_take (i:=3) (oi:={ dst:=some 52,op:=Op.move (Operand.tmp 10),type:=98,pos := "merge.go:46",after:=#[],guard:=none }) (v:=(.slice (some ⟨b2,o2,none⟩) 3 c2)) rfl (by kernel_rfl) (by kernel_rfl) (by kernel_rfl) (fun _ _ _ h=>h) (Or.inl ⟨by rfl,fun wq jz=>by (try dsimp only at jz);go_simp⟩) (by assumption) ?_
   try simp only [Act.put,List.setIfInBounds_toArray,List.set_cons_zero,List.set_cons_succ]
   refine wpAnyH_take (i:=4) (oi:={ dst:=some 53,op:=Op.indexAddr 98 (Operand.tmp 52) (Operand.const (Value.int IntKind.i64 1)),type:=0,pos := "merge.go:46",after:=#[{ on:=3,ground:=Ground.data }],guard:=none }) (v:=(.pointer (some ⟨b2,o2+1,none⟩))) rfl (by kernel_rfl) (by kernel_rfl) (by kernel_rfl) (fun _ _ _ h=>h) (Or.inl ⟨by rfl,fun wq jz=>by (try dsimp only at jz);go_simp⟩) (by assumption) ?_
   try simp only [Act.put,List.setIfInBounds_toArray,List.set_cons_zero,List.set_cons_succ]
   refine wpAnyH_take (i:=5) (oi:={ dst:=some 54,op:=Op.load 108 (Operand.tmp 53),type:=108,pos := "merge.go:46",after:=#[{ on:=4,ground:=Ground.data }],guard:=none }) (v:=(.map (some g1))) rfl (by kernel_rfl) (by kernel_rfl) (by kernel_rfl) (fun _ _ _ h=>h) (Or.inl ⟨by rfl,fun wq jz=>by (try dsimp only at jz);go_simp⟩) (by assumption) ?_
   try simp only [Act.put,List.setIfInBounds_toArray,List.set_cons_zero,List.set_cons_succ]
   refine wpAnyH_take (i:=6) (oi:={ dst:=some 55,op:=Op.move (Operand.tmp 10),type:=98,pos := "merge.go:46",after:=#[],guard:=none }) (v:=(.slice (some ⟨b2,o2,none⟩) 3 c2)) rfl (by kernel_rfl) (by kernel_rfl) (by kernel_rfl) (fun _ _ _ h=>h) (Or.inl ⟨by rfl,fun wq jz=>by (try dsimp only at jz);go_simp⟩) (by assumption) ?_
   try simp only [Act.put,List.setIfInBounds_toArray,List.set_cons_zero,List.set_cons_succ]
   refine wpAnyH_take (i:=7) (oi:={ dst:=some 56,op:=Op.indexAddr 98 (Operand.tmp 55) (Operand.const (Value.int IntKind.i64 2)),type:=0,pos := "merge.go:46",after:=#[{ on:=6,ground:=Ground.data }],guard:=none }) (v:=(.pointer (some ⟨b2,o2+2,none⟩))) rfl (by kernel_rfl) (by kernel_rfl) (by kernel_rfl) (fun _ _ _ h=>h) (Or.inl ⟨by rfl,fun wq jz=>by (try dsimp only at jz);go_simp⟩) (by assumption) ?_
   try simp only [Act.put,List.setIfInBounds_toArray,List.set_cons_zero,List.set_cons_succ]
   refine wpAnyH_take (i:=8) (oi:={ dst:=some 57,op:=Op.load 108 (Operand.tmp 56),type:=108,pos := "merge.go:46",after:=#[{ on:=7,ground:=Ground.data }],guard:=none }) (v:=(.map (some g2))) rfl (by kernel_rfl) (by kernel_rfl) (by kernel_rfl) (fun _ _ _ h=>h) (Or.inl ⟨by rfl,fun wq jz=>by (try dsimp only at jz);go_simp⟩) (by assumption) ?_
   try simp only [Act.put,List.setIfInBounds_toArray,List.set_cons_zero,List.set_cons_succ]
   refine wpAnyH_ready (rs:=[9,13]) (by kernel_rfl) (by simp) ?_;refine AllReadyH.cons (o:={ dst:=some 58,op:=Op.call { callee:=Callee.value (Operand.func 52),args:=#[Operand.tmp 51,Operand.tmp 54,Operand.tmp 57,Operand.func 53],argTypes:=#[108,108,108,111]},type:=109,pos := "merge.go:46",after:=#[{ on:=2,ground:=Ground.data },{ on:=5,ground:=Ground.data },{ on:=8,ground:=Ground.data }],guard:=none }) rfl (fun K hK=>?_) (AllReadyH.cons (o:={ dst:=some 13,op:=Op.alloc 108,type:=0,pos := "merge.go:46",after:=#[],guard:=none }) rfl (fun K hK=>?_) AllReadyH.nil)
   ·skip
    go_simp
    refine(ae HT _ (by repeat (first | exact zBr | refine Below.drew ?_))).mono ?_;rintro e w4 ⟨gE,va,vm,vc,F,rfl,h4,t0,t1,t2⟩;refine hK.out _ _ ⟨t0,t1,t2⟩ (fun No=>?_);clear hK K PU
    try simp only [Act.put,List.setIfInBounds_toArray,List.set_cons_zero,List.set_cons_succ]
    refine wpAnyH_take (i:=10) (oi:={ dst:=some 48,op:=Op.move (Operand.tmp 58),type:=109,pos := "merge.go:46",after:=#[{ on:=9,ground:=Ground.data }],guard:=none }) (v:=(.tuple #[.map (some gE),.slice va vm vc])) rfl (by kernel_rfl) (by kernel_rfl) (by kernel_rfl) (fun _ _ _ h=>h) (Or.inl ⟨by rfl,fun wq jz=>by (try dsimp only at jz);go_simp⟩) (by assumption) ?_
    try simp only [Act.put,List.setIfInBounds_toArray,List.set_cons_zero,List.set_cons_succ]
    refine wpAnyH_take (i:=11) (oi:={ dst:=some 59,op:=Op.extract (Operand.tmp 48) 0,type:=108,pos := "merge.go:46",after:=#[{ on:=10,ground:=Ground.data }],guard:=none }) (v:=(.map (some gE))) rfl (by kernel_rfl) (by kernel_rfl) (by kernel_rfl) (fun _ _ _ h=>h) (Or.inl ⟨by rfl,fun wq jz=>by (try dsimp only at jz);go_simp⟩) (by assumption) ?_
    try simp only [Act.put,List.setIfInBounds_toArray,List.set_cons_zero,List.set_cons_succ]
    refine wpAnyH_take (i:=12) (oi:={ dst:=some 60,op:=Op.extract (Operand.tmp 48) 1,type:=44,pos := "merge.go:46",after:=#[{ on:=10,ground:=Ground.data },{ on:=14,ground:=Ground.gcOnly Departure.lateStores }],guard:=none }) (v:=(.slice va vm vc)) rfl (by kernel_rfl) (by kernel_rfl) (by kernel_rfl) (fun _ _ _ h=>h) (Or.inl ⟨by rfl,fun wq jz=>by (try dsimp only at jz);go_simp⟩) (by assumption) ?_
    try simp only [Act.put,List.setIfInBounds_toArray,List.set_cons_zero,List.set_cons_succ]
    refine wpAnyH_ready (rs:=[13]) (by kernel_rfl) (by simp) ?_;refine AllReadyH.cons (o:={ dst:=some 13,op:=Op.alloc 108,type:=0,pos := "merge.go:46",after:=#[],guard:=none }) rfl (fun K hK=>?_) AllReadyH.nil
    go_simp
    refine hK.out _ _ ⟨cC _ t0,cC _ t1,cC _ t2⟩ (fun AT=>?_);clear hK K No
    try simp only [Act.put,List.setIfInBounds_toArray,List.set_cons_zero,List.set_cons_succ]
    refine wpAnyH_ready (rs:=[14]) (by kernel_rfl) (by simp) ?_;refine AllReadyH.cons (o:={ dst:=none,op:=Op.store 108 (Operand.tmp 13) (Operand.tmp 59),type:=0,pos := "merge.go:46",after:=#[{ on:=13,ground:=Ground.data },{ on:=11,ground:=Ground.data },{ on:=9,ground:=Ground.chain },{ on:=0,ground:=Ground.phase },{ on:=1,ground:=Ground.phase },{ on:=2,ground:=Ground.phase },{ on:=3,ground:=Ground.phase },{ on:=4,ground:=Ground.phase },{ on:=5,ground:=Ground.phase },{ on:=6,ground:=Ground.phase },{ on:=7,ground:=Ground.phase },{ on:=8,ground:=Ground.phase },{ on:=9,ground:=Ground.phase },{ on:=10,ground:=Ground.phase },{ on:=11,ground:=Ground.phase },{ on:=12,ground:=Ground.textOnly Departure.lateStores },{ on:=13,ground:=Ground.phase }],guard:=none }) rfl (fun K hK=>?_) AllReadyH.nil
    go_simp
    refine hK.out _ _ ⟨cC _ t0,cC _ t1,cC _ t2⟩ (fun ze5=>?_);clear hK K AT
    try simp only [Act.put,List.setIfInBounds_toArray,List.set_cons_zero,List.set_cons_succ]
    refine wpAnyH_take (i:=15) (oi:={ dst:=some 14,op:=Op.assign (Operand.tmp 60),type:=44,pos := "merge.go:46",after:=#[{ on:=12,ground:=Ground.data },{ on:=14,ground:=Ground.chain },{ on:=0,ground:=Ground.phase },{ on:=1,ground:=Ground.phase },{ on:=2,ground:=Ground.phase },{ on:=3,ground:=Ground.phase },{ on:=4,ground:=Ground.phase },{ on:=5,ground:=Ground.phase },{ on:=6,ground:=Ground.phase },{ on:=7,ground:=Ground.phase },{ on:=8,ground:=Ground.phase },{ on:=9,ground:=Ground.phase },{ on:=10,ground:=Ground.phase },{ on:=11,ground:=Ground.phase },{ on:=12,ground:=Ground.phase },{ on:=13,ground:=Ground.phase },{ on:=14,ground:=Ground.phase }],guard:=none }) (v:=(.slice va vm vc)) rfl (by kernel_rfl) (by kernel_rfl) (by kernel_rfl) (fun _ _ _ h=>h) (Or.inl ⟨by rfl,fun wq jz=>by (try dsimp only at jz);go_simp⟩) (by assumption) ?_
    try simp only [Act.put,List.setIfInBounds_toArray,List.set_cons_zero,List.set_cons_succ]
    refine wpAnyH_done (by kernel_rfl) ?_ _;go_wp2;go_meet
    case rel=>exact⟨w4.heap.size,gE,va,vm,vc,rfl,rfl,h4.TM hws⟩
   ·skip
    go_simp
    refine hK.out _ _ ⟨cC _ k0,cC _ k1,cC _ k2⟩ (fun No=>?_);clear hK K PU
    try simp only [Act.put,List.setIfInBounds_toArray,List.set_cons_zero,List.set_cons_succ]
    refine wpAnyH_ready (rs:=[9]) (by kernel_rfl) (by simp) ?_;refine AllReadyH.cons (o:={ dst:=some 58,op:=Op.call { callee:=Callee.value (Operand.func 52),args:=#[Operand.tmp 51,Operand.tmp 54,Operand.tmp 57,Operand.func 53],argTypes:=#[108,108,108,111]},type:=109,pos := "merge.go:46",after:=#[{ on:=2,ground:=Ground.data },{ on:=5,ground:=Ground.data },{ on:=8,ground:=Ground.data }],guard:=none }) rfl (fun K hK=>?_) AllReadyH.nil
    go_simp
    refine(ae HT _ (by repeat (first | exact zBr | refine Below.drew ?_ | refine Below.alloc ?_ zNr _))).mono ?_;rintro e w4 ⟨gE,va,vm,vc,F,rfl,h4,t0,t1,t2⟩;refine hK.out _ _ ⟨t0,t1,t2⟩ (fun AT=>?_);clear hK K No
    try simp only [Act.put,List.setIfInBounds_toArray,List.set_cons_zero,List.set_cons_succ]
    refine wpAnyH_take (i:=10) (oi:={ dst:=some 48,op:=Op.move (Operand.tmp 58),type:=109,pos := "merge.go:46",after:=#[{ on:=9,ground:=Ground.data }],guard:=none }) (v:=(.tuple #[.map (some gE),.slice va vm vc])) rfl (by kernel_rfl) (by kernel_rfl) (by kernel_rfl) (fun _ _ _ h=>h) (Or.inl ⟨by rfl,fun wq jz=>by (try dsimp only at jz);go_simp⟩) (by assumption) ?_
    try simp only [Act.put,List.setIfInBounds_toArray,List.set_cons_zero,List.set_cons_succ]
    refine wpAnyH_take (i:=11) (oi:={ dst:=some 59,op:=Op.extract (Operand.tmp 48) 0,type:=108,pos := "merge.go:46",after:=#[{ on:=10,ground:=Ground.data }],guard:=none }) (v:=(.map (some gE))) rfl (by kernel_rfl) (by kernel_rfl) (by kernel_rfl) (fun _ _ _ h=>h) (Or.inl ⟨by rfl,fun wq jz=>by (try dsimp only at jz);go_simp⟩) (by assumption) ?_
    try simp only [Act.put,List.setIfInBounds_toArray,List.set_cons_zero,List.set_cons_succ]
    refine wpAnyH_take (i:=12) (oi:={ dst:=some 60,op:=Op.extract (Operand.tmp 48) 1,type:=44,pos := "merge.go:46",after:=#[{ on:=10,ground:=Ground.data },{ on:=14,ground:=Ground.gcOnly Departure.lateStores }],guard:=none }) (v:=(.slice va vm vc)) rfl (by kernel_rfl) (by kernel_rfl) (by kernel_rfl) (fun _ _ _ h=>h) (Or.inl ⟨by rfl,fun wq jz=>by (try dsimp only at jz);go_simp⟩) (by assumption) ?_
    try simp only [Act.put,List.setIfInBounds_toArray,List.set_cons_zero,List.set_cons_succ]
    refine wpAnyH_ready (rs:=[14]) (by kernel_rfl) (by simp) ?_;refine AllReadyH.cons (o:={ dst:=none,op:=Op.store 108 (Operand.tmp 13) (Operand.tmp 59),type:=0,pos := "merge.go:46",after:=#[{ on:=13,ground:=Ground.data },{ on:=11,ground:=Ground.data },{ on:=9,ground:=Ground.chain },{ on:=0,ground:=Ground.phase },{ on:=1,ground:=Ground.phase },{ on:=2,ground:=Ground.phase },{ on:=3,ground:=Ground.phase },{ on:=4,ground:=Ground.phase },{ on:=5,ground:=Ground.phase },{ on:=6,ground:=Ground.phase },{ on:=7,ground:=Ground.phase },{ on:=8,ground:=Ground.phase },{ on:=9,ground:=Ground.phase },{ on:=10,ground:=Ground.phase },{ on:=11,ground:=Ground.phase },{ on:=12,ground:=Ground.textOnly Departure.lateStores },{ on:=13,ground:=Ground.phase }],guard:=none }) rfl (fun K hK=>?_) AllReadyH.nil
    obtain⟨GK,k7,lF,_⟩:=h4.box
    go_simp
    refine hK.out _ _ ⟨xj kl3 t0,xj kl3 t1,xj kl3 t2⟩ (fun ze5=>?_);clear hK K AT
    try simp only [Act.put,List.setIfInBounds_toArray,List.set_cons_zero,List.set_cons_succ]
    refine wpAnyH_take (i:=15) (oi:={ dst:=some 14,op:=Op.assign (Operand.tmp 60),type:=44,pos := "merge.go:46",after:=#[{ on:=12,ground:=Ground.data },{ on:=14,ground:=Ground.chain },{ on:=0,ground:=Ground.phase },{ on:=1,ground:=Ground.phase },{ on:=2,ground:=Ground.phase },{ on:=3,ground:=Ground.phase },{ on:=4,ground:=Ground.phase },{ on:=5,ground:=Ground.phase },{ on:=6,ground:=Ground.phase },{ on:=7,ground:=Ground.phase },{ on:=8,ground:=Ground.phase },{ on:=9,ground:=Ground.phase },{ on:=10,ground:=Ground.phase },{ on:=11,ground:=Ground.phase },{ on:=12,ground:=Ground.phase },{ on:=13,ground:=Ground.phase },{ on:=14,ground:=Ground.phase }],guard:=none }) (v:=(.slice va vm vc)) rfl (by kernel_rfl) (by kernel_rfl) (by kernel_rfl) (fun _ _ _ h=>h) (Or.inl ⟨by rfl,fun wq jz=>by (try dsimp only at jz);go_simp⟩) (by assumption) ?_
    try simp only [Act.put,List.setIfInBounds_toArray,List.set_cons_zero,List.set_cons_succ]
    refine wpAnyH_done (by kernel_rfl) ?_ _;go_wp2;go_meet
    case rel=>exact⟨w3.heap.size,gE,va,vm,vc,rfl,rfl,h4.Y4 hws⟩
  case rest =>
   obtain⟨bx,gE,va,vm,vc,rfl,rfl,hT3⟩:=hcut;obtain⟨F,q1,q2,q3,q4,q5,q6,q7⟩:=hT3;have zlj:=q3.lt;have ziw:=block_lt_of_cell q7;have j0:=(q6.cell (p:=⟨b3,o3,none⟩) jl).trans (ae HJ0);have j1:=(q6.cell (p:=⟨b3,o3+1,none⟩) jl).trans (ae HJ1);have j2:=(q6.cell (p:=⟨b3,o3+2,none⟩) jl).trans (ae HJ2);have jlc:b3<wc.heap.size:=Nat.lt_of_lt_of_le jl q6.size;have HTL:Hid (Calls Tryz.prog 54 #[.map (some l0),.map (some l1),.map (some l2),.func (.func 55) #[] #[]] wc.drew fun e w'=>∃ gR ra rm rc,e=.returned (.tuple #[.map (some gR),.slice ra rm rc])/\(wc.heap.size<=gR/\Mp fY w' gR 7000 (za ml al bl)/\Below wc.heap.size wc w')/\w'.cell? ⟨b3,o3,none⟩=some (.map (some l0))/\w'.cell? ⟨b3,o3+1,none⟩=some (.map (some l1))/\w'.cell? ⟨b3,o3+2,none⟩=some (.map (some l2))):=af (by
    have hd:Below wc.heap.size wc wc.drew:=zBr.drew;have sw:∀ {L:List Int} {g:Nat},xu (w2.alloc (.cells #[.slice ma ml.length mc,.slice aa al.length ac,.slice ba bl.length bc] 30)) L w3 g->xu wc.drew L wc.drew g:=fun {L g} h=>by obtain⟨es,cl,hm⟩:=h.isMap;exact Mp.same h ((q6.block g (zAg hm).1))
    refine(zdw l0 l1 l2 ml al bl wc.drew (sw (ae zl)) (sw (ae mB)) (sw (ae yU)) (fun s hs=>Ag (MB (ae HFM) (ae HFA) (ae HFB) (ae HYM) (ae HYA) (ae HYB) hs))).mono ?_;rintro e w' ⟨gR,v,rfl,x1,x2,⟨l,x3⟩,x4⟩;obtain⟨ra,rm,rc,rfl⟩:=x3.shape;have x5:Below wc.heap.size wc w':=hd.trans x4;exact⟨gR,ra,rm,rc,rfl,⟨x1,x2,x5⟩,(x5.cell (p:=⟨b3,o3,none⟩) jlc).trans j0,(x5.cell (p:=⟨b3,o3+1,none⟩) jlc).trans j1,(x5.cell (p:=⟨b3,o3+2,none⟩) jlc).trans j2⟩)
   have HQ3:=af q3;have HQ4:=af q4;have HQ5:=af q5;have HQ7:=af q7;have hBc:Below w.heap.size w wc:=zTs cT q6;have HBc:=af hBc;have zfJ:=af yJ;have HQ6:=af q6;clear q3 q4 q5 q6 q7 hBc HT HJ0 HJ1 HJ2 zl mB yU cT k0 k1 k2;go_upto_region 11 with fail
   go_region_held3 (fun w'=>w'.cell? ⟨b3,o3,none⟩=some (.map (some l0))/\w'.cell? ⟨b3,o3+1,none⟩=some (.map (some l1))/\w'.cell? ⟨b3,o3+2,none⟩=some (.map (some l2))) (first | go_keep | (go_split_ands;refine⟨?_,?_,?_⟩ <;> go_keep))
    ((go_at_call 54;refine(ae HTL).mono ?_;rintro e w5 ⟨gR,ra,rm,rc,rfl,h5,t0,t1,t2⟩))
   obtain⟨y1,y2,y3⟩:=h5;have m5:=(ae HQ3).below y3;have c5:=(y3.cell (p:=⟨bx,0,none⟩) ziw).trans (ae HQ7);have hFp:∀ h v,F h=some v->0<v.2.2.1:=fun h v hv=>by
    rcases ae HQ4 h with ⟨e1,_⟩ | ⟨t,x,c,l,e1,_,_,e4,_⟩
    ·rw [hv] at e1;cases e1
    ·rw [hv] at e1;obtain rfl:=zOi e1;exact List.length_pos_iff.2 e4
   have HDR:=af (YL bx gE 7000 gR 7000 F (za ml al bl) w5 c5 m5 (by omega) hFp y2 (by omega));have hgR:=y2.lt;have ZA:=af m5;have HC5:=af c5;have HY3:=af y3;clear y2 y3 m5 c5 hFp j0 j1 j2 t0 t1 t2 HTL HQ3 HQ7;go_wp2_with fail
   refine(ae HDR).mono ?_;rintro e w6 ⟨rfl,z1,z2⟩;have zbN:Below wc.heap.size w5 w6:=zBr.grown z2 (ae HY3).size (fun j hj=>by cases hj;exact y1);have hc6:Below wc.heap.size wc w6:=(ae HY3).trans zbN;have c6:w6.cell? ⟨bx,0,none⟩=some (.map (some gE)):=(zbN.cell (p:=⟨bx,0,none⟩) ziw).trans (ae HC5);have m6:=(ae ZA).zfr zbN zlj;have eQ:∀ k,(F k).isSome=true->k∈fL:=fun k hk=>by have:=((ae HQ4).zI k).1 hk;refine Classical.byContradiction fun hn=>this (V3 (fun h=>hn (kH.2 h)))
   have XE:∀ s,(gY (za ml al bl) (fun _ h=>!(F h).isSome) s).isSome=true->s∈xR ml al bl:=fun s hs=>by
    unfold gY at hs;cases hq:za ml al bl s with
    | none=>rw [hq] at hs;cases hs
    | some h=>exact zeg (by rw [hq];rfl)
   obtain⟨lp,le⟩:=WE (ae HFM) (ae HFA) (ae HFB) (ae HYM) (ae HYA) (ae HYB) (ae HQ4) rfl;have hA6:Below (w1.alloc (.cells #[.slice ma ml.length mc,.slice aa al.length ac,.slice ba bl.length bc] 30)).heap.size (w1.alloc (.cells #[.slice ma ml.length mc,.slice aa al.length ac,.slice ba bl.length bc] 30)) w6:=(ae zfJ).trans ((zTs HQ6 hc6).mono (ae zfJ).size);have Oz:=af (Sb ml.length gE gR 7000 7000 F (oT ml al bl) _ (xR ml al bl) _ _ w6 tH m6 (ae HQ4) hA6 eQ (zhn (ae HFA) (ae HYA) (ae HFB) (ae HYB)) z1 (Aw _) XE (by have:=Pn (m:=ml) (a:=al) (b:=bl);omega) rfl lp);rw [le] at Oz;have hB6:Below w.heap.size w w6:=zTs HBc hc6;have UB:=af hB6;have HL6:=af ((ae HQ5).below hc6);clear z1 z2 zbN hc6 m6 eQ XE lp le hA6 hB6 HDR ZA HC5 HY3 zfJ HQ4 HQ5 HQ6 HBc;have zlK:Hid ((nT ml al bl).1≠0->(nT ml al bl).2=[]):=af (Wq ml al bl);generalize nT ml al bl=SS at *;obtain⟨SE,SL⟩:=SS;dsimp only at *;go_wp2_with fail
   refine(ae Oz).mono ?_;rintro e w7 ⟨a7,c7,rfl,XZ,Yg⟩;have HB7:=af XZ;have zjI:=zTr UB Yg;have BB:=af ((ae HL6).below Yg);clear XZ Yg Oz HL6;by_cases hSE:SE=0
   ·subst hSE;have xy:Hid (TK=fL.filter (E0 ml al bl)):=af (by rw [ae HKq,ae HEq,if_pos rfl]);rw [aA];go_wp2;go_ret3;rw [ae xy,ae HEq,ae HLq];exact⟨a7,c7,_,rfl,ae HB7,ae BB,ae zjI⟩
   ·rw [aC _ hSE];have HSL:=af (ae zlK hSE);have xy:Hid (TK=[]):=af (by rw [ae HKq,ae HEq,if_neg hSE]);go_wp2;go_ret3;rw [ae xy,ae HEq,ae HLq,ae HSL,aC _ hSE];exact⟨none,0,_,rfl,eC _,bT.nil _ _,ae zjI⟩
 ·rw [if_neg hC] at HEq HLq;have xy:Hid (TK=[]):=af (by rw [ae HKq,ae HEq,if_neg hC]);rw [aC _ hC] at CC;clear HFI HEO HES HBI;unfold mi at *;go_enter Tryz.func15,Tryz.ntmps15
  go_wp2_with fail
  refine(ae CC).mono ?_;rintro e w1 ⟨rfl,ay⟩;have aL:=zTr iw ay;clear ay CC iw;go_wp2;go_ret3;rw [ae xy,ae HEq,ae HLq,aC _ hC];exact⟨none,0,_,rfl,eC _,bT.nil _ _,ae aL⟩
end
theorem Kr{L:List Int}(h:aB L):il L=0:=by unfold il;rw [if_neg (by rw [h.cW];simp),if_pos];unfold yP;rw [if_pos h.cW];exact h.ok
theorem Ks{n:Nat}{l:List IM}(h:∀ x∈l,aB x.2.2/\x.2.2.length=n):lu n l=0:=by
 unfold lu;rw [if_neg]
 ·exact Qj (fun M hM=>by obtain⟨x,hx,rfl⟩:=List.mem_map.1 hM;exact Kr (h x hx).1)
 ·intro hc;unfold Be at hc;obtain⟨x,hx,h2⟩:=List.any_eq_true.1 hc;exact of_decide_eq_true h2 (h x hx).2
theorem QU{m a b:IM}(h:∀ x∈[m,a,b],aB x.2.2/\x.2.2.length=m.2.2.length):thE m a b=(nT m.2.2 a.2.2 b.2.2).1/\thL m a b=(nT m.2.2 a.2.2 b.2.2).2:=by unfold thE thL;rw [Ks h,if_pos rfl,if_pos rfl];exact⟨rfl,rfl⟩
theorem zv{m a b c:List Int}(hm:aB m)(ha:aB a)(hb:aB b)(bm:bj m)(ba:bj a)(bb:bj b)(hc:aB c)(hlen:c.length=m.length)(hO:∀ h:Int,1<=h->h<=40->tU m a b h=aD c h)(hH:∀ s,y9 m a b s=aU (ak c 8) s) :
  (nT m a b).1=0/\(nT m a b).2.length=m.length/\mQ (nT m a b).2 c=true/\nP (nT m a b).2 c=0:=by
 obtain⟨h1,h2,h3,h4,h5⟩:=Jb hm ha hb bm ba bb hc hlen hO hH;have e:=sZ h2 hc;refine⟨h1,h3,?_,e⟩;unfold mQ;rw [e,h4,h5];rfl
theorem Lx{m a:List Int}(hm:aB m)(ha:aB a)(bm:bj m)(ba:bj a)(hlen:a.length=m.length):(nT m a m).1=0/\(nT m a m).2.length=m.length/\mQ (nT m a m).2 a=true/\nP (nT m a m).2 a=0/\fL.filter (E0 m a m)=[]:=by obtain⟨h1,h2,h3,h4⟩:=zv hm ha hm bm ba bm ha hlen (fun h _ _=>(zw h).1) (fun s=>Jc s);exact⟨h1,h2,h3,h4,List.filter_eq_nil_iff.2 (fun k _=>by rw [(zw k).2];simp)⟩
end Go.Proofs.YtcimhnnendlblaaGreat
