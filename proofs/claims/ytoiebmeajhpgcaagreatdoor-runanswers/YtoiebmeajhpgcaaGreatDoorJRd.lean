import Derived.Test.YtoiebmeajhpgcaaGreatDoorJPo
import Derived.Test.YtoiebmeajhpgcaaGreatDoorJRc
import Derived.Test.YtoiebmeajhpgcaaGreatDoorJSf
set_option maxRecDepth 100000
set_option maxHeartbeats 16000000
set_option linter.all false
namespace Go.Proofs.YtoiebmeajhpgcaaGreatDoor
variable {w1:World}
open Tryz
open Go.RowKit
section
variable {w0 w w':World} {t p q:Nat} {S S':Nat->Prop} {D D':DS} {s:Int} {m n x g c:Nat} {L M:LI} {gk ck:Nat} {K:LI} {cut:Bool}
theorem vi(h:fO w0 w t p q S D s m x g c L gk ck K cut):zC 100 #[zq t] w (zr (zi s) fun w'=>w=w'):=by
 have c1:=h.c1;have HP:=ae (Td h.lH.pg);clear h;go_enter func100,ntmps100
 go_wp2_with fail
 refine HP.m ?_;exact zg3
end
section
variable {w0 w w':World} {t p x m n:Nat} {P:Ps} {F:Nat->Prop}
theorem Tf.zmI(h:Tf w0 w t p x m P F):zC 100 #[zq t] w (zr (zi P.s) fun w'=>w=w'):=by obtain⟨q,S,g,c,gk,ck,hs,_⟩:=h;exact vi hs
end
section
variable {w0 w w':World} {t p x m n t2 x2:Nat} {L K:LI} {s:Int}
end
section
open Go.Shelf
def uU(w0 w:World)(g p m:Nat)(P:Ps)(F:Nat->Prop):Prop:=∃t x,w.heap[g]?=some (.cells #[zq p,zq t] 104 (0,0))/\Tf w0 w t p x m P F/\¬F g/\w0.heap.size<=g
def sF(F:Nat->Prop)(g k:Nat):Prop:=F k\/k=g
def wC(w0 w:World)(g p m:Nat)(P:Ps)(F:Nat->Prop)(w':World):Prop:=∃F',uU w0 w' g p m P F'/\au (sF F g) (sF F' g) w w'
section
variable {w0 w w':World} {g p m t x:Nat} {P P':Ps} {F F':Nat->Prop} {b:Addr}
theorem uU.base(h:uU w0 w g p m P F):zB w0 w:=by obtain⟨t,x,_,h2,_⟩:=h;exact h2.base
theorem uU.lt(h:uU w0 w g p m P F):g<w.heap.size:=by obtain⟨t,x,h1,_⟩:=h;exact(zAg h1).1
theorem uU.below(h:uU w0 w g p m P F)(hb:zB w w'):uU w0 w' g p m P F:=by have aB:=h.lt;obtain⟨t,x,h1,h2,h3,h4⟩:=h;exact⟨t,x,by rw[hb.block g aB];exact h1,h2.below hb,h3,h4⟩
theorem wC.below(h:wC w0 w g p m P F w1)(hb:zB w1 w'):wC w0 w g p m P F w':=by obtain⟨F',h1,h2⟩:=h;exact⟨F',h1.below hb,h2.trans (au.aI (S:=sF F' g) hb)⟩
theorem wC.over(hb:zB w w1)(h:wC w0 w1 g p m P F w')(hF:∀k,sF F g k->k<w.heap.size):wC w0 w g p m P F w':=by obtain⟨F',h1,h2⟩:=h;exact⟨F',h1,(au.aI (S:=sF F g) hb).trans h2⟩
theorem uU.bA(h:uU w0 w g p m P F):∀k,sF F g k->k<w.heap.size:=fun k hk=>by
 have aB:=h.lt;obtain⟨t,x,h1,h2,h3,h4⟩:=h;rcases hk with hk|rfl
 ·exact h2.lt k hk
 ·exact aB
theorem zbj(h1:w.heap[g]?=some (.cells #[zq p,zq t] 104 (0,0)))(h3:¬F g)(h4:w0.heap.size<=g)(ht:Tf w0 w' t p x m P' F')(hT:au F F' w w'):wC w0 w g p m P' F w':=by
 have aB:g<w.heap.size:=(zAg h1).1;refine⟨F',⟨t,x,by rw[hT.block g aB h3];exact h1,ht,fun hf=>h3 (hT.bA g aB hf),h4⟩,⟨hT.os,hT.tape,hT.output,hT.size,fun k hk hn=>hT.block k hk (fun hf=>hn (.inl hf)),fun k hk hf=>?_⟩⟩;rcases hf with hf | hf
 ·exact .inl (hT.bA k hk hf)
 ·exact .inr hf
theorem kW(hw:sL w0 b)(hs:uU w0 w g p m P F) A B C D :
  ∃w1 t x,Hid (w.alloc (.cells #[A,B,C,D] 112)=w1)/\zB w w1/\w1.cell? (zp w.heap.size)=some A/\w1.cell? (zw w.heap.size 1)=some B/\w1.cell? (zw w.heap.size 2)=some C/\w1.cell? (zw w.heap.size 3)=some D/\w1.cell? (zp g)=some (zq p)/\w1.cell? (zw g 1)=some (zq t) /\
   Hid (∀q:Nat,zC 87 #[zq t] (w1.drewN q) (zr (zq x) fun w'=>w'=w1.drewN q))/\Hid (∀q:Nat,Tf w0 (w1.drewN q) t p x m P F)/\Hid (∀W:World,zB w1 W->Tf w0 W t p x m P F) /\
   Hid (∀ {P':Ps} (W:World) (F':Nat->Prop),Tf w0 W t p x m P' F'->au F F' w1 W->wC w0 w g p m P' F W)/\Hid (∀W:World,zB w0 W->sL W b):=by
 have eh:zB w (w.alloc (.cells #[A,B,C,D] 112)):=zBr.alloc zNr _;obtain⟨w1,e1⟩:∃x,w.alloc (.cells #[A,B,C,D] 112)=x:=⟨_,rfl⟩;rw[e1]at eh;obtain⟨t,x,h1,h2,h3,h4⟩:=hs.below eh;refine⟨w1,t,x,ae e1,eh,?_,?_,?_,?_,?_,?_,ae (fun q=>(h2.below (below_drewN (Below.refl _ w1) q)).heap.mono fun e w' ⟨he,hw⟩=>⟨he,hw.symm⟩),ae (fun q=>h2.below (below_drewN (Below.refl _ w1) q)),ae (fun W hW=>h2.below hW),ae (fun W F' hT hU=>wC.over eh (zbj h1 h3 h4 hT hU) hs.bA),ae (fun W hW=>hw.below hW)⟩
 ·rw[<-e1];simp
 ·rw[<-e1];simp
 ·rw[<-e1];simp
 ·rw[<-e1];simp
 ·exact Vk
 ·exact Vk
theorem zhO(hw:sL w0 b)(hs:uU w0 w g p m P F) n0 bn on cn bl c nm a(c0:w.cell? ⟨bn,on,none⟩=some (zi n0)) :
  zC 52 #[zq g,.agg #[.string jr,.slice (some ⟨bn,on,none⟩) 1 cn,.string nm,.slice a bl c]] w (zr (.string (nJ (nD P.L n0))) fun w'=>wC w0 w g p m { P with L:=sZ P.L n0 } F w'):=by
 obtain⟨w1,t,x,jF,eh,z0,z1,z2,z3,s0,s1,HH,HX,re,HN,oL⟩:=kW hw hs (.string jr) (.slice (some ⟨bn,on,none⟩) 1 cn) (.string nm) (.slice a bl c);have c1:=aP c0 eh;have HF:=ae (fun(q:Nat)=>(HX q).free n0);have HT:=ae (fun(k:Int) (W:World) (hW:zB w0 W)=>jI k b W ((hw.below hW).bd) ((hw.below hW).et));clear eh hs c0 hw HX re oL;unfold jr at*;go_enter func52,ntmps52
 go_wp2_with fail
 rw[aa jF];clear jF;go_quiet ((go_at_call 87;exact Calls.quiet_of_same (HH _)))
 go_wp2_with fail
 refine(HF _).m ?_;rintro w2 ⟨F',hT,hU⟩;have xj:=HN w2 F' hT ((au.aI (S:=F) (below_drewN (Below.refl _ w1) nq)).trans hU);have oK:=ae (HT (nD P.L n0) w2 hT.base);have pP:=ae xj;clear hT hU xj HF HN HT HH;go_wp2_with fail
 refine oK.m ?_;intro w3 bD;have yd:=ae (pP.below bD);clear bD oK pP;exact zjJ
end
section
variable {w0 w w':World} {g p m t x:Nat} {P P':Ps} {F F':Nat->Prop} {b:Addr}
theorem yN:bc 0=.nilIface:=aC
theorem zeh(hw:sL w0 b)(hs:uU w0 w g p m P F) an nl cn nm a bl c(hz:nm.size<=140737488351232) :
  zC 52 #[zq g,.agg #[.string fT,.slice an nl cn,.string nm,.slice a bl c]] w (zr (.string (nJ (pB P.L nm))) fun w'=>wC w0 w g p m { P with L:=Gs P.L nm } F w'):=by
 obtain⟨w1,t,x,jF,eh,z0,z1,z2,z3,s0,s1,HH,HX,re,HN,oL⟩:=kW hw hs (.string fT) (.slice an nl cn) (.string nm) (.slice a bl c);clear eh hs hw;unfold fT at*;go_enter func52,ntmps52
 go_wp2_with fail
 rw[aa jF];clear jF;go_quiet ((go_at_call 87;exact Calls.quiet_of_same (HH _)))
 clear HH;have HF:=ae ((HX nq).zmA nm hz);go_wp2_with fail
 refine HF.m ?_;rintro w2 ⟨F',hT,hU⟩;have pP:=ae (HN w2 F' hT ((au.aI (S:=F) (below_drewN (Below.refl _ w1) nq)).trans hU));have lJ:=ae (oL w2 hT.base);clear hT hU HF HN oL HX re;have HT:=ae (jI (pB P.L nm) b w2 lJ.bd lJ.et);exact fx
theorem zlk(hw:sL w0 b)(hs:uU w0 w g p m P F) an nl cn nm a bl c(hz:nm.size<=140737488351232)(hg:-9223372036854775808<=BR P.L nm (-1)/\BR P.L nm (-1)<=9223372036854775807) :
  zC 52 #[zq g,.agg #[.string oO,.slice an nl cn,.string nm,.slice a bl c]] w (zr (.string (GV (BR P.L nm (-1)) (xW P.L nm (-1)))) fun w'=>wC w0 w g p m P F w'):=by
 obtain⟨w1,t,x,jF,eh,z0,z1,z2,z3,s0,s1,HH,HX,re,HN,oL⟩:=kW hw hs (.string oO) (.slice an nl cn) (.string nm) (.slice a bl c);clear eh hs hw;unfold oO at*;go_enter func52,ntmps52
 go_wp2_with fail
 rw[aa jF];clear jF;go_quiet ((go_at_call 87;exact Calls.quiet_of_same (HH _)))
 clear HH;have HF:=ae ((HX nq).ask (fun g c hh=>X5 hh nm (-1) hz));go_wp2_with fail
 refine HF.m ?_;rintro w2 ⟨hT,hU⟩;have pP:=ae (HN w2 F hT (au.aI ((below_drewN (Below.refl _ w1) nq).trans hU)));have lJ:=ae (oL w2 hT.base);clear hT hU HF HN oL HX re;have HT:=ae (pZ lJ (BR P.L nm (-1)) (xW P.L nm (-1)) hg.1 hg.2);exact fx
theorem zah(hw:sL w0 b)(hs:uU w0 w g p m P F) an nl cn nm a bl c(h0:0<=P.s)(h1s:P.s<4294967295)(hup:P.D.down=false->(fm m P).2=0->(fm m P).1.D.down=false) :
  zC 52 #[zq g,.agg #[.string dN,.slice an nl cn,.string nm,.slice a bl c]] w (zr (.string (nJ (fm m P).2)) fun w'=>wC w0 w g p m (fm m P).1 F w'):=by
 obtain⟨w1,t,x,jF,eh,z0,z1,z2,z3,s0,s1,HH,HX,re,HN,oL⟩:=kW hw hs (.string dN) (.slice an nl cn) (.string nm) (.slice a bl c);clear eh hs hw;unfold dN at*;go_enter func52,ntmps52
 go_wp2_with fail
 rw[aa jF];clear jF;go_quiet ((go_at_call 87;exact Calls.quiet_of_same (HH _)))
 clear HH;have HF:=ae ((HX nq).yS h0 h1s hup);go_wp2_with fail
 refine HF.m ?_;rintro w2 ⟨F',hT,hU⟩;have pP:=ae (HN w2 F' hT ((au.aI (S:=F) (below_drewN (Below.refl _ w1) nq)).trans hU));have lJ:=ae (oL w2 hT.base);clear hT hU HF HN oL HX re;have HT:=ae (jI ((fm m P).2) b w2 lJ.bd lJ.et);exact fx
theorem zel(hw:sL w0 b)(hs:uU w0 w g p m P F) an nl cn nm a bl c :
  zC 52 #[zq g,.agg #[.string fV,.slice an nl cn,.string nm,.slice a bl c]] w (zr (.string (nJ 0)) fun w'=>wC w0 w g p m { P with L:=P.K } F w'):=by
 obtain⟨w1,t,x,jF,eh,z0,z1,z2,z3,s0,s1,HH,HX,re,HN,oL⟩:=kW hw hs (.string fV) (.slice an nl cn) (.string nm) (.slice a bl c);clear eh hs hw;unfold fV at*;go_enter func52,ntmps52
 go_wp2_with fail
 rw[aa jF];clear jF;go_quiet ((go_at_call 87;exact Calls.quiet_of_same (HH _)))
 clear HH;have HF:=ae ((HX nq).abort);go_wp2_with fail
 refine HF.m ?_;rintro w2 ⟨F',hT,hU⟩;have pP:=ae (HN w2 F' hT ((au.aI (S:=F) (below_drewN (Below.refl _ w1) nq)).trans hU));have lJ:=ae (oL w2 hT.base);clear hT hU HF HN oL HX re;have HT:=ae (jI 0 b w2 lJ.bd lJ.et);exact zc0
theorem zej(hw:sL w0 b)(hs:uU w0 w g p m P F) an nl cn nm a bl c(h0:0<=P.s/\P.s<=9223372036854775807) :
  zC 52 #[zq g,.agg #[.string fU,.slice an nl cn,.string nm,.slice a bl c]] w (zr (.string (GV P.s 0)) fun w'=>wC w0 w g p m P F w'):=by
 obtain⟨w1,t,x,jF,eh,z0,z1,z2,z3,s0,s1,HH,HX,re,HN,oL⟩:=kW hw hs (.string fU) (.slice an nl cn) (.string nm) (.slice a bl c);clear eh hs hw;unfold fU at*;go_enter func52,ntmps52
 go_wp2_with fail
 rw[aa jF];clear jF;go_quiet ((go_at_call 87;exact Calls.quiet_of_same (HH _)))
 clear HH;have HF:=ae ((HX nq).zmI);go_wp2_with fail
 refine HF.m ?_;rintro w2 rfl;have pP:=ae (HN _ F (HX nq) (au.aI (below_drewN (Below.refl _ w1) nq)));have lJ:=ae (oL _ (HX nq).base);clear HF HN oL HX re;have HT:=ae (pZ lJ P.s 0 Sg Sg);exact zc0
theorem zhN(hw:sL w0 b)(hs:uU w0 w g p m P F) an nl cn nm a bl c(hv:tD 288 (dC P.L)<=1000000) :
  zC 52 #[zq g,.agg #[.string ir,.slice an nl cn,.string nm,.slice a bl c]] w (zr (.string (GV (tD 288 (dC P.L)) 0)) fun w'=>wC w0 w g p m { P with L:=sU P.L } F w'):=by
 obtain⟨w1,t,x,jF,eh,z0,z1,z2,z3,s0,s1,HH,HX,re,HN,oL⟩:=kW hw hs (.string ir) (.slice an nl cn) (.string nm) (.slice a bl c);clear eh hs hw;unfold ir at*;go_enter func52,ntmps52
 go_wp2_with fail
 rw[aa jF];clear jF;go_quiet ((go_at_call 87;exact Calls.quiet_of_same (HH _)))
 clear HH;have HF:=ae ((HX nq).call (M:=sU P.L) (vC (HX nq).bC.1).1.len (fun g c hh hB=>YN hh hB));go_wp2_with fail
 refine HF.m ?_;rintro w2 ⟨F',hT,hU⟩;have pP:=ae (HN w2 F' hT ((au.aI (S:=F) (below_drewN (Below.refl _ w1) nq)).trans hU));have lJ:=ae (oL w2 hT.base);clear hT hU HF HN oL HX re;have HT:=ae (pZ lJ (tD 288 (dC P.L)) 0 Sg Sg);exact zc0
theorem zei(hw:sL w0 b)(hs:uU w0 w g p m P F) an nl cn nm a bl c(hv:(jn P.L 40).length<=1000000) :
  zC 52 #[zq g,.agg #[.string e6,.slice an nl cn,.string nm,.slice a bl c]] w (zr (.string (GV ((jn P.L 40).length:Int) 0)) fun w'=>wC w0 w g p m { P with L:=swT P.L } F w'):=by
 obtain⟨w1,t,x,jF,eh,z0,z1,z2,z3,s0,s1,HH,HX,re,HN,oL⟩:=kW hw hs (.string e6) (.slice an nl cn) (.string nm) (.slice a bl c);clear eh hs hw;unfold e6 at*;go_enter func52,ntmps52
 go_wp2_with fail
 rw[aa jF];clear jF;go_quiet ((go_at_call 87;exact Calls.quiet_of_same (HH _)))
 clear HH;have HF:=ae ((HX nq).zmG);go_wp2_with fail
 refine HF.m ?_;rintro w2 ⟨F',hT,hU⟩;have pP:=ae (HN w2 F' hT ((au.aI (S:=F) (below_drewN (Below.refl _ w1) nq)).trans hU));have lJ:=ae (oL w2 hT.base);clear hT hU HF HN oL HX re;have HT:=ae (pZ lJ ((jn P.L 40).length:Int) 0 Sg Sg);exact zc0
theorem zhL(hw:sL w0 b)(hs:uU w0 w g p m P F) an nl cn nm a bl c(k0:0<=((aA P.L).length:Int)/\((aA P.L).length:Int)<=1000000)(k1:0<=(aR (aA P.L))/\(aR (aA P.L))<=1000000)(k2:0<=(aR (aO ((P.L.length:Int)-288) (aA P.L)))/\(aR (aO ((P.L.length:Int)-288) (aA P.L)))<=1000000)(k3:0<=(cM 0 (aO ((P.L.length:Int)-288) (aA P.L)))/\(cM 0 (aO ((P.L.length:Int)-288) (aA P.L)))<=1000000)(k4:0<=((aO ((P.L.length:Int)-288) (aA P.L)).length:Int)/\((aO ((P.L.length:Int)-288) (aA P.L)).length:Int)<=1000000) :
  zC 52 #[zq g,.agg #[.string gZ,.slice an nl cn,.string nm,.slice a bl c]] w (zr (.string (nsS ((aA P.L).length:Int) (aR (aA P.L)) (aR (aO ((P.L.length:Int)-288) (aA P.L))) (cM 0 (aO ((P.L.length:Int)-288) (aA P.L))) ((aO ((P.L.length:Int)-288) (aA P.L)).length:Int) 0)) fun w'=>wC w0 w g p m P F w'):=by
 obtain⟨w1,t,x,jF,eh,z0,z1,z2,z3,s0,s1,HH,HX,re,HN,oL⟩:=kW hw hs (.string gZ) (.slice an nl cn) (.string nm) (.slice a bl c);clear eh hs hw;unfold gZ at*;go_enter func52,ntmps52
 go_wp2_with fail
 rw[aa jF];clear jF;go_quiet ((go_at_call 87;exact Calls.quiet_of_same (HH _)))
 clear HH;have HF:=ae ((HX nq).ask (fun g c hh=>Sn hh (Hs.of P.L)));go_wp2_with fail
 refine HF.m ?_;rintro w2 ⟨hT,hU⟩;have pP:=ae (HN w2 F hT (au.aI ((below_drewN (Below.refl _ w1) nq).trans hU)));have lJ:=ae (oL w2 hT.base);clear hT hU HF HN oL HX re;have HT:=ae (Ov lJ ((aA P.L).length:Int) (aR (aA P.L)) (aR (aO ((P.L.length:Int)-288) (aA P.L))) (cM 0 (aO ((P.L.length:Int)-288) (aA P.L))) ((aO ((P.L.length:Int)-288) (aA P.L)).length:Int) 0 k0 k1 k2 k3 k4);exact zc0
