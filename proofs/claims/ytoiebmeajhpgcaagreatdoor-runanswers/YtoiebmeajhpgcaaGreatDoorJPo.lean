import Derived.ChangeSlices
import Derived.SizedLaws
import Derived.Deep.Slices
import Derived.Deep.Strs
import Derived.Test.YtoiebmeajhpgcaaGreatDoorJTf
set_option maxRecDepth 100000
set_option maxHeartbeats 16000000
set_option linter.all false
namespace Go.Proofs.YtoiebmeajhpgcaaGreatDoor
variable {B:Nat}{a:OA}
open Tryz
open Go.RowKit
section
open Go.ChangeShapes
open Go.WideShapes
open Go.Deep
section
variable {H:Type} {enc:TypeId×Value->H} {W:World} {sp:Nat->Bool} {hd:Bool}
end
abbrev MB:=Int×Int×Int×Int×BA×(OA×Nat×LI)
end
def Fr(B:Nat)(a:OA):Prop:=∀x,a=some x->B<=x.block
theorem Fr.nil B:Fr B none:=fun x hx=>TG
theorem Fr.at{g o:Nat}(h:B<=g):Fr B (some (zw g o)):=fun x hx=>by cases hx;exact h
theorem Fr.mono{B':Nat}(h:Fr B' a)(hB:B<=B'):Fr B a:=fun x hx=>qAF hB (h x hx)
theorem Fr.zpO{w}{n c:Nat}{l}(h:cW w B (.slice a n c) l):Fr B a:=fun x hx=>by
 subst hx;rcases h.2 with ⟨e,_⟩|⟨g,cap,cur,e,hB,_⟩
 ·simp at e
 ·simp only[qAS,qAQ]at e;obtain⟨rfl,_⟩:=e;exact hB
def AR(w:World)(L:LI)(x:Value)(e:Ending)(w':World):Prop :=∃a cap,e=zt #[.slice a L.length cap,x]/\Bs w' a cap L/\zB w w'/\Fr w.heap.size a
section
variable {w w':World} {g:Nat} {r:MB}
end
section
variable {Q:World->Prop} (t x:Nat) (h a n:Int) (nm:BA) (ad:OA) (k cap:Nat) (w:World) (ev v:Value)
end
section
variable {w0 w w':World} {t p q:Nat} {S:Nat->Prop} {D:DS} {s:Int} {m n x g c:Nat} {L M:LI} {gk ck:Nat} {K:LI} {cut:Bool}
def Mb(w0 w:World)(t p q:Nat)(S:Nat->Prop)(D:DS)(s:Int)(m x g:Nat)(M:LI)(gk ck:Nat)(K:LI)(cut:Bool)(w':World):Prop :=∃g' c',fO w0 w' t p q S D s m x g' c' M gk ck K cut/\au (bA x g) (bA x g') w w'
theorem fO.call(h:fO w0 w t p q S D s m x g c L gk ck K cut){f}{ar}{V}(hM:M.length=L.length)(hc:zC f ar w (zr V fun w'=>∃g' c',Hp w' w0.heap.size x g' c' M/\au (bA x g) (bA x g') w w')) :
  zC f ar w (zr V fun w'=>Mb w0 w t p q S D s m x g M gk ck K cut w' ):=
 hc.mono fun e w' ⟨he,g',c',hh,ht⟩=>⟨he,g',c',h.heap hh ht hM,ht⟩
theorem Mb.over{w1}(hb:zB w w1)(h:Mb w0 w1 t p q S D s m x g M gk ck K cut w'):Mb w0 w t p q S D s m x g M gk ck K cut w':=by obtain⟨g',c',h1,h2⟩:=h;exact⟨g',c',h1,(au.aI hb).trans h2⟩
theorem fO.abort(h:fO w0 w t p q S D s m x g c L gk ck K cut) :
  zC 99 #[zq t] w (zr (.tuple #[]) fun w'=>Mb w0 w t p q S D s m x g K gk ck K cut w'):=by
 have c2:=h.c2;have c3:=h.c3;have hd:zB w w.drew:=bF zBr;have h':=h.below hd;have HR:Hid (zC 152 #[zq x,.slice (zo gk) K.length ck] w.drew (zr .nilIface fun w'=>Hid (Mb w0 w t p q S D s m x g K gk ck K cut w')/\w'.cell? (zw t 2)=some (zq x)/\w'.cell? (zw t 3)=some (.slice (zo gk) K.length ck))):=ae
  ((h'.call (h.uA.trans h.len.symm) (tR h'.hp h'.size h'.kbs h'.kf (h.uA.trans h.len.symm))).mono fun e w' hq=>⟨hq.1,ae (Mb.over hd hq.2),(by obtain⟨_,_,hs,_⟩:=hq.2;exact hs.c2),(by obtain⟨_,_,hs,_⟩:=hq.2;exact hs.c3)⟩)
 generalize K.length=N at*;go_enter func99,ntmps99
 go_wp2_with fail
 go_region_held3 (fun w'=>w'.cell? (zw t 2)=some (zq x)/\w'.cell? (zw t 3)=some (.slice (zo gk) N ck)) (first | go_keep | (go_split_ands;refine⟨?_,?_⟩ <;> go_keep))
  ((go_at_call 152;refine HR.m ?_;rintro w1 ⟨HX,c2',c3'⟩))
 go_wp2
 go_end0
 exact⟨rfl,HX⟩
end
section
variable {w0 w w':World} {t p x m n:Nat} {P:Ps} {F:Nat->Prop}
def TfT(w0 w:World)(t p x m:Nat)(P:Ps)(F:Nat->Prop)(w':World):Prop:=∃F',Tf w0 w' t p x m P F'/\au F F' w w'
theorem Tf.abort(h:Tf w0 w t p x m P F) :
  zC 99 #[zq t] w (zr (.tuple #[]) fun w'=>TfT w0 w t p x m { P with L:=P.K } F w'):=by
 obtain⟨q,S,g,c,gk,ck,hs,rfl⟩:=h;refine hs.abort.mono ?_;rintro e w' ⟨rfl,g',c',h1,h2⟩;exact⟨rfl,_,⟨q,S,g',c',gk,ck,h1,rfl⟩,DT h2 S q t gk⟩
end
section
variable {w0 w w':World} {t p x m n:Nat} {P:Ps} {F:Nat->Prop} {S:Nat->Prop} {D:DS}
