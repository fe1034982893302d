/-
  Parts of the proofs, joined by program.
-/
import Derived.Test.YtchmlnmhbfaclaaGreatDoorJTf
import Derived.Test.YtchmlnmhbfaclaaGreatDoorJOr
import Derived.Deep.RegionHeld3
namespace Go.Proofs.YtchmlnmhbfaclaaGreatDoor
open Go.RowKit
set_option linter.unusedVariables false
section
variable {Q:World->Prop} (t x:Nat) (h a n:Int) (nm:ByteArray) (ad:Option Addr) (k cap:Nat) (w:World) (ev v:Value)
end
section
variable {w0 w w':World} {t p q:Nat} {S:Nat->Prop} {D:DS} {s:Int} {m n x g c:Nat} {L M:List Int} {gk ck:Nat} {K:List Int} {cut:Bool}
def StoH(w0 w:World)(t p q:Nat)(S:Nat->Prop)(D:DS)(s:Int)(m x g:Nat)(M:List Int)(gk ck:Nat)(K:List Int)(cut:Bool)(w':World):Prop :=
 ∃ g' c',Sto w0 w' t p q S D s m x g' c' M gk ck K cut/\Turn (foot x g) (foot x g') w w'
theorem Sto.call(h:Sto w0 w t p q S D s m x g c L gk ck K cut){f:Nat}{ar:Array Value}{V:Value}(hM:M.length=L.length)
  (hc:Calls Tryz.prog f ar w fun e w'=>e=.returned V/\∃ g' c',Hp w' w0.heap.size x g' c' M/\Turn (foot x g) (foot x g') w w') :
  Calls Tryz.prog f ar w fun e w'=>e=.returned V/\StoH w0 w t p q S D s m x g M gk ck K cut w' :=
 hc.mono fun e w' ⟨he,g',c',hh,ht⟩=>⟨he,g',c',h.heap hh ht hM,ht⟩
theorem StoH.over{w1:World}(hb:Below w.heap.size w w1)(h:StoH w0 w1 t p q S D s m x g M gk ck K cut w'):StoH w0 w t p q S D s m x g M gk ck K cut w':=by
 obtain⟨g',c',h1,h2⟩:=h
 exact⟨g',c',h1,(Turn.of_below hb).trans h2⟩
set_option maxRecDepth 100000 in
theorem Sto.abort(h:Sto w0 w t p q S D s m x g c L gk ck K cut) :
  Calls Tryz.prog 101 #[.pointer (some ⟨t,0,none⟩)] w fun e w'=>e=.returned (.tuple #[])/\StoH w0 w t p q S D s m x g K gk ck K cut w':=by
 have c2:=h.c2
 have c3:=h.c3
 have hd:Below w.heap.size w w.drew:=qk (Below.refl _ _)
 have h':=h.below hd
 have HR:Hid (Calls Tryz.prog 154 #[.pointer (some ⟨x,0,none⟩),.slice (some ⟨gk,0,none⟩) K.length ck] w.drew fun e w'=>e=.returned .nilIface/\Hid (StoH w0 w t p q S D s m x g K gk ck K cut w')/\w'.cell? ⟨t,2,none⟩=some (.pointer (some ⟨x,0,none⟩))/\w'.cell? ⟨t,3,none⟩=some (.slice (some ⟨gk,0,none⟩) K.length ck)):=zb
  ((h'.call (h.klen.trans h.len.symm) (zcd h'.hp h'.size h'.kbs h'.kf (h.klen.trans h.len.symm))).mono fun e w' hq=>⟨hq.1,zb (StoH.over hd hq.2),(by obtain⟨_,_,hs,_⟩:=hq.2;exact hs.c2),(by obtain⟨_,_,hs,_⟩:=hq.2;exact hs.c3)⟩)
 clear h h' hd
 generalize K.length=N at *
 go_enter Tryz.func101,Tryz.ntmps101
 go_wp2_with fail
 go_region_held3 (fun w'=>w'.cell? ⟨t,2,none⟩=some (.pointer (some ⟨x,0,none⟩))/\w'.cell? ⟨t,3,none⟩=some (.slice (some ⟨gk,0,none⟩) N ck)) (first | go_keep | (go_split_ands;refine⟨?_,?_⟩ <;> go_keep))
  ((go_at_call 154;refine(za HR).mono ?_;rintro e w1 ⟨rfl,HX,c2',c3'⟩))
 go_wp2
 go_end0
 exact⟨rfl,za HX⟩
end
section
variable {w0 w w':World} {t p x m n:Nat} {P:Ps} {F:Nat->Prop}
def TfT(w0 w:World)(t p x m:Nat)(P:Ps)(F:Nat->Prop)(w':World):Prop:=∃ F',Tf w0 w' t p x m P F'/\Turn F F' w w'
theorem Tf.abort(h:Tf w0 w t p x m P F) :
  Calls Tryz.prog 101 #[.pointer (some ⟨t,0,none⟩)] w fun e w'=>e=.returned (.tuple #[])/\TfT w0 w t p x m { P with L:=P.K } F w':=by
 obtain⟨q,S,g,c,gk,ck,hs,rfl⟩:=h
 refine hs.abort.mono ?_
 rintro e w' ⟨rfl,g',c',h1,h2⟩
 exact⟨rfl,_,⟨q,S,g',c',gk,ck,h1,rfl⟩,zgK h2 S q t gk⟩
end
section
variable {w0 w w':World} {t p x m n:Nat} {P:Ps} {F:Nat->Prop} {S:Nat->Prop} {D:DS}
end
end Go.Proofs.YtchmlnmhbfaclaaGreatDoor
