/-
  What a call leaves alone: of the old blocks only those in a set have turned. (Part of the proofs over packages device and heap.)
-/
import Derived.Test.YtcimhnnendlblaaGreatJNum
set_option maxRecDepth 100000
set_option maxHeartbeats 16000000
set_option linter.all false
namespace Go.Proofs.YtcimhnnendlblaaGreat
open Go.RowKit
structure aE (S S':Nat->Prop) (w w':World):Prop where
 os:w'.os=w.os
 tape:w'.tape=w.tape
 output:w'.output=w.output
 size:w.heap.size<=w'.heap.size
 block:∀ k,k<w.heap.size->¬ S k->w'.heap[k]?=w.heap[k]?
 bA:∀ k,k<w.heap.size->S' k->S k
theorem aE.refl(S:Nat->Prop)(w:World):aE S S w w:=⟨rfl,rfl,rfl,zNr,fun _ _ _=>rfl,fun _ _ h=>h⟩
theorem aE.trans{S S' S'':Nat->Prop}{a b c:World}(h:aE S S' a b)(k:aE S' S'' b c):aE S S'' a c :=
 ⟨k.os.trans h.os,k.tape.trans h.tape,k.output.trans h.output,Nat.le_trans h.size k.size,
  fun i hi hn=>(k.block i (Nat.lt_of_lt_of_le hi h.size) (fun hs=>hn (h.bA i hi hs))).trans (h.block i hi hn),
  fun i hi hs=>h.bA i hi (k.bA i (Nat.lt_of_lt_of_le hi h.size) hs)⟩
theorem aE.below{S S':Nat->Prop}{w w':World}{B:Nat}(h:aE S S' w w')(hS:∀ k,S k->B<=k)(hB:B<=w.heap.size):Below B w w' :=⟨h.os,h.tape,h.output,h.size,fun k hk=>h.block k (Nat.lt_of_lt_of_le hk hB) (fun hs=>by have:=hS k hs;omega)⟩
theorem aE.aW{S:Nat->Prop}{w w':World}(h:Below w.heap.size w w'):aE S S w w' :=⟨h.os,h.tape,h.output,h.size,fun k hk _=>h.block k hk,fun _ _ hs=>hs⟩
theorem aE.setCell{S:Nat->Prop}(w:World){a:Addr}(v:Value)(h:S a.block):aE S S w (w.setCell a v) :=⟨rfl,rfl,rfl,by simp,fun k _ hn=>heap_setCell_other w a k v (fun e=>hn (e ▸ h)),fun _ _ hs=>hs⟩
theorem aE.row{S:Nat->Prop}(w:World){g:Nat}(l:List Int)(h:S g):aE S S w (ei w g l) :=⟨rfl,rfl,rfl,by simp [ei],fun k _ hn=>setRow_other w g k _ (fun e=>hn (e ▸ h)),fun _ _ hs=>hs⟩
theorem aE.drew(S:Nat->Prop)(w:World):aE S S w w.drew:=⟨rfl,rfl,rfl,zNr,fun _ _ _=>rfl,fun _ _ h=>h⟩
theorem aE.alloc(S:Nat->Prop)(w:World)(o:Obj):aE S S w (w.alloc o):=aE.aW (zBr.alloc zNr o)
theorem aE.grown{S:Nat->Prop}{w w':World}{row:Option Nat}(g:w.grownBy w' row)(h:∀ k,row=some k->S k):aE S S w w' :=⟨g.os,g.tape,g.output,g.size,fun k hk hn=>g.block k hk (fun e=>hn (h k e.symm)),fun _ _ hs=>hs⟩
theorem bq{B:Nat}{w W:World}(h:Below B w W):Below B w W.drew:=⟨h.os,h.tape,h.output,h.size,h.block⟩
theorem Bs.dZ{w w':World}{S S':Nat->Prop}{a:Option Addr}{cap:Nat}{l:List Int}(h:Bs w a cap l)(ht:aE S S' w w')(hn:∀ x,a=some x->¬ S x.block):Bs w' a cap l:=by obtain⟨h1,h2,h3,h4,h5⟩:=h;refine⟨h1,h2,h3,h4,fun aO=>?_⟩;obtain⟨b,off,rfl,hc⟩:=h5 aO;refine⟨b,off,rfl,fun i hi=>?_⟩;have h6:=hc i hi;have aM:=block_lt_of_cell h6;rw [<- h6];exact World.cell?_of_block (a:=⟨b,off+i,none⟩) (ht.block b aM (hn _ rfl))
end Go.Proofs.YtcimhnnendlblaaGreat
