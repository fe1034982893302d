import Derived.Test.YtoiebmeajhpgcaaGreatDoorJNum
set_option maxRecDepth 100000
set_option maxHeartbeats 16000000
set_option linter.all false
namespace Go.Proofs.YtoiebmeajhpgcaaGreatDoor
variable {S S':Nat->Prop}{w w':World}{B:Nat}
open Go.RowKit
structure au (S S':Nat->Prop) (w w':World):Prop where
 os:w'.os=w.os
 tape:w'.tape=w.tape
 output:w'.output=w.output
 size:w.heap.size<=w'.heap.size
 block:∀k,k<w.heap.size->¬S k->w'.heap[k]?=w.heap[k]?
 bA:∀k,k<w.heap.size->S' k->S k
theorem au.refl S w:au S S w w:=⟨rfl,rfl,rfl,zNr,fun _ _ _=>rfl,fun _ _ h=>h⟩
theorem au.trans{S'':Nat->Prop}{a b c}(h:au S S' a b)(k:au S' S'' b c):au S S'' a c :=
 ⟨k.os.trans h.os,k.tape.trans h.tape,k.output.trans h.output,qAF h.size k.size,
  fun i hi hn=>(k.block i (qAL hi h.size) (fun hs=>hn (h.bA i hi hs))).trans (h.block i hi hn),
  fun i hi hs=>h.bA i hi (k.bA i (qAL hi h.size) hs)⟩
theorem au.below(h:au S S' w w')(hS:∀k,S k->B<=k)(hB:B<=w.heap.size):Below B w w' :=⟨h.os,h.tape,h.output,h.size,fun k hk=>h.block k (qAL hk hB) (fun hs=>by have:=hS k hs;omega)⟩
theorem au.aI(h:zB w w'):au S S w w' :=⟨h.os,h.tape,h.output,h.size,fun k hk _=>h.block k hk,fun _ _ hs=>hs⟩
theorem au.setCell w{a} v(h:S a.block):au S S w (w.setCell a v) :=⟨rfl,rfl,rfl,Sk,fun k _ hn=>qAV w a k v (fun e=>hn (e▸h)),fun _ _ hs=>hs⟩
theorem au.row w{g} l(h:S g):au S S w (fj w g l) :=⟨rfl,rfl,rfl,by simp[fj],fun k _ hn=>qDM w g k _ (fun e=>hn (e▸h)),fun _ _ hs=>hs⟩
theorem au.drew S w:au S S w w.drew:=⟨rfl,rfl,rfl,zNr,fun _ _ _=>rfl,fun _ _ h=>h⟩
theorem au.alloc S w o:au S S w (w.alloc o):=au.aI (zBr.alloc zNr o)
theorem au.grown{row}(g:w.grownBy w' row)(h:∀k,row=some k->S k):au S S w w' :=⟨g.os,g.tape,g.output,g.size,fun k hk hn=>g.block k hk (fun e=>hn (h k e.symm)),fun _ _ hs=>hs⟩
theorem bF{W:World}(h:Below B w W):Below B w W.drew:=⟨h.os,h.tape,h.output,h.size,h.block⟩
theorem Bs.cQ{a}{cap}{l}(h:Bs w a cap l)(ht:au S S' w w')(hn:∀x,a=some x->¬S x.block):Bs w' a cap l:=by obtain⟨h1,h2,h3,h4,h5⟩:=h;refine⟨h1,h2,h3,h4,fun aG=>?_⟩;obtain⟨b,off,rfl,hc⟩:=h5 aG;refine⟨b,off,rfl,fun i hi=>?_⟩;have h6:=hc i hi;have aB:=qAA h6;rw[<-h6];exact qAJ (a:=⟨b,off+i,none⟩) (ht.block b aB (hn _ rfl))
