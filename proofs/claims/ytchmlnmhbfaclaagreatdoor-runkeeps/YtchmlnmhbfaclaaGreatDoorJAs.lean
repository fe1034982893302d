/-
  'append(v, l...)' for rows of any struct. (Part of the proofs over packages check and diff.)
-/
import Derived.Test.YtchmlnmhbfaclaaGreatDoorJIm
import Derived.Laws.AppendOwnNone
namespace Go.Proofs.YtchmlnmhbfaclaaGreatDoor
open Go.RowKit
set_option linter.unusedVariables false
section
variable {α:Type} {enc:α->List Value} {k T:Nat}
theorem zsE(hk:∀ x,(enc x).length=k):∀ (l:List α) (j:Nat) (u:Value),(l.flatMap enc)[j]?=some u->∃ i x j',l[i]?=some x/\(enc x)[j']?=some u/\j=i * k+j'
 | [],j,u,h=>by simp at h
 | e :: r,j,u,h=>by
  rw [List.flatMap_cons] at h
  by_cases hj:j<k
  ·rw [List.getElem?_append_left (by rw [hk];exact hj)] at h
   exact⟨0,e,j,rfl,h,by omega⟩
  ·rw [List.getElem?_append_right (by rw [hk];omega),hk] at h
   obtain⟨i,x,j',h1,h2,h3⟩:=zsE hk r (j-k) u h
   exact⟨i+1,x,j',by simpa using h1,h2,by rw [Nat.succ_mul];omega⟩
theorem zsD(h1:∀ x,∀ u∈enc x,u.oneCell'=true)(l:List α):∀ u∈l.flatMap enc,u.oneCell'=true:=by
 intro u hu
 obtain⟨e,_,hu⟩:=List.mem_flatMap.1 hu
 exact h1 e u hu
theorem Zm{P:Program}{w:World}{ops:Array Oper}{rest:List Oper}{o:Oper}{a:Act}{Q:Exit->Act->World->Prop}(hgd:o.guard=none)(s x:Operand)(t:TypeId)
  (ho:o.op=.call { callee:=.builtin .append,args:=#[s,x],argTypes:=#[t,t]}) (B:Nat) (i0:TypeInfo) (z:Value) (bytes:Nat)
  (ht:P.underlying t=some (.slice T)) (hi:P.info? T=some i0) (hz:i0.zero=some z) (hsize:i0.size=k) (hby:i0.bytes=bytes) (hzs:z.cells.size=k) (hsz:0<k) (hbb:bytes<=100)
  (v:Value) (xs:List α) (hs:a.eval s=v) (hown:Lst enc k T w B v xs) (sp:Option Addr) (cap:Nat) (l:List α) (hx:a.eval x=.slice sp l.length cap) (hl:Sls enc k w sp cap l) (hk:∀ x,(enc x).length=k) (h1:∀ x,∀ u∈enc x,u.oneCell'=true) (hn:xs.length+l.length<=1000) (hB:B<=w.heap.size)
  (h:∀ v' w',Lst enc k T w' B v' (xs++l)->Below B w w'->wpList P ops Q rest (a.put o.dst v') w') :
  wpList P ops Q (o :: rest) a w:=by
 obtain⟨h2,h2',h3,h4⟩:=hl
 have fin:∀ v' w',w'.ownsRow B T k v' (xs.length+l.length) (xs.flatMap enc++l.flatMap enc)->w.grownBy w' v.ownBlock->wpList P ops Q rest (a.put o.dst v') w':=fun v' w' ho' hg'=>by
  refine h v' w' ?_ ((Below.refl _ _).grown hg' hB (fun k hk=>hown.block k hk))
  unfold Lst
  rw [List.length_append,List.flatMap_append]
  exact ho'
 have hbig:(xs.length+l.length) * bytes<=140737488355328:=Nat.le_trans (Nat.mul_le_mul hn hbb) (by decide)
 by_cases h0:l=[]
 ·subst h0
  cases sp with
  | none =>
   have hc:cap=0:=h2' rfl
   subst hc
   refine wpList_append_own_none hgd s x t ho B T i0 k ht hi v _ _ hs hown hx ?_
   exact h v w (by rw [List.append_nil];exact hown) (Below.refl _ _)
  | some y =>
   exact wpList_append_own w hgd s x t ho B T i0 z k bytes ht hi hz hsize hby hzs hsz v _ _ hs hown y 0 cap [] hx (by simp) (fun j u hj=>by simp at hj) (fun u hu=>by cases hu) (by unfold maxLen;simp at hn;omega) (by simpa using hbig) hB (fun v' w' ho' hg' _=>fin v' w' ho' hg')
 ·obtain⟨b,off,rfl,hc⟩:=h4 h0
  refine wpList_append_own w hgd s x t ho B T i0 z k bytes ht hi hz hsize hby hzs hsz v _ _ hs hown ⟨b,off,none⟩ l.length cap (l.flatMap enc) hx (znE hk l) (fun j u hj=>?_) (zsD h1 l) (by unfold maxLen;omega) hbig hB (fun v' w' ho' hg' _=>fin v' w' ho' hg')
  obtain⟨i,x,j',q1,q2,rfl⟩:=zsE hk l j u hj
  rw [addr_add,<- Nat.add_assoc]
  exact hc i x q1 j' u q2
end
end Go.Proofs.YtchmlnmhbfaclaaGreatDoor
