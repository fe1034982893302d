import Derived.Test.YtoiebmeajhpgcaaGreatDoorJIm
import Derived.Laws.AppendOwnNone
set_option maxRecDepth 100000
set_option maxHeartbeats 16000000
set_option linter.all false
namespace Go.Proofs.YtoiebmeajhpgcaaGreatDoor
open Go.RowKit
section
variable {α:Type} {enc:α->List Value} {k T:Nat}
theorem Wu(hk:∀x,(enc x).length=k):∀ (l:List α) (j:Nat) (u:Value),(l.flatMap enc)[j]?=some u->∃i x j',l[i]?=some x/\(enc x)[j']?=some u/\j=i*k+j'
 | [],j,u,h=>Yy
 | e::r,j,u,h=>by
  rw[qCB]at h;by_cases hj:j<k
  ·rw[qAZ (by rw[hk];exact hj)]at h;exact⟨0,e,j,rfl,h,Sg⟩
  ·rw[qAR (by rw[hk];omega),hk]at h;obtain⟨i,x,j',h1,h2,h3⟩:=Wu hk r (j-k) u h;exact⟨i+1,x,j',Y9,h2,by rw[Nat.succ_mul];omega⟩
theorem Z1(h1:∀x,∀u∈enc x,u.oneCell'=true)(l:List α):∀u∈l.flatMap enc,u.oneCell'=true:=by intro u hu;obtain⟨e,_,hu⟩:=List.mem_flatMap.1 hu;exact h1 e u hu
theorem jq{P}{w}{ops}{rest}{o}{a}{Q}(oA:o.guard=none) s x(t:TypeId)(ho:o.op=.call { callee:=.builtin .append,args:=#[s,x],argTypes:=#[t,t]}) B(i0:TypeInfo) z bytes(ht:P.underlying t=some (.slice T))(hi:P.info? T=some i0)(hz:i0.zero=some z)(uh:i0.size=k)(iF:i0.bytes=bytes)(hzs:z.cells.size=k)(bW:0<k)(vQ:bytes<=100) v xs(hs:a.eval s=v)(az:cX enc k T w B v xs) sp cap l(hx:a.eval x=.slice sp l.length cap)(hl:fF enc k w sp cap l)(hk:∀x,(enc x).length=k)(h1:∀x,∀u∈enc x,u.oneCell'=true)(hn:xs.length+l.length<=1000)(hB:B<=w.heap.size)(h:∀v' w',cX enc k T w' B v' (xs++l)->Below B w w'->wpList P ops Q rest (a.put o.dst v') w') :
  wpList P ops Q (o::rest) a w:=by
 obtain⟨h2,my,h3,h4⟩:=hl;have fin:=fun v' w' sX oH=>by refine h v' w' ?_ (zBr.grown oH hB (fun k hk=>az.block k hk));unfold cX;rw[zLa,qBY];exact sX
 have ZK:(xs.length+l.length)*bytes<=140737488355328:=qAF (qCg hn vQ) Si;by_cases h0:l=[]
 ·subst h0;cases sp with
  | none =>have hc:=my rfl;subst hc;refine wpList_append_own_none oA s x t ho B T i0 k ht hi v _ _ hs az hx ?_;exact h v w (by rw[qAh];exact az) zBr
  | some y =>exact qBU w oA s x t ho B T i0 z k bytes ht hi hz uh iF hzs bW v _ _ hs az y 0 cap [] hx Sk (fun j u hj=>by simp at hj) (fun u hu=>by cases hu) (by unfold maxLen;simp at hn;omega) (by simpa using ZK) hB (fun v' w' sX oH _=>fin v' w' sX oH)
 ·obtain⟨b,off,rfl,hc⟩:=h4 h0;refine qBU w oA s x t ho B T i0 z k bytes ht hi hz uh iF hzs bW v _ _ hs az ⟨b,off,none⟩ l.length cap (l.flatMap enc) hx (P0 hk l) (fun j u hj=>?_) (Z1 h1 l) Ts ZK hB (fun v' w' sX oH _=>fin v' w' sX oH);obtain⟨i,x,j',q1,q2,rfl⟩:=Wu hk l j u hj;rw[addr_add,<-qBq];exact hc i x q1 j' u q2
