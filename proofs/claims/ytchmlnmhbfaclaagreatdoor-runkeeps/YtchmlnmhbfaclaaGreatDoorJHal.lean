/-
  Parts of the proofs, joined by program.
-/
import Derived.Test.YtchmlnmhbfaclaaGreatDoorJChp
import Derived.Test.YtchmlnmhbfaclaaGreatDoorJExf
namespace Go.Proofs.YtchmlnmhbfaclaaGreatDoor
open Go.RowKit
set_option linter.unusedVariables false
def alE(L:List Int)(n t:Int):Int:=if n<1\/1000<n\/t<0\/15<t then 1 else if QH L=40 then 4 else zc7 ((L.length:Int)-288) (zn L) n
def alH(L:List Int)(n t:Int):Int:=if alE L n t=0 then (QH L:Int)+1 else 0
def alB(L:List Int)(n t:Int):List Int:=if alE L n t=0 then alL L ((QH L:Int)+1) (288+zau ((L.length:Int)-288) (zn L) n).toNat n.toNat t else L
theorem zbm{L:List Int}(hf:Fine L):chk ((L.length:Int)-288) (zn L)=0:=by
 have:=hf.len
 exact zaa.2 ⟨by omega,by omega,Nat.le_trans (zaY L) (by decide),QC hf⟩
theorem zhC{L:List Int}(hf:Fine L):Srt (zn L) (srtL (zn L)):=(QC hf).srtL
theorem zf6{L:List Int}(hf:Fine L){n:Int}(h1:1<=n)(h2:n<=6400):zc7 ((L.length:Int)-288) (zn L) n=if (zaR n (qo ((L.length:Int)-288) (srtL (zn L)))).2=0 then 4 else 0:=by
 unfold zc7 zy
 rw [if_neg (fun h=>h (zbm hf)),if_neg (by omega),if_pos (zbm hf)]
theorem zhi{L:List Int}(hf:Fine L){n:Int}(h1:1<=n)(h2:n<=6400)(h0:zc7 ((L.length:Int)-288) (zn L) n=0):zau ((L.length:Int)-288) (zn L) n=(zaR n (qo ((L.length:Int)-288) (srtL (zn L)))).1:=by
 unfold zau
 rw [if_pos h0]
 unfold zy
 rw [if_pos (zbm hf)]
structure AlOk (L:List Int) (n t:Int) (x N:Nat):Prop where
 eqn:n=N
 n1:1<=N
 n2:N<=1000
 t1:0<=t
 t2:t<=15
 low:QH L<40
 free:zg L ((QH L:Int)+1)=0
 fit:zc7 ((L.length:Int)-288) (zn L) n=0
 eqx:288+zau ((L.length:Int)-288) (zn L) n=x
 x1:288<=x
 x2:x+N<=L.length
 no:∀ k,1<=k->k<=40->zg L k≠0->(ze L k).2.1+(ze L k).2.2.1<=x\/(x:Int)+N<=(ze L k).2.1
theorem zep{L:List Int}(hf:Fine L){n t:Int}(h0:alE L n t=0):∃ x N,AlOk L n t x N:=by
 unfold alE at h0
 by_cases h1:n<1\/1000<n\/t<0\/15<t
 ·rw [if_pos h1] at h0;exact absurd h0 (by decide)
 ·rw [if_neg h1] at h0
  by_cases h2:QH L=40
  ·rw [if_pos h2] at h0;exact absurd h0 (by decide)
  ·rw [if_neg h2] at h0
   have h3:=zh8 L
   obtain⟨N,rfl⟩:=Int.eq_ofNat_of_zero_le (show 0<=n by omega)
   have hfit:(zaR (N:Int) (qo ((L.length:Int)-288) (srtL (zn L)))).2≠0:=fun hz=>by
    rw [zf6 hf (by omega) (by omega),if_pos hz] at h0
    exact absurd h0 (by decide)
   obtain⟨x,hx,hx1,hx2,hno⟩:=ztu hf (zhC hf) (n:=N) (by omega) hfit
   exact⟨x,N,rfl,by omega,by omega,by omega,by omega,by omega,of_decide_eq_true ((qP L).2.2 (by omega)),h0,by rw [zhi hf (by omega) (by omega) h0,hx],hx1,hx2,hno⟩
section
variable {L:List Int} {n t:Int} {x N:Nat}
theorem AlOk.img(h:AlOk L n t x N)(h0:alE L n t=0):alB L n t=alL L ((QH L:Int)+1) x N t/\alH L n t=(QH L:Int)+1:=by
 unfold alB alH
 rw [if_pos h0,if_pos h0,h.eqx,h.eqn,Int.toNat_natCast,Int.toNat_natCast]
 exact⟨rfl,rfl⟩
theorem AlOk.put(h:AlOk L n t x N)(hf:Fine L):Za L ((QH L:Int)+1,(x:Int),(N:Int),t)=0:=by
 have h1:=h.low
 have h2:=h.n1
 have h3:=h.n2
 have h4:=h.t1
 have h5:=h.t2
 have h6:=h.x1
 have h7:=h.x2
 exact qe.2 ⟨hf.len0,zm.2 ⟨by show 1<=(QH L:Int)+1;omega,by show(QH L:Int)+1<=40;omega⟩,h4,h5,by show 1<=(N:Int);omega,by show(N:Int)<=1000;omega,by show 288<=(x:Int);omega,by show(x:Int)+N<=_;omega⟩
theorem AlOk.keep(h:AlOk L n t x N)(hf:Fine L)(h0:alE L n t=0):Fine (alB L n t)/\(alB L n t).length=L.length/\zP (alB L n t) ((QH L:Int)+1)=(t,zerosB N)/\ze (alB L n t) ((QH L:Int)+1)=((QH L:Int)+1,(x:Int),(N:Int),t)/\zg (alB L n t) ((QH L:Int)+1)≠0 /\
  (∀ k,1<=k->k<=40->k≠(QH L:Int)+1->zP (alB L n t) k=zP L k/\zg (alB L n t) k=zg L k/\ze (alB L n t) k=ze L k):=by
 rw [(h.img h0).1]
 exact zhs hf (by omega) (by have:=h.low;omega) h.free h.n1 h.n2 h.x1 h.x2 h.t1 h.t2 h.no
theorem AlOk.lay(h:AlOk L n t x N)(hf:Fine L)(h0:alE L n t=0):splice (putL L ((QH L:Int)+1,(x:Int),(N:Int),t)) x (zerosB N)=alB L n t:=by
 rw [(h.img h0).1]
 exact(zx7 (h.put hf) h.x1 (by rw [length_zerosB];exact h.x2)).2
end
theorem ziO{L:List Int}(hb:Byt L)(n t:Int):Byt (alB L n t):=by
 unfold alB
 split
 ·unfold alL putL
  split
  ·exact qv (qv hb (byt_zerosB _)) (znO _)
  ·exact fun z hz=>(by cases hz)
 ·exact hb
theorem ziN{L:List Int}(hf:Fine L)(n t:Int):Fine (alB L n t):=by
 by_cases h0:alE L n t=0
 ·obtain⟨x,N,h⟩:=zep hf h0
  exact(h.keep hf h0).1
 ·unfold alB
  rw [if_neg h0]
  exact hf
theorem zl4{L:List Int}(hf:Fine L):∀ e∈zo L 40,0<=e.2.1/\e.2.1<=65535/\0<=e.2.2.1/\e.2.2.1<=65535:=fun e he=>by
 obtain⟨j,h1,h2,rfl⟩:=Ze.1 he
 have:=hf.ent (h:=(j:Int)+1) (by omega) (by omega) h2
 have:=hf.len
 omega
def pcE(L:List Int)(h x n:Int):Int:=if zO L h≠0 then zO L h else if x<0\/n<0\/(ze L h).2.2.1<x+n then 3 else 0
theorem zaC{L:List Int}{h x n:Int}:pcE L h x n=0 ↔ zO L h=0/\0<=x/\0<=n/\x+n<=(ze L h).2.2.1:=by
 unfold pcE
 by_cases h0:zO L h=0
 ·rw [if_neg (fun h=>h h0)]
  by_cases h1:x<0\/n<0\/(ze L h).2.2.1<x+n
  ·rw [if_pos h1]
   exact⟨fun h=>absurd h (by decide),fun h=>by omega⟩
  ·rw [if_neg h1]
   exact⟨fun _=>⟨h0,by omega⟩,fun _=>rfl⟩
 ·rw [if_pos h0]
  exact⟨fun h=>absurd h h0,fun h=>absurd h.1 h0⟩
def rdL(L:List Int)(h x n:Int):List Int:=if pcE L h x n=0 then (L.drop ((ze L h).2.1.toNat+x.toNat)).take n.toNat else []
theorem zx2{L:List Int}(hb:Byt L)(h x n:Int):Byt (rdL L h x n):=by
 unfold rdL
 by_cases h0:pcE L h x n=0
 ·rw [if_pos h0];exact hb.sub _ _
 ·rw [if_neg h0];exact fun z hz=>absurd hz List.not_mem_nil
def wrB(L:List Int)(h x:Int)(l:List Int):List Int:=if pcE L h x l.length=0 then splice L ((ze L h).2.1.toNat+x.toNat) l else L
end Go.Proofs.YtchmlnmhbfaclaaGreatDoor
