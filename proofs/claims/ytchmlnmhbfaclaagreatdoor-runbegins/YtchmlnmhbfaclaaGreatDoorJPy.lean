/-
  Parts of the proofs, joined by program.
-/
import Derived.Test.YtchmlnmhbfaclaaGreatDoorJMvp
import Derived.Test.YtchmlnmhbfaclaaGreatDoorJWy
import Derived.Test.YtchmlnmhbfaclaaGreatDoorJRtp
import Derived.Test.YtchmlnmhbfaclaaGreatDoorJHal
import Derived.Test.YtchmlnmhbfaclaaGreatDoorJPgp
namespace Go.Proofs.YtchmlnmhbfaclaaGreatDoor
open Go.RowKit
set_option linter.unusedVariables false
abbrev OpP:=Int×Int×Int×Int×ByteArray×List Int
section
variable {L:List Int}
theorem zmq(hf:Fine L)(h x:Int)(l:List Int):Fine (wrB L h x l)/\(wrB L h x l).length=L.length:=by
 unfold wrB
 by_cases h0:pcE L h x l.length=0
 ·rw [if_pos h0]
  obtain⟨c0,x0,_,x2⟩:=zaC.1 h0
  have hh:=zm.1 (zq.1 c0).2.1
  obtain⟨X,rfl⟩:=Int.eq_ofNat_of_zero_le x0
  rw [Int.toNat_natCast]
  obtain⟨q1,q2,_⟩:=zcp hf hh.1 hh.2 (zq.1 c0).2.2 (p:=X) (r:=l) x2
  exact⟨q1,q2⟩
 ·rw [if_neg h0];exact⟨hf,rfl⟩
theorem zxp(hb:Byt L)(h x:Int){l:List Int}(hl:Byt l):Byt (wrB L h x l):=by
 unfold wrB
 by_cases h0:pcE L h x l.length=0
 ·rw [if_pos h0];exact qv hb hl
 ·rw [if_neg h0];exact hb
theorem zsU(hf:Fine L){h:Int}(hc:zO L h=0):(qh L h).length=L.length:=by
 have hh:=zm.1 (zq.1 hc).2.1
 have hp:=qx hh.1 hh.2
 have hl:=hf.len
 unfold qh
 rw [if_pos hc,length_splice (by rw [length_zerosB];omega)]
theorem znB(hf:Fine L)(h:Int):Fine (frB L h)/\(frB L h).length=L.length:=by
 unfold frB
 by_cases h0:frE L h=0
 ·rw [if_pos h0];exact⟨zsS hf h0,zsU hf (zcF.1 h0).1⟩
 ·rw [if_neg h0];exact⟨hf,rfl⟩
theorem zyY(hb:Byt L)(h:Int):Byt (frB L h):=by
 unfold frB
 by_cases h0:frE L h=0
 ·rw [if_pos h0];exact ziE hb h
 ·rw [if_neg h0];exact hb
theorem zxf(hf:Fine L)(n t:Int):(alB L n t).length=L.length:=by
 by_cases h0:alE L n t=0
 ·obtain⟨x,N,hk⟩:=zep hf h0
  exact(hk.keep hf h0).2.1
 ·unfold alB;rw [if_neg h0]
theorem zmM(hf:Fine L)(s:ByteArray)(x:Int):Fine (seF L s x)/\(seF L s x).length=L.length:=by
 unfold seF
 by_cases h0:seE L s x=0
 ·rw [if_pos h0];exact⟨(zbo hf h0).1,(zdr hf h0).len⟩
 ·rw [if_neg h0];exact⟨hf,rfl⟩
theorem zxO(hb:Byt L)(s:ByteArray)(x:Int):Byt (seF L s x):=by
 unfold seF
 by_cases h0:seE L s x=0
 ·rw [if_pos h0];exact zww hb s x
 ·rw [if_neg h0];exact hb
theorem zmx(hf:Fine L)(s:ByteArray):Fine (unF L s)/\(unF L s).length=L.length:=by
 unfold unF
 by_cases h0:unE L s=0
 ·rw [if_pos h0];exact⟨zhz hf h0,(zi4 hf h0).len⟩
 ·rw [if_neg h0];exact⟨hf,rfl⟩
theorem zxs(hb:Byt L)(s:ByteArray):Byt (unF L s):=by
 unfold unF
 by_cases h0:unE L s=0
 ·rw [if_pos h0];exact zz3 hb s
 ·rw [if_neg h0];exact hb
def mvT(L:List Int):List Int:=(mvS L).getD L
theorem zuY(hf:Fine L):Fine (mvT L)/\(mvT L).length=L.length:=by
 unfold mvT
 cases h:mvS L with
 | none=>exact⟨hf,rfl⟩
 | some c =>
  have:=(zbX hf h).1
  exact⟨this.fine,this.len⟩
theorem zyr(hb:Byt L):Byt (mvT L):=by
 unfold mvT mvS
 cases h:zeT 288 (Ql L) with
 | none=>exact hb
 | some x=>exact zry hb _ _
def swT(L:List Int):List Int:=swL L (ddK L 40)
theorem zqd:∀ (D:List Int) {b:List Int},Byt b->Byt (swL b D)
 | [],b,hb=>hb
 | h :: D,b,hb=>zqd D (ziE hb h)
theorem zmE(hf:Fine L):Fine (swT L)/\(swT L).length=L.length:=⟨(zbn hf).fine,(zbn hf).len⟩
def doB(L:List Int)(o:OpP):List Int :=
 if o.1=1 then alB L o.2.2.2.1 o.2.2.1
 else if o.1=2 then frB L o.2.1
 else if o.1=3 then wrB L o.2.1 o.2.2.1 o.2.2.2.2.2
 else if o.1=4 then seF L o.2.2.2.2.1 o.2.1
 else if o.1=5 then unF L o.2.2.2.2.1
 else if o.1=8 then mvT L
 else if o.1=9 then swT L
 else L
theorem znG(hf:Fine L)(o:OpP):Fine (doB L o)/\(doB L o).length=L.length:=by
 unfold doB
 split
 ·exact⟨ziN hf _ _,zxf hf _ _⟩
 ·split
  ·exact znB hf _
  ·split
   ·exact zmq hf _ _ _
   ·split
    ·exact zmM hf _ _
    ·split
     ·exact zmx hf _
     ·split
      ·exact zuY hf
      ·split
       ·exact zmE hf
       ·exact⟨hf,rfl⟩
theorem zsW(hb:Byt L)(o:OpP)(ho:Byt o.2.2.2.2.2):Byt (doB L o):=by
 unfold doB
 split
 ·exact ziO hb _ _
 ·split
  ·exact zyY hb _
  ·split
   ·exact zxp hb _ _ ho
   ·split
    ·exact zxO hb _ _
    ·split
     ·exact zxs hb _
     ·split
      ·exact zyr hb
      ·split
       ·exact zqd _ hb
       ·exact hb
end
section
variable {L:List Int} {N n:Nat} {t:Int}
end
structure Ps where
 D:DS
 s:Int
 L:List Int
 K:List Int
def qR(m:Nat)(p:Ps):Ps×Int :=
 (⟨(zc p.D p.s m (dfP p.K p.L m)).1,(zc p.D p.s m (dfP p.K p.L m)).2.1,p.L,if (zc p.D p.s m (dfP p.K p.L m)).2.2=0 then p.L else p.K⟩,(zc p.D p.s m (dfP p.K p.L m)).2.2)
def opE(L:List Int)(o:OpP):Int :=
 if o.1=1 then alE L o.2.2.2.1 o.2.2.1
 else if o.1=2 then frE L o.2.1
 else if o.1=3 then pcE L o.2.1 o.2.2.1 o.2.2.2.2.2.length
 else if o.1=4 then seE L o.2.2.2.2.1 o.2.1
 else if o.1=5 then unE L o.2.2.2.2.1
 else if o.1=8 then 0
 else if o.1=9 then 0
 else 1
def zY(m:Nat)(p:Ps)(o:OpP):Ps×Int :=
 if o.1=6 then qR m p else if o.1=7 then ({ p with L:=p.K },0) else ({ p with L:=doB p.L o },opE p.L o)
structure Pu (m n:Nat) (p:Ps):Prop where
 nt:∃ a nl,Nt p.D m p.s (prt p.K) a nl
 fl:Fine p.L
 fk:Fine p.K
 bl:Byt p.L
 bk:Byt p.K
 ll:p.L.length=32 * m
 lk:p.K.length=32 * m
 sn:p.D.secs.length=n
structure Pd (m n:Nat) (p:Ps) (N:List Int):Prop where
 ok:p.D.Ok
 down:p.D.down=true
 crash:∀ keep zR c,c<=32->Rdy (p.D.crash keep zR c) m p.s (prt p.K)\/Rdy (p.D.crash keep zR c) m (p.s+1) (prt N)
 fl:Fine p.L
 fk:Fine p.K
 fn:Fine N
 bl:Byt p.L
 bk:Byt p.K
 bn:Byt N
 ll:p.L.length=32 * m
 lk:p.K.length=32 * m
 ln:N.length=32 * m
 sn:p.D.secs.length=n
section
variable {m n:Nat} {p:Ps} {N:List Int}
theorem ziv{K L:List Int}(hK:K.length=32 * m)(hL:L.length=32 * m):(qz K L m).length=0 ↔ K=L:=by
 rw [<- zbF,<- zch hK hL]
 exact⟨List.eq_nil_of_length_eq_zero,fun h=>by rw [h];rfl⟩
theorem Pu.step(h:Pu m n p)(hs:p.s<=9999)(o:OpP)(ho:Byt o.2.2.2.2.2) :
  (Pu m n (zY m p o).1/\p.s<=(zY m p o).1.s/\(zY m p o).1.s<=p.s+1/\(o.1=6->(zY m p o).2=if 23<(qz p.K p.L m).length then 4 else 0)/\(o.1=6->(zY m p o).2=0->(zY m p o).1.K=p.L)/\(o.1≠6->(zY m p o).1.K=p.K/\(zY m p o).1.D=p.D/\(zY m p o).1.s=p.s)) \/
  (o.1=6/\(zY m p o).2=9/\Pd m n (zY m p o).1 p.L/\(zY m p o).1.K=p.K/\(zY m p o).1.s=p.s/\(zY m p o).1.L=p.L/\p.K≠p.L):=by
 obtain⟨a,nl,hn⟩:=h.nt
 by_cases h6:o.1=6
 ·have e:zY m p o=qR m p:=by unfold zY;rw [if_pos h6]
  rw [e]
  rcases zaj hn hs h.lk h.ll h.bl with ⟨k1,k2⟩ | ⟨k1,k2⟩ | ⟨k1,k2,k3,k4,_,_⟩ | ⟨k1,k2,k3,k4,k5,k6,_,k8⟩
  ·left
   unfold qR
   rw [k2]
   refine⟨⟨⟨a,nl,hn⟩,h.fl,h.fk,h.bl,h.bk,h.ll,h.lk,h.sn⟩,Int.le_refl _,by show p.s<=p.s+1;omega,fun _=>by rw [if_pos k1],fun _ h0=>?_,fun hne=>absurd h6 hne⟩
   cases h0
  ·left
   unfold qR
   rw [k2]
   have hz:=(ziv h.lk h.ll).2 k1
   refine⟨⟨⟨a,nl,?_⟩,h.fl,h.fl,h.bl,h.bl,h.ll,h.ll,h.sn⟩,Int.le_refl _,by show p.s<=p.s+1;omega,fun _=>by rw [hz];rfl,fun _ _=>rfl,fun hne=>absurd h6 hne⟩
   show Nt p.D m p.s (prt p.L) a nl
   rw [<- k1];exact hn
  ·left
   have hlen:(zc p.D p.s m (dfP p.K p.L m)).1.secs.length=n:=by
    exact(ZN p.D p.s m (dfP p.K p.L m)).trans h.sn
   have e1:(zc p.D p.s m (dfP p.K p.L m)).2.1=p.s+1:=by rw [k3]
   have e2:(zc p.D p.s m (dfP p.K p.L m)).2.2=0:=by rw [k3]
   unfold qR
   rw [e1,e2]
   exact⟨⟨k4,h.fl,h.fl,h.bl,h.bl,h.ll,h.ll,hlen⟩,by show p.s<=p.s+1;omega,by show p.s+1<=p.s+1;omega,fun _=>by rw [if_neg (by omega)],fun _ _=>rfl,fun hne=>absurd h6 hne⟩
  ·right
   have e1:(zc p.D p.s m (dfP p.K p.L m)).2.1=p.s:=by rw [k3]
   have e2:(zc p.D p.s m (dfP p.K p.L m)).2.2=9:=by rw [k3]
   unfold qR
   rw [e1,e2]
   exact⟨h6,rfl,⟨k4,k6,k8,h.fl,h.fk,h.fl,h.bl,h.bk,h.bl,h.ll,h.lk,h.ll,k5.trans h.sn⟩,rfl,rfl,rfl,k1⟩
 ·left
  by_cases h7:o.1=7
  ·have e:zY m p o=({ p with L:=p.K },0):=by unfold zY;rw [if_neg h6,if_pos h7]
   rw [e]
   exact⟨⟨h.nt,h.fk,h.fk,h.bk,h.bk,h.lk,h.lk,h.sn⟩,Int.le_refl _,by show p.s<=p.s+1;omega,fun h=>absurd h h6,fun h=>absurd h h6,fun _=>⟨rfl,rfl,rfl⟩⟩
  ·have e:zY m p o=({ p with L:=doB p.L o },opE p.L o):=by unfold zY;rw [if_neg h6,if_neg h7]
   rw [e]
   obtain⟨d1,d2⟩:=znG h.fl o
   exact⟨⟨h.nt,d1,h.fk,zsW h.bl o ho,h.bk,d2.trans h.ll,h.lk,h.sn⟩,Int.le_refl _,by show p.s<=p.s+1;omega,fun h=>absurd h h6,fun h=>absurd h h6,fun _=>⟨rfl,rfl,rfl⟩⟩
end
def wlP(p:Ps)(q:Int):Ps:={ p with D:=wl p.D q }
section
variable {m n:Nat} {p:Ps} {N:List Int} {o:OpP}
theorem Pd.step(h:Pd m n p N)(o:OpP)(ho:Byt o.2.2.2.2.2):Pd m n (zY m p o).1 N/\(zY m p o).1.K=p.K/\(zY m p o).1.s=p.s/\(zY m p o).1.D=p.D/\(o.1=6->(zY m p o).2=if 23<(qz p.K p.L m).length then 4 else 9):=by
 by_cases h6:o.1=6
 ·have e:zY m p o=qR m p:=by unfold zY;rw [if_pos h6]
  have hco:=zaS h.down p.s m (dfP p.K p.L m)
  have hce:=QQ (K:=p.K) h.ll
  have he:(if zZ m (dfP p.K p.L m)≠0 then zZ m (dfP p.K p.L m) else 9)=if 23<(qz p.K p.L m).length then 4 else 9:=by
   rw [hce]
   by_cases h23:23<(qz p.K p.L m).length
   ·rw [if_pos h23,if_pos h23];rfl
   ·rw [if_neg h23,if_neg h23];rfl
  rw [he] at hco
  rw [e]
  unfold qR
  rw [hco]
  have hne:¬ (if 23<(qz p.K p.L m).length then (4:Int) else 9)=0:=by split <;> decide
  dsimp only
  rw [if_neg hne]
  exact⟨⟨h.ok,h.down,h.crash,h.fl,h.fk,h.fn,h.bl,h.bk,h.bn,h.ll,h.lk,h.ln,h.sn⟩,rfl,rfl,rfl,fun _=>rfl⟩
 ·by_cases h7:o.1=7
  ·have e:zY m p o=({ p with L:=p.K },0):=by unfold zY;rw [if_neg h6,if_pos h7]
   rw [e]
   exact⟨⟨h.ok,h.down,h.crash,h.fk,h.fk,h.fn,h.bk,h.bk,h.bn,h.lk,h.lk,h.ln,h.sn⟩,rfl,rfl,rfl,fun h=>absurd h h6⟩
  ·have e:zY m p o=({ p with L:=doB p.L o },opE p.L o):=by unfold zY;rw [if_neg h6,if_neg h7]
   rw [e]
   obtain⟨d1,d2⟩:=znG h.fl o
   exact⟨⟨h.ok,h.down,h.crash,d1,h.fk,h.fn,zsW h.bl o ho,h.bk,h.bn,d2.trans h.ll,h.lk,h.ln,h.sn⟩,rfl,rfl,rfl,fun h=>absurd h h6⟩
theorem Pu.ever(h:Pu m n p)(hs:p.s<=9999)(hl:p.D.left<0)(o:OpP)(ho:Byt o.2.2.2.2.2) :
  Pu m n (zY m p o).1/\(zY m p o).1.D.left<0/\p.s<=(zY m p o).1.s/\(zY m p o).1.s<=p.s+1/\(o.1=6->(zY m p o).2=if 23<(qz p.K p.L m).length then 4 else 0)/\(o.1=6->(zY m p o).2=0->(zY m p o).1.K=p.L)/\(o.1≠6->(zY m p o).1.K=p.K/\(zY m p o).1.D=p.D/\(zY m p o).1.s=p.s):=by
 have hleft:(zY m p o).1.D.left<0/\(o.1=6->(zY m p o).2≠9):=by
  by_cases h6:o.1=6
  ·have e:zY m p o=qR m p:=by unfold zY;rw [if_pos h6]
   rw [e]
   obtain⟨a,nl,hn⟩:=h.nt
   have hev:=Ever.commit (s:=p.s) (l:=dfP p.K p.L m) hl hn.down
   rcases zaj hn hs h.lk h.ll h.bl with ⟨k1,k2⟩ | ⟨k1,k2⟩ | ⟨k1,k2,k3,k4,k5,k6⟩ | ⟨_,_,_,_,_,_,k7,_⟩
   ·unfold qR;rw [k2];exact⟨hl,fun _=>by show(4:Int)≠9;decide⟩
   ·unfold qR;rw [k2];exact⟨hl,fun _=>by show(0:Int)≠9;decide⟩
   ·unfold qR;rw [k5];exact⟨hev.2,fun _=>by show(0:Int)≠9;decide⟩
   ·exact absurd k7 hev.1
  ·refine⟨?_,fun h=>absurd h h6⟩
   by_cases h7:o.1=7
   ·have e:zY m p o=({ p with L:=p.K },0):=by unfold zY;rw [if_neg h6,if_pos h7]
    rw [e];exact hl
   ·have e:zY m p o=({ p with L:=doB p.L o },opE p.L o):=by unfold zY;rw [if_neg h6,if_neg h7]
    rw [e];exact hl
 rcases h.step hs o ho with ⟨h1,h2,h3,h4⟩ | ⟨h6,h9,_⟩
 ·exact⟨h1,hleft.1,h2,h3,h4⟩
 ·exact absurd h9 (hleft.2 h6)
theorem Pu.lefts(h:Pu m n p){q:Int}(hq:-9223372036854775808<=q/\q<=9223372036854775807):Pu m n (wlP p q):=by
 obtain⟨a,nl,hn⟩:=h.nt
 exact⟨⟨a,nl,hn.fail hq⟩,h.fl,h.fk,h.bl,h.bk,h.ll,h.lk,h.sn⟩
end
section
variable {m n:Nat}
end
section
variable {m n:Nat}
end
end Go.Proofs.YtchmlnmhbfaclaaGreatDoor
