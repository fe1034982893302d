import Derived.Test.YtoiebmeajhpgcaaGreatDoorJMvp
import Derived.Test.YtoiebmeajhpgcaaGreatDoorJWy
import Derived.Test.YtoiebmeajhpgcaaGreatDoorJPgp
set_option maxRecDepth 100000
set_option maxHeartbeats 16000000
set_option linter.all false
namespace Go.Proofs.YtoiebmeajhpgcaaGreatDoor
open Go.RowKit
abbrev q7:=Int×Int×Int×Int×BA×LI
section
variable {L:LI}
theorem y7(hf:aD L) h x l:aD (uL L h x l)/\(uL L h x l).length=L.length:=by grind[uL,mo,lV,aN,aV,yg]
theorem Vg(hb:bZ L) h x{l}(hl:bZ l):bZ (uL L h x l):=by grind[bZ,uL,mo,dB]
theorem zag(hf:aD L){h}(hc:aX L h=0):(cK L h).length=L.length:=by have hh:=aN.1 (aV.1 hc).2.1;have hp:=du hh.1 hh.2;have hl:=hf.len;unfold cK;rw[zy hc,length_splice YS]
theorem Al(hf:aD L) h:aD (sZ L h)/\(sZ L h).length=L.length:=by grind[sZ,nD,WE,zag,qh]
theorem Wq(hb:bZ L) h:bZ (sZ L h):=by grind[bZ,sZ,nD,AF]
theorem U1(hf:aD L) n t:(iq L n t).length=L.length:=by
 by_cases h0:kX L n t=0
 ·obtain⟨x,N,hk⟩:=sI hf h0;exact(hk.keep hf h0).2.1
 grind[iq,kX]
theorem zm(hf:aD L) s x:aD (Dj L s x)/\(Dj L s x).length=L.length:=by
 unfold Dj;by_cases h0:js L s x=0
 ·rw[zy h0];exact⟨(qH hf h0).1,(vn hf h0).len⟩
 grind
theorem Vu(hb:bZ L) s x:bZ (Dj L s x):=by grind[bZ,Dj,js,zjp]
theorem za(hf:aD L) s:aD (Gs L s)/\(Gs L s).length=L.length:=by
 unfold Gs;by_cases h0:pB L s=0
 ·rw[zy h0];exact⟨De hf h0,(DQ hf h0).len⟩
 grind
theorem Vl(hb:bZ L) s:bZ (Gs L s):=by grind[bZ,Gs,pB,zi9]
def mvT(L:LI):LI:=(rW L).getD L
theorem zcE(hf:aD L):aD (mvT L)/\(mvT L).length=L.length:=by
 unfold mvT;cases h:rW L with
 | none=>exact⟨hf,rfl⟩
 | some c =>have:=(oS hf h).1;exact⟨this.bC,this.len⟩
theorem zgI(hb:bZ L):bZ (mvT L):=by
 unfold mvT rW;cases h:mvOn 288 (dC L)with
 | none=>exact hb
 | some x=>exact K6 hb _ _
def swT(L:LI):LI:=yW L (jn L 40)
theorem Kg:∀ (D:LI) {b:LI},bZ b->bZ (yW b D)
 | [],b,hb=>hb
 | h::D,b,hb=>Kg D (AF hb h)
theorem zc(hf:aD L):aD (swT L)/\(swT L).length=L.length:=⟨(qF hf).bC,(qF hf).len⟩
def doB(L:LI)(o:q7):LI :=
 if o.1=1 then iq L o.2.2.2.1 o.2.2.1
 else if o.1=2 then sZ L o.2.1
 else if o.1=3 then uL L o.2.1 o.2.2.1 o.2.2.2.2.2
 else if o.1=4 then Dj L o.2.2.2.2.1 o.2.1
 else if o.1=5 then Gs L o.2.2.2.2.1
 else if o.1=8 then mvT L
 else if o.1=9 then swT L
 else L
theorem Qb(hf:aD L) o:aD (doB L o)/\(doB L o).length=L.length:=by
 unfold doB;split
 ·exact⟨AL hf _ _,U1 hf _ _⟩
 ·split
  ·exact Al hf _
  ·split
   ·exact y7 hf _ _ _
   ·split
    ·exact zm hf _ _
    ·split
     ·exact za hf _
     ·split
      ·exact zcE hf
      ·split
       ·exact zc hf
       ·grind
theorem WH(hb:bZ L) o(ho:bZ o.2.2.2.2.2):bZ (doB L o):=by
 unfold doB;split
 ·exact DE hb _ _
 ·split
  ·exact Wq hb _
  ·split
   ·exact Vg hb _ _ ho
   ·split
    ·exact Vu hb _ _
    ·split
     ·exact Vl hb _
     ·split
      ·exact zgI hb
      ·split
       ·exact Kg _ hb
       ·exact hb
end
section
variable {L:LI} {N n:Nat} {t:Int}
end
structure Ps where
 D:DS
 s:Int
 L:LI
 K:LI
def fm(m:Nat)(p:Ps):Ps×Int :=(⟨(aj p.D p.s m (dQ p.K p.L m)).1,(aj p.D p.s m (dQ p.K p.L m)).2.1,p.L,if (aj p.D p.s m (dQ p.K p.L m)).2.2=0 then p.L else p.K⟩,(aj p.D p.s m (dQ p.K p.L m)).2.2)
def opE(L:LI)(o:q7):Int :=
 if o.1=1 then kX L o.2.2.2.1 o.2.2.1
 else if o.1=2 then nD L o.2.1
 else if o.1=3 then mo L o.2.1 o.2.2.1 o.2.2.2.2.2.length
 else if o.1=4 then js L o.2.2.2.2.1 o.2.1
 else if o.1=5 then pB L o.2.2.2.2.1
 else if o.1=8 then 0
 else if o.1=9 then 0
 else 1
def bB(m:Nat)(p:Ps)(o:q7):Ps×Int :=if o.1=6 then fm m p else if o.1=7 then ({ p with L:=p.K },0)else ({ p with L:=doB p.L o },opE p.L o)
structure Pu (m n:Nat) (p:Ps):Prop where
 nt:∃a nl,Nt p.D m p.s (prt p.K) a nl
 fl:aD p.L
 fk:aD p.K
 bl:bZ p.L
 bk:bZ p.K
 ll:p.L.length=32*m
 lk:p.K.length=32*m
 sn:p.D.secs.length=n
structure Pd (m n:Nat) (p:Ps) (N:LI):Prop where
 ok:p.D.Ok
 down:p.D.down=true
 bX:∀keep aZ c,c<=32->yY (p.D.bX keep aZ c) m p.s (prt p.K)\/yY (p.D.bX keep aZ c) m (p.s+1) (prt N)
 fl:aD p.L
 fk:aD p.K
 fn:aD N
 bl:bZ p.L
 bk:bZ p.K
 bn:bZ N
 ll:p.L.length=32*m
 lk:p.K.length=32*m
 ln:N.length=32*m
 sn:p.D.secs.length=n
section
variable {m n:Nat} {p:Ps} {N:LI}
theorem FI{K L}(hK:K.length=32*m)(hL:L.length=32*m):(cu K L m).length=0 ↔ K=L:=by
 rw[<-mb,<-qY hK hL]
 grind
theorem Pu.step(h:Pu m n p)(hs:p.s<=9999) o(ho:bZ o.2.2.2.2.2) :
  (Pu m n (bB m p o).1/\p.s<=(bB m p o).1.s/\(bB m p o).1.s<=p.s+1/\(o.1=6->(bB m p o).2=if 23<(cu p.K p.L m).length then 4 else 0)/\(o.1=6->(bB m p o).2=0->(bB m p o).1.K=p.L)/\(o.1≠6->(bB m p o).1.K=p.K/\(bB m p o).1.D=p.D/\(bB m p o).1.s=p.s)) \/
  (o.1=6/\(bB m p o).2=9/\Pd m n (bB m p o).1 p.L/\(bB m p o).1.K=p.K/\(bB m p o).1.s=p.s/\(bB m p o).1.L=p.L/\p.K≠p.L):=by
 obtain⟨a,nl,hn⟩:=h.nt;by_cases h6:o.1=6
 ·have e:bB m p o=fm m p:=by unfold bB;rw[zy h6]
  rw[e];rcases mN hn hs h.lk h.ll h.bl with ⟨k1,k2⟩|⟨k1,k2⟩|⟨k1,k2,k3,k4,_,_⟩|⟨k1,k2,k3,k4,k5,k6,_,k8⟩
  ·left;unfold fm;rw[k2];refine⟨⟨⟨a,nl,hn⟩,h.fl,h.fk,h.bl,h.bk,h.ll,h.lk,h.sn⟩,qBA _,zaK,fun _=>by rw[zy k1],fun _ h0=>?_,fun aG=>absurd h6 aG⟩;cases h0
  ·left;unfold fm;rw[k2];have hz:=(FI h.lk h.ll).2 k1;refine⟨⟨⟨a,nl,?_⟩,h.fl,h.fl,h.bl,h.bl,h.ll,h.ll,h.sn⟩,qBA _,zaK,fun _=>by rw[hz];rfl,fun _ _=>rfl,fun aG=>absurd h6 aG⟩;rw[<-k1];exact hn
  ·left;have hlen:(aj p.D p.s m (dQ p.K p.L m)).1.secs.length=n:=by exact(nb p.D p.s m (dQ p.K p.L m)).trans h.sn
   have e1:(aj p.D p.s m (dQ p.K p.L m)).2.1=p.s+1:=by rw[k3]
   have e2:(aj p.D p.s m (dQ p.K p.L m)).2.2=0:=by rw[k3]
   unfold fm;rw[e1,e2];exact⟨⟨k4,h.fl,h.fl,h.bl,h.bl,h.ll,h.ll,hlen⟩,zaK,by show p.s+1<=p.s+1;omega,fun _=>zlZ,fun _ _=>rfl,fun aG=>absurd h6 aG⟩
  ·right;have e1:(aj p.D p.s m (dQ p.K p.L m)).2.1=p.s:=by grind
   have e2:(aj p.D p.s m (dQ p.K p.L m)).2.2=9:=UB;unfold fm;rw[e1,e2];exact⟨h6,rfl,⟨k4,k6,k8,h.fl,h.fk,h.fl,h.bl,h.bk,h.bl,h.ll,h.lk,h.ll,k5.trans h.sn⟩,rfl,rfl,rfl,k1⟩
 ·left;by_cases h7:o.1=7
  ·have e:bB m p o=({ p with L:=p.K },0):=by unfold bB;rw[zn h6,zy h7]
   rw[e];exact⟨⟨h.nt,h.fk,h.fk,h.bk,h.bk,h.lk,h.lk,h.sn⟩,qBA _,zaK,fun h=>absurd h h6,fun h=>absurd h h6,fun _=>⟨rfl,rfl,rfl⟩⟩
  ·have e:bB m p o=({ p with L:=doB p.L o },opE p.L o):=by unfold bB;rw[zn h6,zn h7]
   rw[e];obtain⟨d1,d2⟩:=Qb h.fl o;exact⟨⟨h.nt,d1,h.fk,WH h.bl o ho,h.bk,d2.trans h.ll,h.lk,h.sn⟩,qBA _,zaK,fun h=>absurd h h6,fun h=>absurd h h6,fun _=>⟨rfl,rfl,rfl⟩⟩
end
def og(p:Ps)(q:Int):Ps:={ p with D:=wl p.D q }
section
variable {m n:Nat} {p:Ps} {N:LI} {o:q7}
theorem Pd.step(h:Pd m n p N) o(ho:bZ o.2.2.2.2.2):Pd m n (bB m p o).1 N/\(bB m p o).1.K=p.K/\(bB m p o).1.s=p.s/\(bB m p o).1.D=p.D/\(o.1=6->(bB m p o).2=if 23<(cu p.K p.L m).length then 4 else 9):=by
 by_cases h6:o.1=6
 ·have e:bB m p o=fm m p:=by unfold bB;rw[zy h6]
  have hco:=ql h.down p.s m (dQ p.K p.L m);have C4:=jV (K:=p.K) h.ll;have he:(if cH m (dQ p.K p.L m)≠0 then cH m (dQ p.K p.L m)else 9)=if 23<(cu p.K p.L m).length then 4 else 9:=UB
  rw[he]at hco;rw[e];unfold fm;rw[hco];have aG:¬(if 23<(cu p.K p.L m).length then (4:Int)else 9)=0:=UB;rw[zn aG];exact⟨⟨h.ok,h.down,h.bX,h.fl,h.fk,h.fn,h.bl,h.bk,h.bn,h.ll,h.lk,h.ln,h.sn⟩,rfl,rfl,rfl,fun _=>rfl⟩
 ·by_cases h7:o.1=7
  ·have e:bB m p o=({ p with L:=p.K },0):=by unfold bB;rw[zn h6,zy h7]
   rw[e];exact⟨⟨h.ok,h.down,h.bX,h.fk,h.fk,h.fn,h.bk,h.bk,h.bn,h.lk,h.lk,h.ln,h.sn⟩,rfl,rfl,rfl,fun h=>absurd h h6⟩
  ·have e:bB m p o=({ p with L:=doB p.L o },opE p.L o):=by unfold bB;rw[zn h6,zn h7]
   rw[e];obtain⟨d1,d2⟩:=Qb h.fl o;exact⟨⟨h.ok,h.down,h.bX,d1,h.fk,h.fn,WH h.bl o ho,h.bk,h.bn,d2.trans h.ll,h.lk,h.ln,h.sn⟩,rfl,rfl,rfl,fun h=>absurd h h6⟩
theorem Pu.V4(h:Pu m n p){q}(hq:-9223372036854775808<=q/\q<=9223372036854775807):Pu m n (og p q):=by obtain⟨a,nl,hn⟩:=h.nt;exact⟨⟨a,nl,hn.fail hq⟩,h.fl,h.fk,h.bl,h.bk,h.ll,h.lk,h.sn⟩
end
section
variable {m n:Nat}
end
section
variable {m n:Nat}
