import Derived.Test.YtoiebmeajhpgcaaGreatDoorJChp
set_option maxRecDepth 100000
set_option maxHeartbeats 16000000
set_option linter.all false
namespace Go.Proofs.YtoiebmeajhpgcaaGreatDoor
variable {n:Int}{l s:List (Int×Int)}{L:LI}
def ix(l:List (Int×Int)):List (Int×Int):=l.mergeSort (fun a b=>decide (a.1<=b.1))
theorem Good.sR(hg:Good n l)(hp:s.Perm l)(hs:s.Pairwise (fun a b=>a.1<=b.1)):Ge l s:=by refine⟨hp,?_⟩;have Jm:=hg.perm hp;refine(hs.and Jm.apart).imp_of_mem (fun {a b} ha hb ⟨h1,h2⟩=>?_);have:=np.1 h2;have:=Jm.all a ha;have:=Jm.all b hb;omega
theorem Good.ix(hg:Good n l):Ge l (ix l):=by refine hg.sR (List.mergeSort_perm l _) ?_;have:=List.pairwise_mergeSort (le:=fun a b:(Int×Int)=>decide (a.1<=b.1)) (fun a b c h1 h2=>by simp at *;omega) (fun a b=>Tb) l;exact this.imp (fun h=>TH)
theorem Good.Sh(hg:Good n l)(hp:s.Perm l)(hs:s.Pairwise (fun a b=>a.1<=b.1)):s=YtoiebmeajhpgcaaGreatDoor.ix l :=tq ((hg.sR hp hs).1.trans hg.ix.1.symm) (hg.sR hp hs).2 hg.ix.2
def aO(n:Int)(l:List (Int×Int)):List (Int×Int):=if nY n l=0 then dh n (ix l)else []
def iG(n:Int)(l:List (Int×Int))(size:Int):Int:=if nY n l≠0 then nY n l else if size<1\/6400<size then 1 else if (fN size (aO n l)).2=0 then 4 else 0
def ic(n:Int)(l:List (Int×Int))(size:Int):Int:=if iG n l size=0 then (fN size (aO n l)).1 else 0
theorem zoqq:∀ (f:Int) (s:List (Int×Int)),(runsOf f s).length<=s.length
 | f,[]=>Nat.le_refl _
 | f,e::r=>by
  have:=zoqq (e.1+e.2) r;simp only[runsOf,List.length_append,List.length_cons];by_cases h:f<e.1
  ·rw[if_pos h];simp;omega
  ·rw[if_neg h];simp;omega
theorem ez{n:Int}{l:List (Int×Int)}(hc:nY n l=0):(∀x∈aO n l,0<=x.1/\1<=x.2/\x.1+x.2<=n)/\(aO n l).length<=201:=by
 obtain⟨h0,h1,h2,hg⟩:=eZ.1 hc;unfold aO;rw[if_pos hc];refine⟨fun x hx=>?_,?_⟩
 ·have:=hg.ix.Fw hg h0 x hx;exact⟨this.1,this.2.1,this.2.2.1⟩
 ·refine Nat.le_trans (zoqq _ _) ?_;rw[List.length_append,hg.ix.1.length_eq];simp;omega
section
open Go.RowKit
def kX(L:LI)(n t:Int):Int:=if n<1\/1000<n\/t<0\/15<t then 1 else if eA L=40 then 4 else iG ((L.length:Int)-288) (aA L) n
def uu(L:LI)(n t:Int):Int:=if kX L n t=0 then (eA L:Int)+1 else 0
def iq(L:LI)(n t:Int):LI:=if kX L n t=0 then Ru L ((eA L:Int)+1) (288+ic ((L.length:Int)-288) (aA L) n).toNat n.toNat t else L
theorem jJ(hf:aD L):nY ((L.length:Int)-288) (aA L)=0:=by have:=hf.len;exact eZ.2 ⟨Sg,Sg,qAF (lh L) Si,jc hf⟩
theorem DU(hf:aD L):Ge (aA L) (ix (aA L)):=(jc hf).ix
theorem su(hf:aD L)(h1:1<=n)(h2:n<=6400):iG ((L.length:Int)-288) (aA L) n=if (fN n (dh ((L.length:Int)-288) (ix (aA L)))).2=0 then 4 else 0:=by unfold iG aO;rw[zn (fun h=>h (jJ hf)),zn Sg,zy (jJ hf)]
theorem yM(hf:aD L)(h1:1<=n)(h2:n<=6400)(h0:iG ((L.length:Int)-288) (aA L) n=0):ic ((L.length:Int)-288) (aA L) n=(fN n (dh ((L.length:Int)-288) (ix (aA L)))).1:=by unfold ic;rw[zy h0];unfold aO;rw[zy (jJ hf)]
structure Mn (L:LI) (n t:Int) (x N:Nat):Prop where
 eqn:n=N
 n1:1<=N
 n2:N<=1000
 t1:0<=t
 t2:t<=15
 low:eA L<40
 free:aw L ((eA L:Int)+1)=0
 fit:iG ((L.length:Int)-288) (aA L) n=0
 eqx:288+ic ((L.length:Int)-288) (aA L) n=x
 x1:288<=x
 x2:x+N<=L.length
 no:∀k,1<=k->k<=40->aw L k≠0->(ao L k).2.1+(ao L k).2.2.1<=x\/(x:Int)+N<=(ao L k).2.1
theorem sI(hf:aD L){t:Int}(h0:kX L n t=0):∃x N,Mn L n t x N:=by
 unfold kX at h0;by_cases h1:n<1\/1000<n\/t<0\/15<t
 ·rw[zy h1]at h0;exact Y2
 ·rw[zn h1]at h0;by_cases h2:eA L=40
  ·rw[zy h2]at h0;exact Y2
  ·rw[zn h2]at h0;have h3:=xe L;obtain⟨N,rfl⟩:=qAN (show 0<=n by omega);have fc:(fN (N:Int) (dh ((L.length:Int)-288) (ix (aA L)))).2≠0:=fun hz=>by rw[su hf Sg Sg,zy hz]at h0;exact absurd h0 Si
   obtain⟨x,hx,Ms,mh,ig⟩:=zaE hf (DU hf) (n:=N) Sg fc;exact⟨x,N,rfl,Sg,Sg,Sg,Sg,Sg,qCr ((fY L).2.2 Sg),h0,by rw[yM hf Sg Sg h0,hx],Ms,mh,ig⟩
section
variable {L:LI} {n t:Int} {x N:Nat}
theorem Mn.dY(h:Mn L n t x N)(h0:kX L n t=0):iq L n t=Ru L ((eA L:Int)+1) x N t/\uu L n t=(eA L:Int)+1:=by unfold iq uu;rw[zy h0,zy h0,h.eqx,h.eqn,zTn,zTn];exact⟨rfl,rfl⟩
theorem Mn.put(h:Mn L n t x N)(hf:aD L):dJ L ((eA L:Int)+1,(x:Int),(N:Int),t)=0:=by have h1:=h.low;have h2:=h.n1;have h3:=h.n2;have h4:=h.t1;have h5:=h.t2;have h6:=h.x1;have h7:=h.x2;exact df.2 ⟨hf.gR,aN.2 ⟨by show 1<=(eA L:Int)+1;omega,by show(eA L:Int)+1<=40;omega⟩,h4,h5,by show 1<=(N:Int);omega,by show(N:Int)<=1000;omega,by show 288<=(x:Int);omega,by show(x:Int)+N<=_;omega⟩
theorem Mn.keep(h:Mn L n t x N)(hf:aD L)(h0:kX L n t=0):aD (iq L n t)/\(iq L n t).length=L.length/\bw (iq L n t) ((eA L:Int)+1)=(t,af N)/\ao (iq L n t) ((eA L:Int)+1)=((eA L:Int)+1,(x:Int),(N:Int),t)/\aw (iq L n t) ((eA L:Int)+1)≠0 /\
  (∀k,1<=k->k<=40->k≠(eA L:Int)+1->bw (iq L n t) k=bw L k/\aw (iq L n t) k=aw L k/\ao (iq L n t) k=ao L k):=by
 rw[(h.dY h0).1];exact Ga hf Sg (by have:=h.low;omega) h.free h.n1 h.n2 h.x1 h.x2 h.t1 h.t2 h.no
theorem Mn.lay(h:Mn L n t x N)(hf:aD L)(h0:kX L n t=0):splice (cR L ((eA L:Int)+1,(x:Int),(N:Int),t)) x (af N)=iq L n t:=by rw[(h.dY h0).1];exact(zgr (h.put hf) h.x1 (by rw[ag];exact h.x2)).2
end
theorem DE(hb:bZ L) n t:bZ (iq L n t):=by
 unfold iq;split
 ·unfold Ru cR;split
  ·exact dB (dB hb (cI _)) (Qv _)
  ·exact fun z hz=>Vt
 ·exact hb
theorem AL(hf:aD L) n t:aD (iq L n t):=by
 by_cases h0:kX L n t=0
 ·obtain⟨x,N,h⟩:=sI hf h0;exact(h.keep hf h0).1
 ·unfold iq;rw[zn h0];exact hf
theorem Dz(hf:aD L):∀e∈entsK L 40,0<=e.2.1/\e.2.1<=65535/\0<=e.2.2.1/\e.2.2.1<=65535:=fun e he=>by obtain⟨j,h1,h2,rfl⟩:=kj.1 he;have:=hf.nE (h:=(j:Int)+1) Sg Sg h2;have:=hf.len;omega
def mo(L:LI)(h x n:Int):Int:=if aX L h≠0 then aX L h else if x<0\/n<0\/(ao L h).2.2.1<x+n then 3 else 0
theorem lV{h x:Int}:mo L h x n=0 ↔ aX L h=0/\0<=x/\0<=n/\x+n<=(ao L h).2.2.1:=by
 unfold mo;by_cases h0:aX L h=0
 ·rw[zn (fun h=>h h0)];by_cases h1:x<0\/n<0\/(ao L h).2.2.1<x+n
  ·rw[zy h1];exact⟨fun h=>absurd h Si,fun h=>Sg⟩
  ·rw[zn h1];exact⟨fun _=>⟨h0,Sg⟩,fun _=>rfl⟩
 ·exact zmj
def CT(L:LI)(h x n:Int):LI:=if mo L h x n=0 then (L.drop ((ao L h).2.1.toNat+x.toNat)).take n.toNat else []
theorem zgg(hb:bZ L) h x n:bZ (CT L h x n):=by
 unfold CT;by_cases h0:mo L h x n=0
 ·rw[zy h0];exact hb.sub _ _
 ·rw[zn h0];exact fun z hz=>absurd hz List.not_mem_nil
def uL(L:LI)(h x:Int)(l:LI):LI:=if mo L h x l.length=0 then splice L ((ao L h).2.1.toNat+x.toNat) l else L
