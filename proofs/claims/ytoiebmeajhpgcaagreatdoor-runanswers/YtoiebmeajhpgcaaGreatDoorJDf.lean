import Derived.Test.YtoiebmeajhpgcaaGreatDoorJImp
set_option maxRecDepth 100000
set_option maxHeartbeats 16000000
set_option linter.all false
namespace Go.Proofs.YtoiebmeajhpgcaaGreatDoor
variable {a b:LI}{p n:Nat}
open Go.RowKit
def mc(c:(Int×LI×LI)):Int:=c.1+c.2.1.length
def AA(l:List (Int×LI×LI))(i:Nat)(x y:Int):List (Int×LI×LI) :=
 match l.getLast? with
 | some c=>if mc c=i then l.dropLast++[(c.1,c.2.1++[x],c.2.2++[y])]else l++[((i:Int),[x],[y])]
 | none=>[((i:Int),[x],[y])]
def mY(a b:LI):Nat->List (Int×LI×LI)
 | 0=>[]
 | i+1=>if a.getD i 0=b.getD i 0 then mY a b i else AA (mY a b i) i (a.getD i 0) (b.getD i 0)
def fw(a b:LI)(p n:Nat):(Int×LI×LI):=((p:Int),(a.drop p).take n,(b.drop p).take n)
structure Df (a b:LI) (i:Nat) (l:List (Int×LI×LI)):Prop where
 all:∀c∈l,∃p n:Nat,c=fw a b p n/\1<=n/\p+n<=i/\∀k,p<=k->k<p+n->a.getD k 0≠b.getD k 0
 gap:l.Pairwise (fun c d=>mc c<d.1)
 Gz:∀k,k<i->a.getD k 0≠b.getD k 0->∃c∈l,c.1<=k/\(k:Int)<mc c
theorem iD(h:p+n<=a.length):mc (fw a b p n)=((p+n:Nat):Int):=by unfold mc fw;dsimp only;rw[zLt,zLd];omega
theorem lg(h:p+n<a.length):(a.drop p).take n++[a.getD (p+n) 0]=(a.drop p).take (n+1):=by rw[qAv,qBJ];have:a[p+n]?=some (a.getD (p+n) 0):=XZ;rw[this];rfl
theorem yR(hl:a.length=b.length):∀i,i<=a.length->Df a b i (mY a b i):=by
 intro i;induction i with
 | zero=>intro _;exact⟨fun c hc=>(by cases hc),List.Pairwise.nil,fun k hk=>absurd hk (qAX k)⟩
 | succ i ih =>
  intro hi;have h:=ih Sg
  show Df a b (i+1) (if a.getD i 0=b.getD i 0 then mY a b i else AA (mY a b i) i (a.getD i 0) (b.getD i 0))
  generalize mY a b i=l at h;by_cases he:a.getD i 0=b.getD i 0
  ·rw[zy he];refine⟨fun c hc=>?_,h.gap,fun k hk aG=>?_⟩
   ·obtain⟨p,n,h1,h2,h3,h4⟩:=h.all c hc;exact⟨p,n,h1,h2,Sg,h4⟩
   ·by_cases e:k=i
    ·subst e;exact absurd he aG
    ·exact h.Gz k Sg aG
  ·rw[zn he];have iB:(((i:Int),[a.getD i 0],[b.getD i 0]):(Int×LI×LI))=fw a b i 1:=by unfold fw;have e1:=lg (a:=a) (p:=i) (n:=0) Sg;have e2:=lg (a:=b) (p:=i) (n:=0) Sg;rw[List.take_zero,qAg,qAq]at e1 e2;rw[<-e1,<-e2]
   have eX:∀l':List (Int×LI×LI),(∀c∈l',∃p n:Nat,c=fw a b p n/\1<=n/\p+n<=i/\∀k,p<=k->k<p+n->a.getD k 0≠b.getD k 0)->l'.Pairwise (fun c d=>mc c<d.1)->(∀c∈l',mc c<i)->(∀k,k<i->a.getD k 0≠b.getD k 0->∃c∈l',c.1<=k/\(k:Int)<mc c)->Df a b (i+1) (l'++[((i:Int),[a.getD i 0],[b.getD i 0])]):=fun l' g1 g2 g3 g4=>by
    rw[iB];refine⟨fun c hc=>?_,?_,fun k hk aG=>?_⟩
    ·rcases zMa hc with hc|hc
     ·obtain⟨p,n,h1,h2,h3,h4⟩:=g1 c hc;exact⟨p,n,h1,h2,Sg,h4⟩
     ·rw[zMs hc];exact⟨i,1,rfl,Sg,Sg,fun k h1 h2=>by rw[show k=i by omega];exact he⟩
    ·rw[qBR];refine⟨g2,List.pairwise_singleton _ _,fun c hc d hd=>?_⟩;rw[zMs hd];exact g3 c hc
    ·by_cases e:k=i
     ·subst e;refine⟨fw a b k 1,Sk,?_,?_⟩
      ·exact qBA _
      ·rw[iD Sg];omega
     ·obtain⟨c,hc,h5⟩:=g4 k Sg aG;exact⟨c,by simp[hc],h5⟩
   unfold AA;cases vO:l.getLast? with
   | none =>have:l=[]:=List.getLast?_eq_none_iff.1 vO;subst this;exact eX [] (fun c hc=>by cases hc) List.Pairwise.nil (fun c hc=>by cases hc) h.Gz
   | some c =>
    obtain⟨l',rfl⟩:=List.getLast?_eq_some_iff.1 vO;dsimp only;have hc:c∈l'++[c]:=Sk;obtain⟨p,n,rfl,hn,hpn,hdf⟩:=h.all c hc;have zdB:=iD (a:=a) (b:=b) (p:=p) (n:=n) Sg;have zkI:=qBR.1 h.gap;by_cases hei:mc (fw a b p n)=i
    ·rw[zy hei,qCJ];have hpi:p+n=i:=by omega
     have zqq:(((fw a b p n).1,(fw a b p n).2.1++[a.getD i 0],(fw a b p n).2.2++[b.getD i 0]):(Int×LI×LI))=fw a b p (n+1):=by unfold fw;dsimp only;rw[<-hpi,lg Sg,lg Sg]
     rw[zqq];refine⟨fun d hd=>?_,?_,fun k hk aG=>?_⟩
     ·rcases zMa hd with hd|hd
      ·obtain⟨q,m,h1,h2,h3,h4⟩:=h.all d (by simp[hd]);exact⟨q,m,h1,h2,Sg,h4⟩
      ·rw[zMs hd];refine⟨p,n+1,rfl,Sg,Sg,fun k h1 h2=>?_⟩;by_cases e:k=i
       ·subst e;exact he
       ·exact hdf k h1 Sg
     ·rw[qBR];refine⟨zkI.1,List.pairwise_singleton _ _,fun d hd e hee=>?_⟩;rw[zMs hee];exact zkI.2.2 d hd (fw a b p n) (List.mem_singleton.2 rfl)
     ·by_cases e:k=i
      ·subst e;refine⟨fw a b p (n+1),Sk,?_,?_⟩
       ·show(p:Int)<=k;omega
       ·rw[iD Sg];omega
      ·obtain⟨d,hd,h5,h6⟩:=h.Gz k Sg aG;rcases zMa hd with hd|hd
       ·exact⟨d,by simp[hd],h5,h6⟩
       ·rw[zMs hd]at h5 h6;refine⟨fw a b p (n+1),Sk,h5,?_⟩;rw[iD Sg];rw[zdB]at h6;omega
    ·rw[zn hei];refine eX (l'++[fw a b p n]) h.all h.gap (fun d hd=>?_) h.Gz;rcases zMa hd with hd | hd
     ·have h7:=zkI.2.2 d hd _ (List.mem_singleton.2 rfl);have h8:(fw a b p n).1=(p:Int):=rfl;omega
     ·rw[zMs hd];omega
def pgE:List (Int×LI×LI)->Int
 | []=>0
 | c::l=>if c.1<0\/6400<=c.1\/6400-c.1<c.2.2.length then 1 else pgE l
def kZ(l:List (Int×LI×LI))(j:Nat):Bool:=l.any (fun c=>(List.range c.2.2.length).any (fun k=>(c.1.toNat+k) / 32 == j))
theorem A8{l}{j}:kZ l j=true ↔ ∃c∈l,∃k:Nat,k<c.2.2.length/\(c.1.toNat+k) / 32=j:=by
 unfold kZ;rw[qBH];constructor
 ·rintro ⟨c,hc,h⟩;obtain⟨k,hk,h⟩:=qBH.1 h;exact⟨c,hc,k,qAw.1 hk,TH⟩
 ·rintro ⟨c,hc,k,hk,h⟩;exact⟨c,hc,qBH.2 ⟨k,qAw.2 hk,TH⟩⟩
theorem zch:∀ {l:List (Int×LI×LI)},(∀c∈l,0<=c.1/\c.1<6400/\c.1+c.2.2.length<=6400)->pgE l=0
 | [],_=>rfl
 | c::l,h=>by have h1:=h c Sk;unfold pgE;rw[zn Sg];exact zch (fun d hd=>h d (by simp[hd]))
theorem zeo(hl:a.length=b.length)(h64:a.length<=6400):pgE (mY a b a.length)=0/\∀j:Nat,32*j<a.length->(kZ (mY a b a.length) j=true ↔ (a.drop (32*j)).take 32≠(b.drop (32*j)).take 32):=by
 have h:=yR hl a.length zNr;have hlen:∀p n:Nat,p+n<=a.length->(fw a b p n).2.2.length=n:=fun p n hpn=>by
  show((b.drop p).take n).length=n
  exact zcR
 refine⟨zch (fun c hc=>?_),fun j hj=>?_⟩
 ·obtain⟨p,n,rfl,h2,h3,h4⟩:=h.all c hc;rw[hlen p n h3]
  show 0<=(p:Int)/\(p:Int)<6400/\(p:Int)+n<=6400
  omega
 ·rw[A8];constructor
  ·rintro ⟨c,hc,k,hk,he⟩;obtain⟨p,n,rfl,h2,h3,h4⟩:=h.all c hc;rw[hlen p n h3]at hk;have hpt:(fw a b p n).1.toNat=p:=zTn p;rw[hpt]at he;intro e;have aG:=h4 (p+k) Sg Sg;obtain⟨i,hi⟩:∃i,p+k=32*j+i:=⟨p+k-32*j,Sg⟩;have zkF:i<32:=by omega
   have e2:=qBB (fun l=>l.getD i 0) e;simp only[List.getD,qAi,zy zkF,qBJ]at e2;rw[hi]at aG;exact aG e2
  ·intro aG;refine qAM fun ig=>aG ?_
   apply cr
   ·rw[zLt,zLt,zLd,zLd,hl]
   ·intro i hi;rw[zLt,zLd]at hi;have zkF:i<32:=by omega
    have hiN:32*j+i<a.length:=Sg;simp only[List.getD,qAi,zy zkF,qBJ];refine qAM fun hd=>ig ?_
    obtain⟨c,hc,h5,h6⟩:=h.Gz (32*j+i) hiN hd;obtain⟨p,n,rfl,h2,h3,h4⟩:=h.all c hc;have e1:(fw a b p n).1=(p:Int):=rfl;rw[iD h3]at h6;rw[e1]at h5;refine⟨fw a b p n,hc,32*j+i-p,by rw[hlen p n h3];omega,?_⟩;have hpt:(fw a b p n).1.toNat=p:=zTn p;rw[hpt];omega
theorem Aw{i}:∀ {k:Nat},i<=k->(∀j,i<=j->j<k->a.getD j 0=b.getD j 0)->mY a b k=mY a b i
 | 0,h,_=>by rw[Nat.le_zero.1 h]
 | k+1,h,hs=>by
  by_cases e:i=k+1
  ·rw[e]
  ·show(if a.getD k 0=b.getD k 0 then mY a b k else _)=_
   rw[zy (hs k Sg Sg)];exact Aw Sg (fun j h1 h2=>hs j h1 Sg)
theorem WK(hl:a.length=b.length)(hp:p=0\/a.getD (p-1) 0=b.getD (p-1) 0):∀n,1<=n->p+n<=a.length->(∀j,p<=j->j<p+n->a.getD j 0≠b.getD j 0) ->mY a b (p+n)=mY a b p++[fw a b p n]
 | 0,h,_,_=>Sg
 | 1,_,hle,hd=>by
  show(if a.getD p 0=b.getD p 0 then _ else AA (mY a b p) p (a.getD p 0) (b.getD p 0))=_
  rw[zn (hd p zNr Sg)];have h:=yR hl p Sg;have iB:(((p:Int),[a.getD p 0],[b.getD p 0]):(Int×LI×LI))=fw a b p 1:=by unfold fw;have e1:=lg (a:=a) (p:=p) (n:=0) Sg;have e2:=lg (a:=b) (p:=p) (n:=0) Sg;rw[List.take_zero,qAg,qAq]at e1 e2;rw[<-e1,<-e2]
  rw[iB.symm];generalize mY a b p=l at h;unfold AA;cases vO:l.getLast? with
  | none=>rw[List.getLast?_eq_none_iff.1 vO];rfl
  | some c =>
   dsimp only;rw[zn];intro e;have hc:=List.mem_of_getLast? vO;obtain⟨q,m,rfl,hm,hqm,hdf⟩:=h.all c hc;rw[iD Sg]at e;have:=hdf (p-1) Sg Sg;rcases hp with hp|hp
   ·omega
   ·exact this hp
 | n+2,_,hle,hd=>by
  have ih:=WK hl hp (n+1) Sg Sg (fun j h1 h2=>hd j h1 Sg)
  show(if a.getD (p+(n+1)) 0=b.getD (p+(n+1)) 0 then _ else AA (mY a b (p+(n+1))) (p+(n+1)) _ _)=_
  rw[zn (hd _ Sg Sg),ih];unfold AA;rw[List.getLast?_concat];dsimp only;rw[zy (iD Sg),qCJ]
  congr 2
  unfold fw;dsimp only;have e1:=lg (a:=a) (p:=p) (n:=n+1) Sg;have e2:=lg (a:=b) (p:=p) (n:=n+1) Sg
  show((p:Int),(a.drop p).take (n+1)++[a.getD (p+(n+1)) 0],(b.drop p).take (n+1)++[b.getD (p+(n+1)) 0])=_
  rw[e1,e2]
theorem FM(hl:a.length=b.length):∀i,i<=a.length->(mY a b i).length<=i
 | 0,_=>zNr
 | i+1,h=>by
  have ih:=FM hl i Sg
  show(if a.getD i 0=b.getD i 0 then mY a b i else AA (mY a b i) i (a.getD i 0) (b.getD i 0)).length<=_
  by_cases e:a.getD i 0=b.getD i 0
  ·rw[zy e];omega
  ·rw[zn e];generalize mY a b i=l at ih;unfold AA;cases vO:l.getLast? with
   | none=>simp
   | some c =>
    dsimp only;by_cases e2:mc c=i
    ·rw[zy e2,zLa,List.length_dropLast];simp only[zLc,qBS];omega
    ·rw[zn e2,zLa];simp only[zLc,qBS];omega
