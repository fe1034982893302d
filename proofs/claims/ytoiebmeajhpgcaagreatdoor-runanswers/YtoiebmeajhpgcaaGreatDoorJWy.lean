import Derived.Test.YtoiebmeajhpgcaaGreatDoorJIm
import Derived.Test.YtoiebmeajhpgcaaGreatDoorJRtp
set_option maxRecDepth 100000
set_option maxHeartbeats 16000000
set_option linter.all false
namespace Go.Proofs.YtoiebmeajhpgcaaGreatDoor
variable {b l a roots q p c L D:LI}{i k:Nat}{x y h:Int}{refs V:Int->LI}{W P:List (LI)}{s:List (LI)×Bool}
open Tryz
section
open Go.RowKit
def jx(z:Int):List Value:=[zi z]
theorem jw z:(jx z).length=1:=rfl
theorem lZ z:∀u∈jx z,u.oneCell'=true:=by intro u hu;rw[zMs hu];rfl
theorem jR:(prog.info? 3).map (fun i=>(i.zero,i.size,i.bytes))=some (some (zi 0),1,8):=SQ
theorem fF.num{w:World}{b off cap:Nat}{l:LI}(hc:∀i x,l[i]?=some x->∀j u,(jx x)[j]?=some u->w.cell? ⟨b,off+i*1+j,none⟩=some u){i:Nat}{e:Int}(h:l[i]?=some e):w.cell? ⟨b,off+i,none⟩=some (zi e):=by have:=hc i e h 0 _ rfl;rw[qCN,qAq]at this;exact this
end
def rk(a:LI):Nat:=a.foldl (fun n x=>n*41+x.toNat) 0
def Dg(a:LI):Prop:=∀x∈a,1<=x/\x<=40
theorem zgc a:∀n:Nat,a.foldl (fun n x=>n*41+x.toNat) n=n*41 ^ a.length+rk a:=by
 unfold rk;induction a with
 | nil=>intro n;simp
 | cons x r ih =>intro n;simp only[qBk,zLc];rw[ih (n*41+x.toNat),ih (0*41+x.toNat),Nat.pow_succ,Nat.add_mul,Nat.zero_mul,qAl];rw[show n*41*41 ^ r.length=n*(41 ^ r.length*41) by rw[Nat.mul_assoc,qDJ 41]];omega
theorem wQ x a:rk (x::a)=x.toNat*41 ^ a.length+rk a:=by grind[rk,zgc]
theorem qN a x:rk (a++[x])=rk a*41+x.toNat:=by simp[rk]
theorem Dg.tail(h:Dg (x::a)):Dg a:=by grind[Dg]
theorem Dg.snoc(h:Dg a)(h1:1<=x)(h2:x<=40):Dg (a++[x]):=by grind[Dg]
theorem IE(h:Dg a):rk a<41 ^ a.length:=by
 induction a with
 | nil=>simp[rk]
 | cons x r ih =>have h1:=h x Sk;have h2:=ih h.tail;rw[wQ,zLc,Nat.pow_succ];have h3:x.toNat*41 ^ r.length<=40*41 ^ r.length:=qCp _ Sg;omega
theorem zij(h:Dg a)(hn:a≠[]):41 ^ (a.length-1)<=rk a:=by
 cases a with
 | nil=>exact absurd rfl hn
 | cons x r =>have h1:=h x Sk;rw[wQ,zLc,Nat.add_sub_cancel];have h3:1*41 ^ r.length<=x.toNat*41 ^ r.length:=qCp _ Sg;omega
theorem pX(ha:Dg a)(hb:Dg b)(h:a.length<b.length):rk a<rk b:=by have h1:=IE ha;have h2:=zij hb (by intro e;rw[e]at h;simp at h);have h3:41 ^ a.length<=41 ^ (b.length-1):=qDG Si Sg;omega
theorem zjB:∀ {a b:LI},Dg a->Dg b->rk a=rk b->a=b:=by
 intro a;induction a with
 | nil =>
  intro b _ hb h;cases b with
  | nil=>rfl
  | cons y s =>have:=pX (a:=[]) (b:=y::s) (fun x hx=>TG) hb Sk;omega
 | cons x r ih =>
  intro b ha hb h;cases b with
  | nil =>have:=pX (a:=[]) (b:=x::r) (fun x hx=>TG) ha Sk;omega
  | cons y s =>
   have hl:r.length=s.length:=by
    rcases qCq r.length s.length with hl|hl|hl
    ·have:=pX ha hb (by simpa using hl);omega
    ·exact hl
    ·have:=pX hb ha (by simpa using hl);omega
   rw[wQ,wQ,hl]at h;have h1:=IE ha.tail;have h2:=IE hb.tail;rw[hl]at h1;have hy:=hb y Sk;have Gv:x.toNat=y.toNat:=by
    rcases qCq x.toNat y.toNat with hq|hq|hq
    ·have h3:(x.toNat+1)*41 ^ s.length<=y.toNat*41 ^ s.length:=qCp _ Sg;exact zfB
    ·exact hq
    ·have h3:(y.toNat+1)*41 ^ s.length<=x.toNat*41 ^ s.length:=qCp _ Sg;exact zfB
   rw[Gv]at h;have hrs:rk r=rk s:=Sg;rw[show x=y by omega,ih ha.tail hb.tail hrs]
def lexL:LI->LI->Bool
 | x::a,y::b=>if x=y then lexL a b else decide (x<y)
 | _,_=>false
def Ca(a b:LI):Bool:=if a.length=b.length then lexL a b else decide (a.length<b.length)
theorem zgW(hx:a[k]?=some x)(hy:b[k]?=some y):lexL (a.drop k) (b.drop k)=if x=y then lexL (a.drop (k+1)) (b.drop (k+1))else decide (x<y):=by obtain⟨h1,rfl⟩:=zLs hx;obtain⟨h2,rfl⟩:=zLs hy;rw[qBf h1,qBf h2];rfl
theorem V2:∀ {a b:LI},Dg a->Dg b->a.length=b.length->lexL a b=decide (rk a<rk b)
 | [],[],_,_,_=>by simp[lexL]
 | [],y::b,_,_,h=>Yy
 | x::a,[],_,_,h=>Yy
 | x::a,y::b,ha,hb,h=>by
  have hl:a.length=b.length:=TH;have h1:=IE ha.tail;have h2:=IE hb.tail;have hx:=ha x Sk;have hy:=hb y Sk;unfold lexL;rw[wQ,wQ,hl];rw[hl]at h1;by_cases e:x=y
  ·subst e;rw[zy rfl,V2 ha.tail hb.tail hl,decide_eq_decide];omega
  ·rw[zn e,decide_eq_decide];constructor
   ·intro aB;have h3:(x.toNat+1)*41 ^ b.length<=y.toNat*41 ^ b.length:=qCp _ Sg;exact zfB
   ·intro aB;refine qAM fun hc=>?_
    have h3:(y.toNat+1)*41 ^ b.length<=x.toNat*41 ^ b.length:=qCp _ Sg;exact zfB
theorem zaZ(ha:Dg a)(hb:Dg b):Ca a b=decide (rk a<rk b):=by
 unfold Ca;by_cases h:a.length=b.length
 ·rw[zy h,V2 ha hb h]
 ·rw[zn h,decide_eq_decide];constructor
  ·exact pX ha hb
  ·intro aB;refine qAM fun hc=>?_
   have:=pX hb ha Sg;omega
def Way(roots:LI)(refs:Int->LI)(p:LI)(h:Int):Prop :=∀Q:LI->Int->Prop,(∀r,r∈roots->Q [r] r)->(∀q g x,Q q g->x∈refs g->Q (q++[x]) x)->Q p h
theorem Way.root{r}(h:r∈roots):Way roots refs [r] r:=fun Q h1 h2=>h1 r h
theorem Way.step{g:Int}(w:Way roots refs q g)(h:x∈refs g):Way roots refs (q++[x]) x:=fun Q h1 h2=>h2 q g x (w Q h1 h2) h
theorem Way.ind(P:LI->Int->Prop)(hr:∀r,r∈roots->P [r] r)(hs:∀q g x,Way roots refs q g->x∈refs g->P q g->P (q++[x]) x)(w:Way roots refs p h):P p h :=(w (fun p h=>Way roots refs p h/\P p h) (fun r hm=>⟨.root hm,hr r hm⟩) (fun q g x hq hx=>⟨hq.1.step hx,hs q g x hq.1 hx hq.2⟩)).2
theorem Way.parts(w:Way roots refs p h):h∈roots\/∃q g,Way roots refs q g/\h∈refs g :=w.ind (fun p h=>h∈roots\/∃q g,Way roots refs q g/\h∈refs g) (fun r hr=>.inl hr) (fun q g x wq hx _=>.inr ⟨q,g,wq,hx⟩)
section
variable {roots:LI} {refs:Int->LI}
theorem Way.dg(hr:Dg roots)(hf:∀g,Dg (refs g))(w:Way roots refs p h):Dg p/\1<=h/\h<=40/\p≠[]:=by
 refine w.ind (fun p h=>Dg p/\1<=h/\h<=40/\p≠[]) (fun r hm=>?_) (fun q g x _ hm ih=>?_)
 ·have:=hr _ hm;exact⟨fun y hy=>by rw[zMs hy];exact this,this.1,this.2,Sk⟩
 ·have:=hf _ _ hm;exact⟨ih.1.snoc this.1 this.2,this.1,this.2,Sk⟩
structure Still (roots:LI) (refs:Int->LI) (W:Int->LI):Prop where
 base:∀r∈roots,W r≠[]/\rk (W r)<=rk [r]
 next:∀h,W h≠[]->∀x∈refs h,W x≠[]/\rk (W x)<=rk (W h++[x])
 y9:∀h,W h≠[]->Way roots refs (W h) h
theorem Still.least{W}(s:Still roots refs W)(w:Way roots refs p h):W h≠[]/\rk (W h)<=rk p:=by refine w.ind (fun p h=>W h≠[]/\rk (W h)<=rk p) (fun r hm=>s.base _ hm) (fun q g x _ hm ih=>?_);obtain⟨h1,h2⟩:=s.next _ ih.1 _ hm;refine⟨h1,qAF h2 ?_⟩;rw[qN,qN];omega
theorem Still.one(hr:Dg roots)(hf:∀g,Dg (refs g)){W:Int->LI}(s:Still roots refs V)(t:Still roots refs W) h:V h=W h:=by
 by_cases h1:V h=[]
 ·by_cases h2:W h=[]
  ·grind
  ·exact absurd h1 (s.least (t.y9 h h2)).1
 ·by_cases h2:W h=[]
  ·exact absurd h2 (t.least (s.y9 h h1)).1
  ·have a:=s.least (t.y9 h h2);have b:=t.least (s.y9 h h1);exact zjB ((s.y9 h h1).dg hr hf).1 ((t.y9 h h2).dg hr hf).1 Sg
end
def gW(W:List (LI))(h:Int):LI:=W.getD h.toNat []
theorem Kh(f:LI->Nat):∀ (W:List (LI)) (i:Nat) (n:LI),i<W.length->((W.set i n).map f).sum+f (W.getD i [])=(W.map f).sum+f n
 | [],i,n,h=>absurd h (qAX i)
 | p::r,0,n,h=>by simp[List.getD];omega
 | p::r,i+1,n,h=>by have:=Kh f r i n TH;simp only[qAu,qAn,qDP,List.getD_cons_succ]at*;omega
theorem Fv{n}(hx:0<=x)(hl:x.toNat<W.length)(hy:0<=y):gW (W.set x.toNat n) y=if y=x then n else gW W y:=by grind[gW]
def shB(W:List (LI))(h x:Int):Bool:=decide (gW W x=[]) || decide (rk (gW W h++[x])<rk (gW W x))
theorem zbs:shB W h x=false ↔ gW W x≠[]/\rk (gW W x)<=rk (gW W h++[x]):=by simp[shB,gW,rk]
def st1(s:List (LI)×Bool)(h x:Int):List (LI)×Bool:=if shB s.1 h x=true then (s.1.set x.toNat (gW s.1 h++[x]),true)else s
def Vp(s:List (LI)×Bool)(h:Int)(rs:LI):List (LI)×Bool:=rs.foldl (fun s x=>st1 s h x) s
def stH(refs:Int->LI)(s:List (LI)×Bool)(h:Int):List (LI)×Bool:=if gW s.1 h=[]then s else Vp s h (refs h)
def M6(refs:Int->LI)(W:List (LI)):Nat->List (LI)×Bool
 | 0=>(W,false)
 | k+1=>stH refs (M6 refs W k) ((k:Int)+1)
def big:Nat:=41 ^ 43
def fMu(p:LI):Nat:=if p=[]then big else rk p
def Ut(p:LI):Nat:=if p=[]then 0 else 1
def muW(W:List (LI)):Nat:=(W.map fMu).sum
def cnW(W:List (LI)):Nat:=(W.map Ut).sum
theorem zew W:cnW W<=W.length:=by
 unfold cnW;induction W with
 | nil=>simp
 | cons p r ih =>
  simp only[qAn,qDP,zLc];have:Ut p<=1:=by grind[cnW,Ut]
  omega
structure wy (roots:LI) (refs:Int->LI) (W:List (LI)):Prop where
 len:W.length=41
 y9:∀h,0<=h->gW W h≠[]->Way roots refs (gW W h) h
 short:∀h,0<=h->(gW W h).length<=cnW W
 base:∀r∈roots,gW W r≠[]/\rk (gW W r)<=rk [r]
section
variable {roots:LI} {refs:Int->LI}
theorem wy.set(hr:Dg roots)(hf:∀g,Dg (refs g))(I:wy roots refs W)(hh:0<=h)(hw:gW W h≠[])(hx:x∈refs h)(hs:shB W h x=true) :
  wy roots refs (W.set x.toNat (gW W h++[x]))/\muW (W.set x.toNat (gW W h++[x]))<muW W:=by
 have hxb:=hf h x hx;have hl:x.toNat<W.length:=by rw[I.len];omega
 have hwy:=Way.step (I.y9 h hh hw) hx;have hdg:=hwy.dg hr hf;have hcn:=zew W;have hsh:=I.short h hh;have hlen:=I.len;have e1:=Kh fMu W x.toNat (gW W h++[x]) hl;have e2:=Kh Ut W x.toNat (gW W h++[x]) hl;have hn:gW W h++[x]≠[]:=Sk;have f1:fMu (gW W h++[x])=rk (gW W h++[x]):=by unfold fMu;rw[zn hn]
 have f2:Ut (gW W h++[x])=1:=by unfold Ut;rw[zn hn]
 have hrk:=IE hdg.1;have ZK:rk (gW W h++[x])<big:=by refine qAL hrk ?_;unfold big;refine qDG Si ?_;simp;omega
 have hg:W.getD x.toNat []=gW W x:=rfl;rw[hg]at e1 e2;have hmu:muW (W.set x.toNat (gW W h++[x]))<muW W/\rk (gW W h++[x])<fMu (gW W x):=by
  have:rk (gW W h++[x])<fMu (gW W x):=by
   unfold fMu;by_cases h0:gW W x=[]
   ·grind
   ·rw[zn h0];refine qAM fun hc=>?_
    rw[zbs.2 ⟨h0,Sg⟩]at hs;cases hs
  refine⟨?_,this⟩;unfold muW;rw[f1]at e1;omega
 have zss:cnW (W.set x.toNat (gW W h++[x]))+Ut (gW W x)=cnW W+1:=by unfold cnW;rw[f2]at e2;exact e2
 have hfc:Ut (gW W x)<=1:=by unfold Ut;split <;> omega
 refine⟨⟨by rw[qAz];exact hlen,fun y hy aG=>?_,fun y hy=>?_,fun r hm=>?_⟩,hmu.1⟩
 ·rw[Fv Sg hl hy]at aG ⊢;by_cases e:y=x
  ·grind
  ·rw[zn e]at aG ⊢;exact I.y9 y hy aG
 ·rw[Fv Sg hl hy];by_cases e:y=x
  ·subst e;rw[zy rfl];by_cases h0:gW W y=[]
   ·have:Ut (gW W y)=0:=by unfold Ut;rw[zy h0]
    simp;omega
   ·have h1:Ut (gW W y)=1:=by unfold Ut;rw[zn h0]
    have h2:rk (gW W h++[y])<rk (gW W y):=by have:=hmu.2;unfold fMu at this;rw[zn h0]at this;exact this
    have h3:=I.short y hy;have h4:(gW W h++[y]).length<=(gW W y).length:=qAM fun hc=>by have:=pX ((I.y9 y hy h0).dg hr hf).1 hdg.1 Sg;omega
    omega
  ·rw[zn e];have:=I.short y hy;omega
 ·have hrb:=hr r hm;rw[Fv Sg hl Sg];by_cases e:r=x
  ·subst e;rw[zy rfl];refine⟨hn,?_⟩;have hb:=I.base r hm;have:=hmu.2;unfold fMu at this;rw[zn hb.1]at this;omega
  ·rw[zn e];exact I.base r hm
end
structure Prog (roots:LI) (refs:Int->LI) (s s':List (LI)×Bool):Prop where
 inv:wy roots refs s'.1
 flag:s'.2=false->s'=s
 mu:muW s'.1<=muW s.1
 less:s.2=false->s'.2=true->muW s'.1<muW s.1
 keep:∀y,0<=y->gW s.1 y≠[]->gW s'.1 y≠[]
theorem Prog.refl(I:wy roots refs s.1):Prog roots refs s s :=⟨I,fun _=>rfl,zNr,fun h1 h2=>(by rw[h1]at h2;cases h2),fun _ _ h=>h⟩
theorem Prog.trans{a b c}(p:Prog roots refs a b)(q:Prog roots refs b c):Prog roots refs a c:=by
 refine⟨q.inv,fun h=>?_,qAF q.mu p.mu,fun h1 h2=>?_,fun y hy h=>q.keep y hy (p.keep y hy h)⟩
 ·have e:=q.flag h;rw[e]at h ⊢;exact p.flag h
 ·have hp:=p.mu;have hq:=q.mu;cases hb:b.2 with
  | true=>have:=p.less h1 hb;omega
  | false=>have:=q.less hb h2;omega
section
variable {roots:LI} {refs:Int->LI}
theorem zbi(hr:Dg roots)(hf:∀g,Dg (refs g))(I:wy roots refs s.1)(hh:0<=h)(hw:gW s.1 h≠[])(hx:x∈refs h):Prog roots refs s (st1 s h x)/\((st1 s h x).2=false->shB s.1 h x=false):=by
 unfold st1;cases hs:shB s.1 h x with
 | true =>
  rw[zy rfl];obtain⟨a,b⟩:=I.set hr hf hh hw hx hs;have hxb:=hf h x hx;refine⟨⟨a,fun h=>Um,Nat.le_of_lt b,fun _ _=>b,fun y hy aG=>?_⟩,fun h=>Um⟩;rw[Fv Sg (by rw[I.len];omega) hy];split
  ·simp
  ·omega
 | false =>exact⟨Prog.refl I,fun _=>rfl⟩
theorem D6(hr:Dg roots)(hf:∀g,Dg (refs g))(hh:0<=h):∀ (rs:LI) (s:List (LI)×Bool),wy roots refs s.1->gW s.1 h≠[]->(∀x∈rs,x∈refs h)->Prog roots refs s (Vp s h rs)/\((Vp s h rs).2=false->∀x∈rs,shB s.1 h x=false)
 | [],s,I,hw,hm=>⟨Prog.refl I,fun _ x hx=>TG⟩
 | x::rs,s,I,hw,hm=>by
  obtain⟨p,q⟩:=zbi hr hf I hh hw (hm x Sk);obtain⟨p2,q2⟩:=D6 hr hf hh rs (st1 s h x) p.inv (p.keep h hh hw) (fun y hy=>hm y (by simp[hy]));have e:Vp s h (x::rs)=Vp (st1 s h x) h rs:=rfl;rw[e];refine⟨p.trans p2,fun h0 y hy=>?_⟩;have e1:=p2.flag h0;have h1:(st1 s h x).2=false:=by rw[<-e1];exact h0
  have e2:=p.flag h1;rcases zMc hy with rfl|hy
  ·exact q h1
  ·have:=q2 h0 y hy;rw[e2]at this;exact this
theorem D7(hr:Dg roots)(hf:∀g,Dg (refs g))(I:wy roots refs W):∀k:Nat,k<=40->Prog roots refs (W,false) (M6 refs W k)/\((M6 refs W k).2=false->∀j:Nat,j<k->gW W ((j:Int)+1)≠[]->∀x∈refs ((j:Int)+1),shB W ((j:Int)+1) x=false)
 | 0,_=>⟨Prog.refl I,fun _ j hj=>absurd hj (qAX j)⟩
 | k+1,hk=>by
  obtain⟨p,q⟩:=D7 hr hf I k Sg;have e:M6 refs W (k+1)=stH refs (M6 refs W k) ((k:Int)+1):=rfl;rw[e];unfold stH;by_cases h0:gW (M6 refs W k).1 ((k:Int)+1)=[]
  ·rw[zy h0];refine⟨p,fun hz j hj aG x hx=>?_⟩;by_cases ej:j=k
   ·subst ej;exact absurd h0 (p.keep _ Sg aG)
   ·exact q hz j Sg aG x hx
  ·rw[zn h0];obtain⟨p2,q2⟩:=D6 hr hf (h:=(k:Int)+1) Sg (refs ((k:Int)+1)) (M6 refs W k) p.inv h0 (fun x hx=>hx);refine⟨p.trans p2,fun hz j hj aG x hx=>?_⟩;have e1:=p2.flag hz;have h1:(M6 refs W k).2=false:=by rw[<-e1];exact hz
   have e2:=p.flag h1;by_cases ej:j=k
   ·subst ej;have:=q2 hz x hx;rw[e2]at this;exact this
   ·exact q h1 j Sg aG x hx
theorem wy.range(hr:Dg roots)(hf:∀g,Dg (refs g))(I:wy roots refs W)(hn:gW W h≠[]):1<=h/\h<=40:=by
 by_cases h0:0<=h
 ·have:=(I.y9 h h0 hn).dg hr hf;exact⟨this.2.1,this.2.2.1⟩
 ·have e:gW W h=gW W 0:=by unfold gW;rw[show h.toNat=(0:Int).toNat by omega]
  rw[e]at hn;have:=(I.y9 0 (qBA _) hn).dg hr hf;omega
theorem zbb(hr:Dg roots)(hf:∀g,Dg (refs g))(I:wy roots refs W)(hz:(M6 refs W 40).2=false):Still roots refs (gW W):=by obtain⟨_,q⟩:=D7 hr hf I 40 zNr;refine⟨I.base,fun h hn x hx=>?_,fun h hn=>I.y9 h (by have:=I.range hr hf hn;omega) hn⟩;have hb:=I.range hr hf hn;have:=q hz (h-1).toNat Sg;rw[show(((h-1).toNat:Nat):Int)+1=h by omega]at this;exact zbs.1 (this hn x hx)
end
def wi(rs:LI):List (LI):=rs.foldl (fun W r=>W.set r.toNat [r]) (List.replicate 41 [])
theorem zfy rs r:wi (rs++[r])=(wi rs).set r.toNat [r]:=by simp[wi]
theorem zaR rs:(wi rs).length=41:=by
 unfold wi;have:∀ (rs:LI) (W:List (LI)),(rs.foldl (fun W r=>W.set r.toNat [r]) W).length=W.length:=by
  intro rs;induction rs with
  | nil=>intro W;rfl
  | cons r t ih=>intro W;rw[qBk,ih,qAz]
 grind
theorem RV{rs}(hr:Dg rs)(hh:0<=h):gW (wi rs) h=if h∈rs then [h]else []:=by
 have:∀ rs(W:List (LI)),Dg rs->W.length=41->gW (rs.foldl (fun W r=>W.set r.toNat [r]) W) h=if h∈rs then [h]else gW W h:=by
  intro rs;induction rs with
  | nil=>intro W _ _;simp
  | cons r t ih =>
   intro W hd hl;have hrb:=hd r Sk;rw[qBk,ih _ hd.tail (by rw[qAz];exact hl),Fv Sg Sg hh];by_cases h1:h∈t
   ·grind
   ·grind
 have e:=this rs (List.replicate 41 []) hr Sk;have e0:gW (List.replicate 41 []) h=[]:=by unfold gW;rw[List.getD,qBx];split <;> rfl
 rw[e0]at e;exact e
theorem WQ:∀ {W:List (LI)} {i:Nat},W.getD i []≠[]->1<=cnW W
 | [],i,h=>by simp[List.getD]at h
 | p::r,0,h=>by
  have hp:p≠[]:=by simpa[List.getD]using h
  unfold cnW;simp only[qAn,qDP];have:Ut p=1:=by unfold Ut;rw[zn hp]
  omega
 | p::r,i+1,h=>by have:=WQ (W:=r) (i:=i) (by simpa[List.getD]using h);unfold cnW at*;simp only[qAn,qDP];omega
theorem zi3(hr:Dg roots):wy roots refs (wi roots):=by
 refine⟨zaR roots,fun h hh hn=>?_,fun h hh=>?_,fun r hm=>?_⟩
 ·rw[RV hr hh]at hn ⊢;by_cases hm:h∈roots
  ·rw[zy hm];exact Way.root hm
  ·grind
 ·by_cases hn:gW (wi roots) h=[]
  ·rw[hn];simp
  ·have h1:=WQ (W:=wi roots) (i:=h.toNat) hn;rw[RV hr hh];split
   ·omega
   ·simp
 ·have hb:=hr r hm;rw[RV hr Sg,zy hm];exact⟨Sk,zNr⟩
def hd(p:LI):Int:=p.getLastD 0
def ld(p:LI):Int:=hd p.dropLast
theorem o8 q x:hd (q++[x])=x:=by unfold hd;simp
theorem zgX q x:ld (q++[x])=hd q:=by unfold ld;simp
def vD(P:List (LI))(x:Int):Bool:=P.any (fun p=>hd p == x)
theorem zQ:vD P x=true ↔ ∃p∈P,hd p=x:=by
 unfold vD;rw[qBH];constructor
 ·rintro ⟨p,hp,e⟩;exact⟨p,hp,qCA.1 e⟩
 ·rintro ⟨p,hp,e⟩;exact⟨p,hp,qCA.2 e⟩
theorem K7(h:vD P x=false):∀p∈P,hd p≠x:=fun p hp e=>by rw[zQ.2 ⟨p,hp,e⟩]at h;cases h
theorem YQ P q x:vD (P++[q]) x=(vD P x || (hd q == x)):=by unfold vD;rw[qCR];simp
def GW(q:LI)(P:List (LI))(x:Int):List (LI):=if vD P x=true then P else P++[q++[x]]
def qv(q:LI)(P:List (LI))(l:LI):List (LI):=l.foldl (GW q) P
theorem OM q P l x:qv q P (l++[x])=GW q (qv q P l) x:=by unfold qv;rw[qBb];rfl
theorem zgM q P x:∃A,GW q P x=P++A:=by
 unfold GW;split
 ·exact⟨[],Sk⟩
 ·exact⟨_,rfl⟩
theorem wZ q:∀ (l:LI) (P:List (LI)),∃A,qv q P l=P++A
 | [],P=>⟨[],by simp[qv]⟩
 | x::l,P=>by
  obtain⟨A,hA⟩:=zgM q P x;obtain⟨B,hB⟩:=wZ q l (GW q P x);refine⟨A++B,?_⟩
  show qv q (GW q P x) l=_
  rw[hB,hA,qBO]
def CU(q:LI)(P:List (LI))(l:LI):LI:=((qv q P l).drop P.length).map hd
theorem KX q P l:P.map hd++CU q P l=(qv q P l).map hd:=by unfold CU;obtain⟨A,hA⟩:=wZ q l P;rw[hA,List.drop_left,qAc]
theorem zcr q P l x:CU q P (l++[x])=if vD (qv q P l) x=true then CU q P l else CU q P l++[x]:=by
 unfold CU;rw[OM];unfold GW;obtain⟨A,hA⟩:=wZ q l P;split
 ·rfl
 ·rw[hA,qBO,List.drop_left,List.drop_left,qAc];simp[o8]
theorem zgz q P l:(CU q P l).length+P.length=(qv q P l).length:=by have:=qBB List.length (KX q P l);rw[zLa,zLm,zLm]at this;omega
def sR(l:LI):LI:=l.mergeSort (fun x y=>decide (x<=y))
theorem tE:x∈sR l ↔ x∈l:=by unfold sR;exact List.mem_mergeSort
theorem Ks l:(sR l).length=l.length:=by unfold sR;rw[List.length_mergeSort]
theorem M9 l:(sR l).Pairwise (·<=·):=by have:=qCb (le:=fun x y:Int=>decide (x<=y)) (fun a b c h1 h2=>by simp at*;omega) (fun a b=>Tb) l;unfold sR;exact this.imp (fun h=>TH)
def wu(roots:LI)(refs:Int->LI):Nat->List (LI)
 | 0=>qv [] [] (sR roots)
 | i+1=>match (wu roots refs i)[i]? with
  | some q=>qv q (wu roots refs i) (sR (refs (hd q)))
  | none=>wu roots refs i
theorem Qz(h:(wu roots refs i)[i]?=some q):wu roots refs (i+1)=qv q (wu roots refs i) (sR (refs (hd q))):=by
 show(match (wu roots refs i)[i]? with | some q=>_ | none=>_)=_
 rw[h]
theorem QA(h:(wu roots refs i).length<=i):wu roots refs (i+1)=wu roots refs i:=by
 show(match (wu roots refs i)[i]? with | some q=>_ | none=>_)=_
 rw[qAY h]
theorem QB(h:(wu roots refs i).length<=i):∀j,i<=j->wu roots refs j=wu roots refs i
 | 0,hj=>by rw[show i=0 by omega]
 | j+1,hj=>by
  by_cases e:i=j+1
  ·rw[e]
  ·have:=QB h j Sg;rw[QA (by rw[this];omega),this]
structure Bf (roots:LI) (refs:Int->LI) (P:List (LI)) (i:Nat):Prop where
 y9:∀p∈P,Way roots refs p (hd p)
 zjC:P.Pairwise (fun a b=>rk a<rk b)
 one:(P.map hd).Nodup
 zgv:∀p∈P,p.dropLast=[]\/∃j,j<i/\P[j]?=some p.dropLast
 root:∀r∈roots,∃p∈P,hd p=r/\rk p<=rk [r]
 next:∀j,j<i->∀q,P[j]?=some q->∀x∈refs (hd q),∃p∈P,hd p=x/\rk p<=rk (q++[x])
theorem zP q:∀ (l:LI) (P:List (LI)),Dg l->l.Pairwise (·<=·)->P.Pairwise (fun a b=>rk a<rk b)->(P.map hd).Nodup ->
  (∀p∈P,rk p<=rk q*41\/∃y,p=q++[y]/\1<=y/\∀x∈l,y<=x) ->
  (qv q P l).Pairwise (fun a b=>rk a<rk b)/\((qv q P l).map hd).Nodup/\(∀p∈qv q P l,p∈P\/∃x∈l,p=q++[x])/\(∀x∈l,∃p∈qv q P l,hd p=x/\rk p<=rk (q++[x]))
 | [],P,_,_,h1,h2,_=>⟨h1,h2,fun p hp=>.inl hp,fun x hx=>TG⟩
 | x::l,P,T9,hs,h1,h2,h3=>by
  have hx:=T9 x Sk;have hsx:=qBC.1 hs;have hrx:=qN q x
  show(qv q (GW q P x) l).Pairwise _/\_
  have hle:∀p∈P,rk p<=rk (q++[x]):=fun p hp=>by
   rcases h3 p hp with h|⟨y,rfl,Zm,hy⟩
   ·omega
   ·have:=hy x Sk;rw[qN,qN];omega
  cases hm:vD P x with
  | true =>
   have e:GW q P x=P:=by unfold GW;rw[zy hm]
   have e2:qv q P (x::l)=qv q P l:=by show qv q (GW q P x) l=_;rw[e]
   obtain⟨a,b,c,d⟩:=zP q l P T9.tail hsx.2 h1 h2 (fun p hp=>by
    rcases h3 p hp with h|⟨y,e,Zm,hy⟩
    ·exact .inl h
    ·exact .inr ⟨y,e,Zm,fun z hz=>hy z XB⟩)
   rw[e,e2];refine⟨a,b,fun p hp=>?_,fun z hz=>?_⟩
   ·rcases c p hp with h|⟨z,hz,h⟩
    ·exact .inl h
    ·exact .inr ⟨z,XB,h⟩
   ·rcases zMc hz with rfl|hz
    ·obtain⟨p,hp,Zu⟩:=zQ.1 hm;obtain⟨A,hA⟩:=wZ q l P;exact⟨p,zmT,Zu,hle p hp⟩
    ·exact d z hz
  | false =>
   have e:GW q P x=P++[q++[x]]:=by unfold GW;rw[hm];rfl
   have e2:qv q P (x::l)=qv q (P++[q++[x]]) l:=by show qv q (GW q P x) l=_;rw[e]
   have ig:=K7 hm;have aB:∀p∈P,rk p<rk (q++[x]):=fun p hp=>by
    rcases h3 p hp with h|⟨y,rfl,Zm,hy⟩
    ·omega
    ·have h4:=hy x Sk;have h5:=ig _ hp;rw[o8]at h5;rw[qN,qN];omega
   obtain⟨a,b,c,d⟩:=zP q l (P++[q++[x]]) T9.tail hsx.2
    (qBR.2 ⟨h1,Sk,fun p hp r hr=>by rw[zMs hr];exact aB p hp⟩)
    (by rw[qAc,qCt];refine⟨h2,Sk,fun u hu v hv=>?_⟩;obtain⟨p,hp,rfl⟩:=qAT.1 hu;simp[o8]at hv;rw[hv];exact ig p hp)
    (fun p hp=>by
     rcases zMa hp with hp|hp
     ·rcases h3 p hp with h|⟨y,e,Zm,hy⟩
      ·exact .inl h
      ·exact .inr ⟨y,e,Zm,fun z hz=>hy z XB⟩
     ·rw[zMs hp];exact .inr ⟨x,rfl,hx.1,fun z hz=>hsx.1 z hz⟩)
   rw[e,e2];refine⟨a,b,fun p hp=>?_,fun z hz=>?_⟩
   ·rcases c p hp with h|⟨z,hz,h⟩
    ·rcases zMa h with h|h
     ·exact .inl h
     ·rw[zMs h];exact .inr ⟨x,Sk,rfl⟩
    ·exact .inr ⟨z,XB,h⟩
   ·rcases zMc hz with rfl|hz
    ·obtain⟨A,hA⟩:=wZ q l (P++[q++[z]]);exact⟨q++[z],by rw[hA];simp,o8 q z,zNr⟩
    ·exact d z hz
theorem rY:h∈(List.range k).map (fun j:Nat=>(j:Int)+1) ↔ 1<=h/\h<=k:=by
 rw[qAT];constructor
 ·rintro ⟨j,hj,rfl⟩;have:=qAw.1 hj;omega
 ·rintro ⟨h1,h2⟩;exact⟨(h-1).toNat,qAw.2 Sg,Sg⟩
section
variable {roots:LI} {refs:Int->LI}
theorem zeI(hr:Dg roots):Bf roots refs (wu roots refs 0) 0:=by
 obtain⟨a,b,c,d⟩:=zP [] (sR roots) [] (fun x hx=>hr x (tE.1 hx)) (M9 roots) Sk Sk (fun p hp=>by cases hp);refine⟨fun p hp=>?_,a,b,fun p hp=>?_,fun r hm=>?_,fun j hj=>absurd hj (qAX j)⟩
 ·rcases c p hp with h|⟨x,hx,rfl⟩
  ·cases h
  ·rw[o8];exact .root (tE.1 hx)
 ·rcases c p hp with h|⟨x,hx,rfl⟩
  ·cases h
  ·exact .inl rfl
 ·exact d r (tE.2 hm)
theorem Bf.step(hr:Dg roots)(hf:∀g,Dg (refs g))(h:Bf roots refs P i)(hq:P[i]?=some q):Bf roots refs (qv q P (sR (refs (hd q)))) (i+1):=by
 have hqm:=qAs hq;have hqi:=(zLs hq).1;have hqw:=h.y9 q hqm;have hqd:=hqw.dg hr hf;have CX:1<=rk q:=by have:=zij hqd.1 hqd.2.2.2;have h2:0<41 ^ (q.length-1):=Nat.pow_pos Si;omega
 have ZK:∀p∈P,rk p<=rk q*41:=fun p hp=>by
  have hpd:=(h.y9 p hp).dg hr hf;obtain⟨p0,x,rfl⟩:∃p0 x,p=p0++[x]:=⟨p.dropLast,p.getLast hpd.2.2.2,(List.dropLast_concat_getLast hpd.2.2.2).symm⟩;have hxb:=hpd.1 x Sk;rw[qN];rcases h.zgv _ hp with e|⟨j,hj,e⟩
  ·rw[qCJ]at e;subst e;have:rk ([]:LI)=0:=rfl;omega
  ·rw[qCJ]at e;have aB:rk p0<rk q:=by obtain⟨Hd,e2⟩:=zLs e;obtain⟨hi2,e3⟩:=zLs hq;have:=qCT.1 h.zjC j i Hd hi2 hj;rw[e2,e3]at this;exact this
   omega
 obtain⟨a,b,c,d⟩:=zP q (sR (refs (hd q))) P (fun x hx=>hf _ x (tE.1 hx)) (M9 _) h.zjC h.one (fun p hp=>.inl (ZK p hp));obtain⟨A,hA⟩:=wZ q (sR (refs (hd q))) P;have Zo:∀p∈P,p∈qv q P (sR (refs (hd q))):=fun p hp=>zmT
 have rI:∀j,j<P.length->(qv q P (sR (refs (hd q))))[j]?=P[j]?:=fun j hj=>by rw[hA,qAZ hj]
 refine⟨fun p hp=>?_,a,b,fun p hp=>?_,fun r hm=>?_,fun j hj q' Zt x hx=>?_⟩
 ·rcases c p hp with hp|⟨x,hx,rfl⟩
  ·exact h.y9 p hp
  ·rw[o8];exact .step hqw (tE.1 hx)
 ·rcases c p hp with hp|⟨x,hx,rfl⟩
  ·rcases h.zgv p hp with e|⟨j,hj,e⟩
   ·exact .inl e
   ·exact .inr ⟨j,Sg,(rI j (zLs e).1).trans e⟩
  ·rw[qCJ];exact .inr ⟨i,Sg,(rI i hqi).trans hq⟩
 ·obtain⟨p,hp,h1,h2⟩:=h.root r hm;exact⟨p,Zo p hp,h1,h2⟩
 ·by_cases e:j=i
  ·subst e;rw[rI j hqi,hq]at Zt;obtain rfl:=zOi Zt;exact d x (tE.2 hx)
  ·rw[rI j Sg]at Zt;obtain⟨p,hp,h1,h2⟩:=h.next j Sg q' Zt x hx;exact⟨p,Zo p hp,h1,h2⟩
theorem zeJ(hr:Dg roots)(hf:∀g,Dg (refs g)):∀i,i<=(wu roots refs i).length\/(wu roots refs i).length<=i->Bf roots refs (wu roots refs i) i:=by
 intro i _;induction i with
 | zero=>exact zeI hr
 | succ i ih =>
  have hi:=ih Sg;by_cases hl:i<(wu roots refs i).length
  ·rw[Qz (zLg hl)];exact hi.step hr hf (zLg hl)
  ·rw[QA Sg];exact⟨hi.y9,hi.zjC,hi.one,fun p hp=>by
    rcases hi.zgv p hp with e|⟨j,hj,e⟩
    ·exact .inl e
    ·exact .inr ⟨j,Sg,e⟩,hi.root,fun j hj q hq=>by
    have:=(zLs hq).1;exact hi.next j Sg q hq⟩
theorem Bf.len(hr:Dg roots)(hf:∀g,Dg (refs g))(h:Bf roots refs P i):P.length<=40:=by
 have Zo:∀x∈P.map hd,x∈(List.range 40).map (fun j:Nat=>(j:Int)+1):=fun x hx=>by obtain⟨p,hp,rfl⟩:=qAT.1 hx;have:=(h.y9 p hp).dg hr hf;exact rY.2 ⟨this.2.1,this.2.2.1⟩
 have key:∀ (a b:LI),a.Nodup->(∀x∈a,x∈b)->a.length<=b.length:=by
  intro a;induction a with
  | nil=>intro b _ _;simp
  | cons x a ih =>intro b hn hs;have hx:=hs x Sk;have h2:=ih (b.erase x) (qCQ.1 hn).2 (fun y hy=>(List.mem_erase_of_ne (fun e=>(qCQ.1 hn).1 (by rw[<-e];exact hy))).2 (hs y (by simp[hy])));rw[List.length_erase_of_mem hx]at h2;have:0<b.length:=List.length_pos_of_mem hx;rw[zLc];omega
 have:=key _ _ h.one Zo;rw[zLm,zLm,List.length_range]at this;exact this
def wyF(P:List (LI))(x:Int):LI:=(P.find? (fun p=>hd p == x)).getD []
theorem Bf.uniq(h:Bf roots refs P i):∀p∈P,∀p'∈P,hd p=hd p'->p=p':=fun p hp p' hp' e=>by
 obtain⟨j,hj,rfl⟩:=qAm hp;obtain⟨k,hk,rfl⟩:=qAm hp';have hn:=h.one;have:j=k:=by
  have hp:=qCT.1 hn;rcases qCq j k with h|h|h
  ·exact absurd (by rw[qCx,qCx];exact e) (hp j k zbh zeN h)
  ·exact h
  ·exact absurd (by rw[qCx,qCx];exact e.symm) (hp k j zeN zbh h)
 subst this;rfl
theorem Bf.still(hr:Dg roots)(hf:∀g,Dg (refs g))(h:Bf roots refs P i)(hi:P.length<=i):Still roots refs (wyF P):=by
 have zdk:=h.uniq
 show Still roots refs (fun x=>(P.find? (fun p=>hd p == x)).getD [])
 have T6:∀p∈P,(P.find? (fun r=>hd r == hd p)).getD []=p:=fun p hp=>by
  cases hc:P.find? (fun r=>hd r == hd p)with
  | none=>exact absurd (qCk.1 hc p hp) Sk
  | some r =>have h1:=qBg hc;have h2:=qCo hc;rw[qCA]at h2;exact zdk r h1 p hp h2
 have hnn:=fun p hp=>((h.y9 p hp).dg hr hf).2.2.2
 have ziH:∀x,(P.find? (fun p=>hd p == x)).getD []≠[]->∃p∈P,hd p=x/\(P.find? (fun p=>hd p == x)).getD []=p:=fun x hx=>by
  cases hc:P.find? (fun r=>hd r == x)with
  | none=>rw[hc]at hx;exact absurd rfl hx
  | some r =>have h2:=qCo hc;rw[qCA]at h2;exact⟨r,qBg hc,h2,rfl⟩
 refine⟨fun r hm=>?_,fun g hg x hx=>?_,fun g hg=>?_⟩
 ·obtain⟨p,hp,rfl,h2⟩:=h.root r hm
  show(P.find? (fun p'=>hd p' == hd p)).getD []≠[]/\rk ((P.find? (fun p'=>hd p' == hd p)).getD [])<=_
  rw[T6 p hp];exact⟨hnn p hp,h2⟩
 ·obtain⟨p,hp,rfl,e⟩:=ziH g hg;rw[e];obtain⟨j,hj,e2⟩:=qAm hp;obtain⟨p',hp',rfl,h2⟩:=h.next j Sg p (by rw[<-e2];exact zLg hj) x hx;rw[T6 p' hp'];exact⟨hnn p' hp',h2⟩
 ·obtain⟨p,hp,rfl,e⟩:=ziH g hg;rw[e];exact h.y9 p hp
end
section
open Go.RowKit
def dO(L:LI)(acc:LI)(x:Int):LI:=if aX L x≠0 then acc else if acc.any (fun y=>y == x)=true then acc else acc++[x]
def ke(L l:LI)(k:Nat):LI:=(l.take k).foldl (dO L) []
def dR(L:LI)(h:Int):LI:=ke L (bw L h).2 (bw L h).1.toNat
theorem Bn(hk:k<l.length):ke L l (k+1)=dO L (ke L l k) (l.getD k 0):=by
 unfold ke;rw[qAx hk,qBb]
 grind
theorem NQ L acc x:(dO L acc x).length<=acc.length+1:=by grind[dO]
theorem zwq L l:∀k,(ke L l k).length<=k:=by
 intro k;induction k with
 | zero=>simp[ke]
 | succ k ih =>
  by_cases hk:k<l.length
  ·grind[ke,Bn,NQ]
  ·have:ke L l (k+1)=ke L l k:=by unfold ke;rw[qAP Sg,qAP Sg]
   rw[this];omega
theorem zbZ(hk:l.length<=k):ke L l k=ke L l l.length:=by grind[ke]
section
variable {roots:LI} {refs:Int->LI}
def J1(roots:LI)(refs:Int->LI):Int->LI:=wyF (wu roots refs 40)
theorem py(hr:Dg roots)(hf:∀g,Dg (refs g)):Still roots refs (J1 roots refs):=by have h:=zeJ hr hf 40 (Nat.le_total _ _);exact h.still hr hf (h.len hr hf)
theorem Still.eq(hr:Dg roots)(hf:∀g,Dg (refs g))(s:Still roots refs V) h:V h=J1 roots refs h:=s.one hr hf (py hr hf) h
theorem Way.steps(w:Way roots refs p h):p≠[]/\p.getD 0 0∈roots/\p.getD (p.length-1) 0=h/\∀j,1<=j->j<p.length->p.getD j 0∈refs (p.getD (j-1) 0):=by
 refine w.ind (fun p h=>p≠[]/\p.getD 0 0∈roots/\p.getD (p.length-1) 0=h/\∀j,1<=j->j<p.length->p.getD j 0∈refs (p.getD (j-1) 0)) (fun r hm=>⟨Sk,hm,rfl,fun j h1 h2=>by simp at h2;omega⟩) (fun q g x w hx ih=>?_)
 ·obtain⟨i1,i2,i3,i4⟩:=ih;have hq:=qBE.2 i1;have at1:∀j,j<q.length->(q++[x]).getD j 0=q.getD j 0:=fun j hj=>by simp[List.getD,qAZ hj]
  have at2:(q++[x]).getD q.length 0=x:=UU;refine⟨Sk,by rw[at1 0 hq];exact i2,by rw[zLa];exact at2,fun j h1 h2=>?_⟩;rw[zLa,qBM]at h2;by_cases e:j=q.length
  ·subst e;rw[at2,at1 _ Sg,i3];exact hx
  ·rw[at1 j Sg,at1 (j-1) Sg];exact i4 j h1 Sg
theorem Way.all(hr:Dg roots)(hf:∀g,Dg (refs g))(w:Way roots refs p h):J1 roots refs h≠[]:=((py hr hf).least w).1
end
def qu(L:LI):LI:=(aE L 8).map (·.2)
theorem kJ(hf:aD L):Dg (qu L):=fun x hx=>by obtain⟨r,hr,rfl⟩:=qAT.1 hx;exact(CL hf.ok).pos r hr
theorem Ws:∀ (l acc:LI),(∀x∈acc,aX L x=0)->∀x∈l.foldl (dO L) acc,aX L x=0
 | [],acc,h=>h
 | y::l,acc,h=>by
  refine Ws l (dO L acc y) (fun x hx=>?_);unfold dO at hx;by_cases hc:aX L y=0
  ·rw[zn (fun h=>h hc)]at hx;split at hx
   ·exact h x hx
   ·rcases zMa hx with hx|hx
    ·exact h x hx
    ·rw[zMs hx];exact hc
  ·rw[zy hc]at hx;exact h x hx
theorem NO(hx:x∈dR L h):aX L x=0:=Ws _ [] (fun x hx=>TG) x hx
theorem fD L h:Dg (dR L h):=fun x hx=>aN.1 (aV.1 (NO hx)).2.1
def wF(L:LI)(h:Int):LI:=J1 (qu L) (dR L) h
def G3(L:LI)(h:Int):Bool:=decide (wF L h≠[])
def G0(L:LI)(k:Nat):LI:=((List.range k).map (fun j:Nat=>(j:Int)+1)).filter fun h=>decide (aw L h≠0)&&G3 L h
def jn(L:LI)(k:Nat):LI:=((List.range k).map (fun j:Nat=>(j:Int)+1)).filter fun h=>decide (aw L h≠0) && !G3 L h
theorem wE(hf:aD L):Still (qu L) (dR L) (wF L):=py (kJ hf) (fD L)
theorem A2(hf:aD L)(hn:wF L h≠[]):aX L h=0:=by
 have s:=wE hf;have w:=s.y9 h hn;rcases w.parts with hm|⟨q,g,_,hx⟩
 ·obtain⟨r,hr,rfl⟩:=qAT.1 hm;obtain⟨i,hi,hq,e⟩:=iA.1 hr;obtain⟨o1,o2,o3⟩:=zU hf hi hq;have er:r.2=(rowAt L i).getD 10 0:=by rw[<-e];rfl
  rw[er];exact aV.2 ⟨hf.gR,aN.2 ⟨o1,o2⟩,o3⟩
 ·exact NO hx
theorem VX:h∈G0 L k ↔ (1<=h/\h<=k)/\aw L h≠0/\wF L h≠[]:=by unfold G0 G3;rw[qCS,rY,qAa,qAK,qAK]
theorem xc:h∈jn L k ↔ (1<=h/\h<=k)/\aw L h≠0/\wF L h=[]:=by unfold jn G3;rw[qCS,rY,qAa,qAK,qCs,qAt,Decidable.not_not]
section
variable {roots:LI} {refs:Int->LI}
theorem Bf.least(hr:Dg roots)(hf:∀g,Dg (refs g))(h:Bf roots refs P i)(hi:P.length<=i):(∀p∈P,J1 roots refs (hd p)=p)/\∀x,J1 roots refs x≠[]->J1 roots refs x∈P:=by
 have zdk:=h.uniq;have eF:=h.still hr hf hi;have heq:=fun x=>eF.eq hr hf x
 refine⟨fun p hp=>?_,fun x hx=>?_⟩
 ·rw[<-heq (hd p)];unfold wyF;cases hc:P.find? (fun r=>hd r == hd p)with
  | none=>exact absurd (qCk.1 hc p hp) Sk
  | some r =>have h2:=qCo hc;rw[qCA]at h2;exact zdk r (qBg hc) p hp h2
 ·rw[<-heq x]at hx ⊢;unfold wyF at hx ⊢;cases hc:P.find? (fun r=>hd r == x)with
  | none=>rw[hc]at hx;exact absurd rfl hx
  | some r=>exact qBg hc
def bfA(roots:LI)(refs:Int->LI):List (LI):=wu roots refs 40
theorem zly(hi:i<=40)(hl:(wu roots refs i).length<=i):wu roots refs i=bfA roots refs:=(QB hl 40 hi).symm
theorem sG(hr:Dg roots)(hf:∀g,Dg (refs g)):(∀p∈bfA roots refs,J1 roots refs (hd p)=p)/\(∀x,J1 roots refs x≠[]->J1 roots refs x∈bfA roots refs)/\((bfA roots refs).map hd).Nodup/\(bfA roots refs).length<=40/\∀p∈bfA roots refs,p≠[]/\(p.dropLast=[]\/p.dropLast∈bfA roots refs):=by
 have h:=zeJ hr hf 40 (Nat.le_total _ _);have hl:=h.len hr hf;obtain⟨a,b⟩:=h.least hr hf hl;refine⟨a,b,h.one,hl,fun p hp=>⟨((h.y9 p hp).dg hr hf).2.2.2,?_⟩⟩;rcases h.zgv p hp with e | ⟨j,_,e⟩
 ·grind
 grind[Dg,bfA,J1,hd]
theorem zh1(hr:Dg roots)(hf:∀g,Dg (refs g)) x:vD (bfA roots refs) x=decide (J1 roots refs x≠[]):=by
 obtain⟨a,b,_,_,c⟩:=sG hr hf;rw[qDE,zQ,qAK];constructor
 ·grind
 ·intro hx;have hm:=b x hx;refine⟨_,hm,?_⟩;have hw:=(py hr hf).y9 x hx;have:=hw.steps.2.2.1;unfold hd;rw[List.getLastD_eq_getLast?,List.getLast?_eq_getElem?];exact this
end
theorem Xm(hf:aD L)(w:Way (qu L) (dR L) p x):aX L x=0:=A2 hf (w.all (kJ hf) (fD L))
def My(L:LI):List (LI):=bfA (qu L) (dR L)
section
variable {L:LI}
theorem zhZ(hf:aD L) x:vD (My L) x=G3 L x:=by have:=zh1 (kJ hf) (fD L) x;exact this
end
theorem xr L k:(jn L k).length<=k:=by grind[jn]
theorem Qf L k:jn L (k+1)=if aw L ((k:Int)+1)≠0/\G3 L ((k:Int)+1)=false then jn L k++[(k:Int)+1]else jn L k:=by
 unfold jn;rw[qBl,qAc,qCF]
 grind
theorem VU q:∀ (l:LI) (P:List (LI)),(qv q P l).length<=P.length+l.length
 | [],P=>by simp[qv]
 | x::l,P=>by
  have h1:=VU q l (GW q P x);have h2:(GW q P x).length<=P.length+1:=by
   unfold GW;split
   ·omega
   ·simp
  show(qv q (GW q P x) l).length<=_
  rw[zLc];omega
def yW(L:LI)(D:LI):LI:=D.foldl (fun b h=>cK b h) L
structure kB (L c:LI) (D:LI):Prop where
 bC:aD c
 len:c.length=L.length
 keep:∀k,1<=k->k<=40->k ∉ D->aw c k=aw L k/\ao c k=ao L k
 gone:∀k∈D,1<=k->k<=40->aw c k=0
 tail:∀j,200<=j->c.getD j 0=L.getD j 0
theorem kB.rows(s:kB L c D):∀i,i<8->rowAt c i=rowAt L i:=fun i hi=>by
 have hl:=s.bC.len;have gS:=s.len;apply cr
 ·exact zii
 ·intro j hj;rw[aY Sg]at hj;rw[cw hj,cw hj];exact s.tail _ Sg
theorem kB.refl(hf:aD L):kB L L []:=⟨hf,rfl,fun _ _ _ _=>⟨rfl,rfl⟩,fun k hk=>(by cases hk),fun _ _=>rfl⟩
theorem kB.more(s:kB L c D)(hc:aX L h=0)(hn:h ∉ D)(hr:h ∉ qu L):aX c h=0/\nD c h=0/\kB L (cK c h) (D++[h]):=by
 obtain⟨q1,q2,q3⟩:=aV.1 hc;have hh:=aN.1 q2;obtain⟨k1,k2⟩:=s.keep h hh.1 hh.2 hn;have lI:=aV.2 ⟨s.bC.gR,q2,by rw[k1];exact q3⟩;have ig:∀i,i<8->isRoot (rowAt c i)=true->(rowAt c i).getD 10 0≠h:=fun i hi hq e=>by rw[s.rows i hi]at hq e;exact hr (qAT.2 ⟨_,lz hi hq,e⟩)
 obtain⟨f,fo,fs,fl,ft⟩:=sD s.bC lI ig;refine⟨lI,qh.2 ⟨lI,qBz.2 (fun r hrm=>?_)⟩,f,fl.trans s.len,fun k h1 h2 hk=>?_,fun k hk=>?_,fun j hj=>(ft j hj).trans (s.tail j hj)⟩
 ·obtain⟨i,hi,hq,rfl⟩:=iA.1 hrm;rw[qCA];exact ig i hi hq
 ·have kF:k ∉ D:=fun hm=>hk (List.mem_append.2 (.inl hm))
  have fR:k≠h:=fun e=>hk (List.mem_append.2 (.inr (by rw[e];simp)))
  obtain⟨a1,a2⟩:=fo k h1 h2 fR;obtain⟨b1,b2⟩:=s.keep k h1 h2 kF;exact⟨a1.trans b1,a2.trans b2⟩
 ·intro k1 k2;by_cases e:k=h
  ·grind
  ·rcases zMa hk with hk|hk
   ·rw[(fo k k1 k2 e).1];exact s.gone k hk k1 k2
   ·grind
theorem DW(hf:aD L):∀ (D E:LI),(E++D).Nodup->(∀h∈E++D,aX L h=0/\h ∉ qu L)->∀c,kB L c E->kB L (yW c D) (E++D)
 | [],E,_,_,c,s=>by rw[qAh];exact s
 | h::D,E,hn,bQ,c,s=>by
  have hh:=bQ h Sk;have hnE:=fun hm=>by rw[qCt]at hn;exact hn.2.2 h hm h Sk rfl
  have s2:=(s.more hh.1 hnE hh.2).2.2;have e:E++h::D=E++[h]++D:=Sk;rw[e]at hn bQ ⊢;exact DW hf D (E++[h]) hn bQ (cK c h) s2
section
variable {L c:LI}
theorem LW(hf:aD L):(jn L 40).Nodup/\∀h∈jn L 40,aX L h=0/\h ∉ qu L:=by
 refine⟨?_,fun h hh=>?_⟩
 ·unfold jn;exact List.Pairwise.filter _ (qBc.2 (List.nodup_range.imp (fun aG e=>aG Sg)))
 ·obtain⟨⟨h1,h2⟩,ht,hw⟩:=xc.1 hh;refine⟨aV.2 ⟨hf.gR,aN.2 ⟨h1,h2⟩,ht⟩,fun hm=>?_⟩;exact((wE hf).base h hm).1 hw
theorem qF(hf:aD L):kB L (yW L (jn L 40)) (jn L 40):=by
 obtain⟨h1,h2⟩:=LW hf;have:=DW hf (jn L 40) [] Y9 (by simpa using h2) L (kB.refl hf)
 grind
