import Derived.Test.YtoiebmeajhpgcaaGreatDoorJSu
import Derived.Test.YtoiebmeajhpgcaaGreatDoorJPy
import Derived.Test.YtoiebmeajhpgcaaGreatDoorJRh
import Derived.Test.YtoiebmeajhpgcaaGreatDoorJMv
set_option maxRecDepth 100000
set_option maxHeartbeats 16000000
set_option linter.all false
namespace Go.Proofs.YtoiebmeajhpgcaaGreatDoor
variable {f cap:Nat}{ar:Array Value}
open Go.RowKit
def Tf(w0 w:World)(t p x m:Nat)(P:Ps)(F:Nat->Prop):Prop :=∃q S g c gk ck,fO w0 w t p q S P.D P.s m x g c P.L gk ck P.K P.D.down/\F=ib S q t gk x g
def Lf(w0 w:World)(p:Nat)(D:DS)(F:Nat->Prop):Prop:=∃S,Live w0 w p S D/\∀k,S k->F k
section
variable {w0 w w':World} {t p x m n:Nat} {P:Ps} {D:DS} {F:Nat->Prop}
theorem Tf.base(h:Tf w0 w t p x m P F):zB w0 w:=by obtain⟨q,S,g,c,gk,ck,hs,_⟩:=h;exact hs.base
theorem Tf.lt(h:Tf w0 w t p x m P F):∀k,F k->k<w.heap.size:=by obtain⟨q,S,g,c,gk,ck,hs,rfl⟩:=h;exact hs.Am
theorem Tf.ge(h:Tf w0 w t p x m P F):∀k,F k->w0.heap.size<=k:=by
 obtain⟨q,S,g,c,gk,ck,hs,rfl⟩:=h;rintro k (hk|hk)
 ·exact hs.lH.pge k hk
 ·exact hs.lH.tb k hk
theorem Tf.below(h:Tf w0 w t p x m P F)(hb:zB w w'):Tf w0 w' t p x m P F:=by obtain⟨q,S,g,c,gk,ck,hs,rfl⟩:=h;exact⟨q,S,g,c,gk,ck,hs.below hb,rfl⟩
theorem Tf.other(h:Tf w0 w t p x m P F){U U'}(ht:au U U' w w')(hn:∀k,F k->¬U k)(hU:∀k,U k->w0.heap.size<=k):Tf w0 w' t p x m P F:=by
 obtain⟨q,S,g,c,gk,ck,hs,rfl⟩:=h;have hk:=fun k hf=>ht.block k (hs.Am k hf) (hn k hf)
 refine⟨q,S,g,c,gk,ck,⟨(hk t (.inr (.inl rfl))).trans hs.qq,⟨⟨hs.lH.live.dev.cQ ht (fun k hk=>hn k (.inl (.inl hk))),hs.base.trans (ht.below hU hs.size),hs.lH.live.base⟩,(hs.lH.pg.cQ ht (hn q (.inl (.inr rfl)))).1,hs.lH.out,hs.lH.base,hs.lH.apart,fun k hf=>qAL (hs.lH.Gu k hf) ht.size,hs.lH.tb⟩,?_,?_,hs.kb,hs.kf,hs.cnt,hs.len,hs.uA,hs.n1,hs.n2,hs.n3⟩,rfl⟩
 ·obtain⟨cur,hr⟩:=hs.hp.row;exact⟨hs.hp.bp,hs.hp.ne,(hk x (.inr (.inr (.inr (.inl rfl))))).trans hs.hp.qq,⟨cur,hr.same (hk g (.inr (.inr (.inr (.inr rfl)))))⟩,hs.hp.B2,hs.hp.bC⟩
 ·obtain⟨cur,hr⟩:=hs.kept;exact⟨cur,hr.same (hk gk (.inr (.inr (.inl rfl))))⟩
theorem Tf.heap(h:Tf w0 w t p x m P F):zC 87 #[zq t] w (zr (zq x) fun w'=>w=w'):=by obtain⟨q,S,g,c,gk,ck,hs,_⟩:=h;exact yl hs
theorem Tf.call(h:Tf w0 w t p x m P F){V}{M}(hM:M.length=P.L.length)(hc:∀ (g c:Nat),Hp w w0.heap.size x g c P.L->w0.heap.size<=w.heap.size->zC f ar w (zr V fun w'=>∃g' c',Hp w' w0.heap.size x g' c' M/\au (bA x g) (bA x g') w w')) :
  zC f ar w (zr V fun w'=>∃F',Tf w0 w' t p x m { P with L:=M } F'/\au F F' w w'):=by
 obtain⟨q,S,g,c,gk,ck,hs,rfl⟩:=h;refine(hc g c hs.hp hs.size).mono ?_;rintro e w' ⟨rfl,g',c',hh,ht⟩;exact⟨rfl,_,⟨q,S,g',c',gk,ck,hs.heap hh ht hM,rfl⟩,DT ht S q t gk⟩
theorem Tf.ask(h:Tf w0 w t p x m P F){Q:Ending->World->Prop}(hc:∀ (g c:Nat),Hp w w0.heap.size x g c P.L->zC f ar w fun e w'=>Q e w'/\zB w w') :
  zC f ar w fun e w'=>Q e w'/\Tf w0 w' t p x m P F/\zB w w':=by
 have h':=h;obtain⟨q,S,g,c,gk,ck,hs,_⟩:=h;refine(hc g c hs.hp).mono ?_;rintro e w' ⟨hq,hb⟩;exact⟨hq,h'.below hb,hb⟩
theorem Tf.yS(h:Tf w0 w t p x m P F)(h0:0<=P.s)(h1:P.s<4294967295)(hup:P.D.down=false->(fm m P).2=0->(fm m P).1.D.down=false) :
  zC 98 #[zq t] w (zr (bc (fm m P).2) fun w'=>∃F',Tf w0 w' t p x m (fm m P).1 F'/\au F F' w w'):=by
 obtain⟨q,S,g,c,gk,ck,hs,rfl⟩:=h;have e2:(fm m P).2=(aj P.D P.s m (dQ P.K P.L m)).2.2:=rfl;have eD:(fm m P).1.D=(aj P.D P.s m (dQ P.K P.L m)).1:=rfl;have eS:(fm m P).1.s=(aj P.D P.s m (dQ P.K P.L m)).2.1:=rfl;have eK:(fm m P).1.K=if (fm m P).2=0 then P.L else P.K:=rfl
 have eL:(fm m P).1.L=P.L:=rfl;cases hd:P.D.down with
 | true =>
  have hco:=ql hd P.s m (dQ P.K P.L m);have C4:=jV (K:=P.K) hs.len;have he:(aj P.D P.s m (dQ P.K P.L m)).2.2=if 23<(cu P.K P.L m).length then 4 else 9:=by
   rw[hco,C4];by_cases Ak:23<(cu P.K P.L m).length
   ·rw[zy Ak,zy Ak];rfl
   ·rw[zn Ak,zn Ak];rfl
  have aG:¬(fm m P).2=0:=by rw[e2,he];split <;> decide
  refine(GL hs hd h0 h1).mono ?_;rintro e w' ⟨rfl,S',TU,ht⟩;refine⟨by rw[e2,he],_,⟨q,S',g,c,gk,ck,?_,rfl⟩,ht⟩;rw[eK,zn aG,eL,eD,eS,hco];exact TU
 | false =>
  rw[hd]at hs;by_cases hE:(fm m P).2=0
  ·have hE':(aj P.D P.s m (dQ P.K P.L m)).2.2=0:=by rw[<-e2];exact hE
   refine(Kn hs h0 h1 hE').mono ?_;rintro e w' ⟨rfl,S',gn,cn,TU,ht⟩;refine⟨by rw[hE];rfl,_,⟨q,S',g,c,gn,cn,?_,rfl⟩,ht⟩;rw[hup hd hE,eK,zy hE,eL,eD,eS];exact TU
  ·have hE':(aj P.D P.s m (dQ P.K P.L m)).2.2≠0:=by rw[<-e2];exact hE
   refine(zf hs (fun e=>TB) h0 h1 hE').mono ?_;rintro e w' ⟨rfl,S',TU,ht⟩;refine⟨by rw[e2],_,⟨q,S',g,c,gk,ck,?_,rfl⟩,ht⟩;rw[hd]at TU;rw[eK,zn hE,eL,eD,eS];exact TU
theorem Tf.dev(h:Tf w0 w t p x m P F):Lf w0 w p P.D F:=by obtain⟨q,S,g,c,gk,ck,hs,rfl⟩:=h;exact⟨S,hs.lH.live,fun k hk=>.inl (.inl hk)⟩
theorem Lf.bX(h:Lf w0 w p D F) aZ cut{a}{keep}(hb:Bls w a cap keep/\(keep≠[]->∀x,a=some x->¬F x.block)) :
  zC 156 #[zq p,.slice a keep.length cap,zi aZ,zi cut] w (zr (zi D.mem.length) fun w'=>∃F',Lf w0 w' p (D.bX keep aZ (jW cut)) F'/\au F F' w w'):=by
 obtain⟨S,hl,hF⟩:=h;refine(hl.bX aZ cut ⟨hb.1,fun aG x hx hs=>hb.2 aG x hx (hF _ hs)⟩).mono ?_;rintro e w' ⟨rfl,S',hl',ht⟩;refine⟨rfl,fun k=>F k\/S' k,⟨S',hl',fun k hk=>.inr hk⟩,⟨ht.os,ht.tape,ht.output,ht.size,fun k hk hn=>ht.block k hk (fun hs=>hn (hF k hs)),fun k hk hf=>?_⟩⟩;rcases hf with hf | hf
 ·exact hf
 ·exact hF k (ht.bA k hk hf)
def oh(n m:Nat):Ps:=⟨crD n m,2,af (32*m),af (32*m)⟩
theorem FQ(h1:57<=n)(h2:n<=300)(hm:eo n=m):Pu m n (oh n m)/\(oh n m).D.left<0:=by
 have kz:9<=m/\m<=200/\48+m<=n:=zpo;obtain⟨z1,z2,z4,z3⟩:=Qg (m:=m) h1 h2 kz.2.2 kz.2.1;have hf:=(jG (n:=32*m) Sg Sg).1;have hb:=cI (32*m);have hl:=ag (32*m);refine⟨⟨⟨0,[],?_⟩,hf,hf,hb,hb,hl,hl,z3⟩,z4⟩;refine⟨z2.ok,z2.mem,z2.down,z2.len,z2.lt,z2.two,z2.even,z2.s1,(show(2:Int)<=10000 by decide),z2.Cw,z2.zx,z2.eH,?_⟩;have hnf:=YF (n:=n) (m:=m) Sg h2 kz.2.2 kz.2.1;have oz:=vX n;have e:(oh n m).D.secs.getD (1-0) []=(bG (DS.new n)).1.secs.getD (1-0) []:=by have r0:xH (fun k=>48<=k/\k<48+m) (dY (bG (DS.new n)).1) (bG (DS.new n)).1.secs.length ((bG (DS.new n)).1,0):=⟨hnf.ok,gI hnf.mem _,rfl,.inl ⟨rfl,hnf.down⟩⟩;have hlen:=hnf.len;have r1:=r0.ws (f:=fun i=>(48+(i:Int),af 32)) m (fun j hj=>⟨Tu,Tu,mF,Tu,Tu⟩);exact(r1.f.only (1-0) Sg).2
 rw[e];exact hnf.bk
theorem Xw{S}(h:Live w0 w p S (DS.new n))(h1:57<=n)(h2:n<=300)(hm:eo n=m) :
  zC 44 #[zq p] w fun e w'=>∃t x,e=zt #[zq t,.nilIface]/\∃F,Tf w0 w' t p x m (oh n m) F :=
 (Km h h1 h2 hm).mono fun e w' ⟨t,x,he,q,S',g,c,gk,hs⟩=>by obtain⟨⟨⟨a,nl,hn⟩,_⟩,_⟩:=FQ h1 h2 hm;refine⟨t,x,he,_,q,S',g,c,gk,32*m,?_,rfl⟩;have hd:=hn.down;rw[hd];exact hs
end
section
variable {w0 w w':World} {t p x m n:Nat} {P:Ps} {F:Nat->Prop}
theorem Tf.bC(h:Tf w0 w t p x m P F):aD P.L/\bZ P.L/\P.L.length=32*m/\aD P.K/\bZ P.K/\P.K.length=32*m:=by obtain⟨q,S,g,c,gk,ck,hs,_⟩:=h;exact⟨hs.hp.bC,hs.hp.B2,hs.len,hs.kf,hs.kb,hs.uA⟩
theorem Tf.alloc(h:Tf w0 w t p x m P F) a b :
  zC 89 #[zq x,zi a,zi b] w (zr (.tuple #[zi (uu P.L a b),bc (kX P.L a b)]) fun w'=>∃F',Tf w0 w' t p x m { P with L:=iq P.L a b } F'/\au F F' w w' ):=
 h.call (U1 h.bC.1 a b) (fun g c hh hB=>Uk x g c w0.heap.size P.L a b w hh hB)
theorem Tf.free(h:Tf w0 w t p x m P F) a :
  zC 90 #[zq x,zi a] w (zr (bc (nD P.L a)) fun w'=>∃F',Tf w0 w' t p x m { P with L:=sZ P.L a } F'/\au F F' w w' ):=
 h.call (Al h.bC.1 a).2 (fun g c hh hB=>JD x g c w0.heap.size P.L a w hh hB)
theorem Tf.write(h:Tf w0 w t p x m P F) a b{ad}{l}(hb:Bs w ad cap l)(hx:b<=9223372036854775807) :
  zC 91 #[zq x,zi a,zi b,.slice ad l.length cap] w (zr (bc (mo P.L a b l.length)) fun w'=>∃F',Tf w0 w' t p x m { P with L:=uL P.L a b l } F'/\au F F' w w' ):=
 h.call (y7 h.bC.1 a b l).2 (fun g c hh hB=>(Ui x g c w0.heap.size P.L a b ad cap l w hh hb hx).mono fun e w' ⟨he,h1,h2⟩=>⟨he,g,c,h1,h2⟩)
theorem Tf.set(h:Tf w0 w t p x m P F) nm a(hs:nm.size<=140737488351232) :
  zC 95 #[zq x,.string nm,zi a] w (zr (.tuple #[.bool (Q8 P.L nm a),bc (js P.L nm a)]) fun w'=>∃F',Tf w0 w' t p x m { P with L:=Dj P.L nm a } F'/\au F F' w w' ):=
 h.call (zm h.bC.1 nm a).2 (fun g c hh hB=>X4 hh hB nm a hs)
theorem Tf.zmA(h:Tf w0 w t p x m P F) nm(hs:nm.size<=140737488351232) :
  zC 96 #[zq x,.string nm] w (zr (bc (pB P.L nm)) fun w'=>∃F',Tf w0 w' t p x m { P with L:=Gs P.L nm } F'/\au F F' w w' ):=
 h.call (za h.bC.1 nm).2 (fun g c hh hB=>Ny hh hB nm hs)
theorem Tf.zmG(h:Tf w0 w t p x m P F) :
  zC 104 #[zq x] w (zr (.tuple #[zi (jn P.L 40).length,.nilIface]) fun w'=>∃F',Tf w0 w' t p x m { P with L:=swT P.L } F'/\au F F' w w' ):=
 h.call (zc h.bC.1).2 (fun g c hh hB=>NI hh hB)
theorem Tf.fail(h:Tf w0 w t p x m P F) f(hf:-9223372036854775808<=f/\f<=9223372036854775807) :
  zC 101 #[zq p,zi f] w (zr (.tuple #[]) fun w'=>∃F',Tf w0 w' t p x m (og P f) F'/\au F F' w w'):=by
 obtain⟨q,S,g,c,gk,ck,hs,rfl⟩:=h;refine(hs.lH.live.fail f hf).mono ?_;rintro e w' ⟨rfl,S',hl,ht⟩;have sl:=hs.lH.pg.cQ ht hs.lH.out;refine⟨rfl,_,⟨q,S',g,c,gk,ck,hs.eH hl sl.1 sl.2 (ht.plus q) rfl,rfl⟩,⟨ht.os,ht.tape,ht.output,ht.size,fun k hk hn=>ht.block k hk (fun fR=>hn (.inl (.inl fR))),fun k hk fR=>?_⟩⟩;rcases fR with (fR | fR) | fR
 ·exact .inl (.inl (ht.bA k hk fR))
 ·exact .inl (.inr fR)
 ·exact .inr fR
theorem Pd.opens{N}(h:Pd m n P N) keep aZ{c}(hc:c<=32):∃K s,(K=P.K\/K=N)/\yY (P.D.bX keep aZ c) m s (prt K)/\aD K/\bZ K/\K.length=32*m/\P.s<=s/\s<=P.s+1:=by
 rcases h.bX keep aZ c hc with h1|h1
 ·exact⟨P.K,P.s,.inl rfl,h1,h.fk,h.bk,h.lk,qBA _,Sg⟩
 ·exact⟨N,P.s+1,.inr rfl,h1,h.fn,h.bn,h.ln,Sg,qBA _⟩
theorem Pu.opens(h:Pu m n P) keep aZ c:yY (P.D.bX keep aZ c) m P.s (prt P.K):=by obtain⟨a,nl,hn⟩:=h.nt;exact hn.rdy.bX keep aZ c
theorem Pu.stays(h:Pu m n P)(hs:P.s<=9999):P.D.down=false/\((fm m P).2=0->(fm m P).1.D.down=false):=by
 obtain⟨a,nl,hn⟩:=h.nt;refine⟨hn.down,fun h0=>?_⟩;rcases mN hn hs h.lk h.ll h.bl with ⟨_,k2⟩ | ⟨_,k2⟩ | ⟨_,_,_,⟨a',nl',hn'⟩,_,_⟩ | ⟨_,_,k3,_⟩
 ·exact Qe
 ·exact Qe
 ·exact hn'.down
 ·have:(fm m P).2=9:=by
   show(aj P.D P.s m (dQ P.K P.L m)).2.2=9
   rw[k3]
  rw[this]at h0;cases h0
end
section
variable {m n:Nat} {p:Ps}
def Pz(m n:Nat)(p:Ps):Prop:=Pu m n p\/∃N,Pd m n p N
theorem Pz.step(h:Pz m n p)(hs:p.s<=9999) o(ho:bZ o.2.2.2.2.2):Pz m n (bB m p o).1/\p.s<=(bB m p o).1.s/\(bB m p o).1.s<=p.s+1:=by
 rcases h with h|⟨N,h⟩
 ·rcases h.step hs o ho with ⟨h1,h2,h3,_⟩|⟨_,_,h3,_,h5,_⟩
  ·exact⟨.inl h1,h2,h3⟩
  ·exact⟨.inr ⟨_,h3⟩,by rw[h5];exact qBA _,Xu⟩
 ·obtain⟨h1,_,h3,_⟩:=h.step o ho;exact⟨.inr ⟨N,h1⟩,by rw[h3];exact qBA _,by rw[h3];omega⟩
theorem Pz.stays(h:Pz m n p)(hs:p.s<=9999):p.D.down=false->(fm m p).2=0->(fm m p).1.D.down=false:=by
 rcases h with h|⟨N,h⟩
 ·exact fun _=>(h.stays hs).2
 ·intro hd;rw[h.down]at hd;cases hd
