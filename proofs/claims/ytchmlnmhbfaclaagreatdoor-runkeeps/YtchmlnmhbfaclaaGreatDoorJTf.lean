/-
  Parts of the proofs, joined by program.
-/
import Derived.Test.YtchmlnmhbfaclaaGreatDoorJSu
import Derived.Test.YtchmlnmhbfaclaaGreatDoorJPy
import Derived.Test.YtchmlnmhbfaclaaGreatDoorJHp
import Derived.Test.YtchmlnmhbfaclaaGreatDoorJHq
import Derived.Test.YtchmlnmhbfaclaaGreatDoorJRt
import Derived.Test.YtchmlnmhbfaclaaGreatDoorJRh
import Derived.Test.YtchmlnmhbfaclaaGreatDoorJMv
namespace Go.Proofs.YtchmlnmhbfaclaaGreatDoor
open Go.RowKit
set_option linter.unusedVariables false
def Tf(w0 w:World)(t p x m:Nat)(P:Ps)(F:Nat->Prop):Prop :=
 ∃ q S g c gk ck,Sto w0 w t p q S P.D P.s m x g c P.L gk ck P.K P.D.down/\F=Zj S q t gk x g
def Lf(w0 w:World)(p:Nat)(D:DS)(F:Nat->Prop):Prop:=∃ S,Live w0 w p S D/\∀ k,S k->F k
section
variable {w0 w w':World} {t p x m n:Nat} {P:Ps} {D:DS} {F:Nat->Prop}
theorem Tf.base(h:Tf w0 w t p x m P F):Below w0.heap.size w0 w:=by obtain⟨q,S,g,c,gk,ck,hs,_⟩:=h;exact hs.base
theorem Tf.lt(h:Tf w0 w t p x m P F):∀ k,F k->k<w.heap.size:=by
 obtain⟨q,S,g,c,gk,ck,hs,rfl⟩:=h
 exact hs.foot_lt
theorem Tf.ge(h:Tf w0 w t p x m P F):∀ k,F k->w0.heap.size<=k:=by
 obtain⟨q,S,g,c,gk,ck,hs,rfl⟩:=h
 rintro k (hk | hk)
 ·exact hs.bsd.pge k hk
 ·exact hs.bsd.tb k hk
theorem Tf.below(h:Tf w0 w t p x m P F)(hb:Below w.heap.size w w'):Tf w0 w' t p x m P F:=by
 obtain⟨q,S,g,c,gk,ck,hs,rfl⟩:=h
 exact⟨q,S,g,c,gk,ck,hs.below hb,rfl⟩
theorem Tf.other(h:Tf w0 w t p x m P F){U U':Nat->Prop}(ht:Turn U U' w w')(hn:∀ k,F k->¬ U k)(hU:∀ k,U k->w0.heap.size<=k):Tf w0 w' t p x m P F:=by
 obtain⟨q,S,g,c,gk,ck,hs,rfl⟩:=h
 have hk:∀ k,Zj S q t gk x g k->w'.heap[k]?=w.heap[k]?:=fun k hf=>ht.block k (hs.foot_lt k hf) (hn k hf)
 refine⟨q,S,g,c,gk,ck,⟨(hk t (.inr (.inl rfl))).trans hs.blk,⟨⟨hs.bsd.live.dev.turn ht (fun k hk=>hn k (.inl (.inl hk))),hs.base.trans (ht.below hU hs.size),hs.bsd.live.base⟩,(hs.bsd.pg.turn ht (hn q (.inl (.inr rfl)))).1,hs.bsd.out,hs.bsd.base,hs.bsd.apart,fun k hf=>Nat.lt_of_lt_of_le (hs.bsd.tlt k hf) ht.size,hs.bsd.tb⟩,?_,?_,hs.kb,hs.kf,hs.cnt,hs.len,hs.klen,hs.n1,hs.n2,hs.n3⟩,rfl⟩
 ·obtain⟨cur,hr⟩:=hs.hp.row
  exact⟨hs.hp.bp,hs.hp.ne,(hk x (.inr (.inr (.inr (.inl rfl))))).trans hs.hp.blk,⟨cur,hr.same (hk g (.inr (.inr (.inr (.inr rfl)))))⟩,hs.hp.byt,hs.hp.fine⟩
 ·obtain⟨cur,hr⟩:=hs.kept
  exact⟨cur,hr.same (hk gk (.inr (.inr (.inl rfl))))⟩
theorem Tf.heap(h:Tf w0 w t p x m P F):Calls Tryz.prog 89 #[.pointer (some ⟨t,0,none⟩)] w fun e w'=>e=.returned (.pointer (some ⟨x,0,none⟩))/\w=w':=by
 obtain⟨q,S,g,c,gk,ck,hs,_⟩:=h
 exact zd5 hs
theorem Tf.call(h:Tf w0 w t p x m P F){f:Nat}{ar:Array Value}{V:Value}{M:List Int}(hM:M.length=P.L.length)
  (hc:∀ (g c:Nat),Hp w w0.heap.size x g c P.L->w0.heap.size<=w.heap.size->Calls Tryz.prog f ar w fun e w'=>e=.returned V/\∃ g' c',Hp w' w0.heap.size x g' c' M/\Turn (foot x g) (foot x g') w w') :
  Calls Tryz.prog f ar w fun e w'=>e=.returned V/\∃ F',Tf w0 w' t p x m { P with L:=M } F'/\Turn F F' w w':=by
 obtain⟨q,S,g,c,gk,ck,hs,rfl⟩:=h
 refine(hc g c hs.hp hs.size).mono ?_
 rintro e w' ⟨rfl,g',c',hh,ht⟩
 exact⟨rfl,_,⟨q,S,g',c',gk,ck,hs.heap hh ht hM,rfl⟩,zgK ht S q t gk⟩
theorem Tf.ask(h:Tf w0 w t p x m P F){f:Nat}{ar:Array Value}{Q:Ending->World->Prop}
  (hc:∀ (g c:Nat),Hp w w0.heap.size x g c P.L->Calls Tryz.prog f ar w fun e w'=>Q e w'/\Below w.heap.size w w') :
  Calls Tryz.prog f ar w fun e w'=>Q e w'/\Tf w0 w' t p x m P F/\Below w.heap.size w w':=by
 have h':=h
 obtain⟨q,S,g,c,gk,ck,hs,_⟩:=h
 refine(hc g c hs.hp).mono ?_
 rintro e w' ⟨hq,hb⟩
 exact⟨hq,h'.below hb,hb⟩
theorem Tf.commit(h:Tf w0 w t p x m P F)(h0:0<=P.s)(h1:P.s<4294967295)(hup:P.D.down=false->(qR m P).2=0->(qR m P).1.D.down=false) :
  Calls Tryz.prog 100 #[.pointer (some ⟨t,0,none⟩)] w fun e w'=>e=.returned (zK (qR m P).2)/\∃ F',Tf w0 w' t p x m (qR m P).1 F'/\Turn F F' w w':=by
 obtain⟨q,S,g,c,gk,ck,hs,rfl⟩:=h
 have e2:(qR m P).2=(zc P.D P.s m (dfP P.K P.L m)).2.2:=rfl
 have eD:(qR m P).1.D=(zc P.D P.s m (dfP P.K P.L m)).1:=rfl
 have eS:(qR m P).1.s=(zc P.D P.s m (dfP P.K P.L m)).2.1:=rfl
 have eK:(qR m P).1.K=if (qR m P).2=0 then P.L else P.K:=rfl
 have eL:(qR m P).1.L=P.L:=rfl
 cases hd:P.D.down with
 | true =>
  have hco:=zaS hd P.s m (dfP P.K P.L m)
  have hce:=QQ (K:=P.K) hs.len
  have he:(zc P.D P.s m (dfP P.K P.L m)).2.2=if 23<(qz P.K P.L m).length then 4 else 9:=by
   rw [hco,hce]
   by_cases h23:23<(qz P.K P.L m).length
   ·rw [if_pos h23,if_pos h23];rfl
   ·rw [if_neg h23,if_neg h23];rfl
  have hne:¬ (qR m P).2=0:=by rw [e2,he];split <;> decide
  refine(zhH hs hd h0 h1).mono ?_
  rintro e w' ⟨rfl,S',hs',ht⟩
  refine⟨by rw [e2,he],_,⟨q,S',g,c,gk,ck,?_,rfl⟩,ht⟩
  rw [eK,if_neg hne,eL,eD,eS,hco]
  exact hs'
 | false =>
  rw [hd] at hs
  by_cases hE:(qR m P).2=0
  ·have hE':(zc P.D P.s m (dfP P.K P.L m)).2.2=0:=by rw [<- e2];exact hE
   refine(zjd hs h0 h1 hE').mono ?_
   rintro e w' ⟨rfl,S',gn,cn,hs',ht⟩
   refine⟨by rw [hE];rfl,_,⟨q,S',g,c,gn,cn,?_,rfl⟩,ht⟩
   rw [hup hd hE,eK,if_pos hE,eL,eD,eS]
   exact hs'
  ·have hE':(zc P.D P.s m (dfP P.K P.L m)).2.2≠0:=by rw [<- e2];exact hE
   refine(zeq hs (fun e=>by cases e) h0 h1 hE').mono ?_
   rintro e w' ⟨rfl,S',hs',ht⟩
   refine⟨by rw [e2],_,⟨q,S',g,c,gk,ck,?_,rfl⟩,ht⟩
   rw [hd] at hs'
   rw [eK,if_neg hE,eL,eD,eS]
   exact hs'
theorem Tf.dev(h:Tf w0 w t p x m P F):Lf w0 w p P.D F:=by
 obtain⟨q,S,g,c,gk,ck,hs,rfl⟩:=h
 exact⟨S,hs.bsd.live,fun k hk=>.inl (.inl hk)⟩
theorem Lf.crash(h:Lf w0 w p D F)(zR cut:Int){a:Option Addr}{cap:Nat}{keep:List Bool}(hb:Bls w a cap keep/\(keep≠[]->∀ x,a=some x->¬ F x.block)) :
  Calls Tryz.prog 158 #[.pointer (some ⟨p,0,none⟩),.slice a keep.length cap,.int .i64 zR,.int .i64 cut] w fun e w'=>e=.returned (.int .i64 D.mem.length)/\∃ F',Lf w0 w' p (D.crash keep zR (zma cut)) F'/\Turn F F' w w':=by
 obtain⟨S,hl,hF⟩:=h
 refine(hl.crash zR cut ⟨hb.1,fun hne x hx hs=>hb.2 hne x hx (hF _ hs)⟩).mono ?_
 rintro e w' ⟨rfl,S',hl',ht⟩
 refine⟨rfl,fun k=>F k\/S' k,⟨S',hl',fun k hk=>.inr hk⟩,⟨ht.os,ht.tape,ht.output,ht.size,fun k hk hn=>ht.block k hk (fun hs=>hn (hF k hs)),fun k hk hf=>?_⟩⟩
 rcases hf with hf | hf
 ·exact hf
 ·exact hF k (ht.foot k hk hf)
def crP(n m:Nat):Ps:=⟨crD n m,2,zerosB (32 * m),zerosB (32 * m)⟩
theorem zkx(h1:57<=n)(h2:n<=300)(hm:Zk n=m):Pu m n (crP n m)/\(crP n m).D.left<0:=by
 have hm2:9<=m/\m<=200/\48+m<=n:=by
  unfold Zk at hm
  split at hm <;> omega
 obtain⟨z1,z2,z4,z3⟩:=znK (m:=m) h1 h2 hm2.2.2 hm2.2.1
 have hf:=(Qs (n:=32 * m) (by omega) (by omega)).1
 have hb:=byt_zerosB (32 * m)
 have hl:=length_zerosB (32 * m)
 refine⟨⟨⟨0,[],?_⟩,hf,hf,hb,hb,hl,hl,z3⟩,z4⟩
 refine⟨z2.ok,z2.mem,z2.down,z2.len,z2.lt,z2.two,z2.even,z2.s1,(show(2:Int)<=10000 by decide),z2.got,z2.redo,z2.pages,?_⟩
 have hnf:=zrs (n:=n) (m:=m) (by omega) h2 hm2.2.2 hm2.2.1
 have hl0:=zc5 n
 have e:(crP n m).D.secs.getD (1-0) []=(zD (DS.new n)).1.secs.getD (1-0) []:=by
  have r0:Run (fun k=>48<=k/\k<48+m) (img (zD (DS.new n)).1) (zD (DS.new n)).1.secs.length ((zD (DS.new n)).1,0):=⟨hnf.ok,Qh hnf.mem _,rfl,.inl ⟨rfl,hnf.down⟩⟩
  have hlen:=hnf.len
  have r1:=r0.ws (f:=fun i=>(48+(i:Int),zerosB 32)) m (fun j hj=>⟨by dsimp only;omega,by dsimp only;omega,za2,by dsimp only;omega,by dsimp only;omega⟩)
  exact(r1.f.only (1-0) (by omega)).2
 rw [e]
 exact hnf.bk
theorem zp8{S:Nat->Prop}(h:Live w0 w p S (DS.new n))(h1:57<=n)(h2:n<=300)(hm:Zk n=m) :
  Calls Tryz.prog 46 #[.pointer (some ⟨p,0,none⟩)] w fun e w'=>∃ t x,e=.returned (.tuple #[.pointer (some ⟨t,0,none⟩),.nilIface])/\∃ F,Tf w0 w' t p x m (crP n m) F :=
 (zjc h h1 h2 hm).mono fun e w' ⟨t,x,he,q,S',g,c,gk,hs⟩=>by
  obtain⟨⟨⟨a,nl,hn⟩,_⟩,_⟩:=zkx h1 h2 hm
  refine⟨t,x,he,_,q,S',g,c,gk,32 * m,?_,rfl⟩
  have hd:(crP n m).D.down=false:=hn.down
  rw [hd]
  exact hs
end
section
variable {w0 w w':World} {t p x m n:Nat} {P:Ps} {F:Nat->Prop}
theorem Tf.fine(h:Tf w0 w t p x m P F):Fine P.L/\Byt P.L/\P.L.length=32 * m/\Fine P.K/\Byt P.K/\P.K.length=32 * m:=by
 obtain⟨q,S,g,c,gk,ck,hs,_⟩:=h
 exact⟨hs.hp.fine,hs.hp.byt,hs.len,hs.kf,hs.kb,hs.klen⟩
theorem Tf.alloc(h:Tf w0 w t p x m P F)(a b:Int) :
  Calls Tryz.prog 91 #[.pointer (some ⟨x,0,none⟩),.int .i64 a,.int .i64 b] w fun e w'=>e=.returned (.tuple #[.int .i64 (alH P.L a b),zK (alE P.L a b)])/\∃ F',Tf w0 w' t p x m { P with L:=alB P.L a b } F'/\Turn F F' w w' :=
 h.call (zxf h.fine.1 a b) (fun g c hh hB=>zpd x g c w0.heap.size P.L a b w hh hB)
theorem Tf.free(h:Tf w0 w t p x m P F)(a:Int) :
  Calls Tryz.prog 92 #[.pointer (some ⟨x,0,none⟩),.int .i64 a] w fun e w'=>e=.returned (zK (frE P.L a))/\∃ F',Tf w0 w' t p x m { P with L:=frB P.L a } F'/\Turn F F' w w' :=
 h.call (znB h.fine.1 a).2 (fun g c hh hB=>zkf x g c w0.heap.size P.L a w hh hB)
theorem Tf.write(h:Tf w0 w t p x m P F)(a b:Int){ad:Option Addr}{cap:Nat}{l:List Int}(hb:Bs w ad cap l)(hx:b<=9223372036854775807) :
  Calls Tryz.prog 93 #[.pointer (some ⟨x,0,none⟩),.int .i64 a,.int .i64 b,.slice ad l.length cap] w fun e w'=>e=.returned (zK (pcE P.L a b l.length))/\∃ F',Tf w0 w' t p x m { P with L:=wrB P.L a b l } F'/\Turn F F' w w' :=
 h.call (zmq h.fine.1 a b l).2 (fun g c hh hB=>(zpb x g c w0.heap.size P.L a b ad cap l w hh hb hx).mono fun e w' ⟨he,h1,h2⟩=>⟨he,g,c,h1,h2⟩)
theorem Tf.set(h:Tf w0 w t p x m P F)(nm:ByteArray)(a:Int)(hs:nm.size<=140737488351232) :
  Calls Tryz.prog 97 #[.pointer (some ⟨x,0,none⟩),.string nm,.int .i64 a] w fun e w'=>e=.returned (.tuple #[.bool (seO P.L nm a),zK (seE P.L nm a)])/\∃ F',Tf w0 w' t p x m { P with L:=seF P.L nm a } F'/\Turn F F' w w' :=
 h.call (zmM h.fine.1 nm a).2 (fun g c hh hB=>zqS hh hB nm a hs)
theorem Tf.unset(h:Tf w0 w t p x m P F)(nm:ByteArray)(hs:nm.size<=140737488351232) :
  Calls Tryz.prog 98 #[.pointer (some ⟨x,0,none⟩),.string nm] w fun e w'=>e=.returned (zK (unE P.L nm))/\∃ F',Tf w0 w' t p x m { P with L:=unF P.L nm } F'/\Turn F F' w w' :=
 h.call (zmx h.fine.1 nm).2 (fun g c hh hB=>zlf hh hB nm hs)
theorem Tf.sweep(h:Tf w0 w t p x m P F) :
  Calls Tryz.prog 106 #[.pointer (some ⟨x,0,none⟩)] w fun e w'=>e=.returned (.tuple #[.int .i64 (ddK P.L 40).length,.nilIface])/\∃ F',Tf w0 w' t p x m { P with L:=swT P.L } F'/\Turn F F' w w' :=
 h.call (zmE h.fine.1).2 (fun g c hh hB=>zll hh hB)
theorem Tf.fail(h:Tf w0 w t p x m P F)(f:Int)(hf:-9223372036854775808<=f/\f<=9223372036854775807) :
  Calls Tryz.prog 103 #[.pointer (some ⟨p,0,none⟩),.int .i64 f] w fun e w'=>e=.returned (.tuple #[])/\∃ F',Tf w0 w' t p x m (wlP P f) F'/\Turn F F' w w':=by
 obtain⟨q,S,g,c,gk,ck,hs,rfl⟩:=h
 refine(hs.bsd.live.fail f hf).mono ?_
 rintro e w' ⟨rfl,S',hl,ht⟩
 have hpg:=hs.bsd.pg.turn ht hs.bsd.out
 refine⟨rfl,_,⟨q,S',g,c,gk,ck,hs.pages hl hpg.1 hpg.2 (ht.plus q) rfl,rfl⟩,⟨ht.os,ht.tape,ht.output,ht.size,fun k hk hn=>ht.block k hk (fun hk2=>hn (.inl (.inl hk2))),fun k hk hk2=>?_⟩⟩
 rcases hk2 with (hk2 | hk2) | hk2
 ·exact .inl (.inl (ht.foot k hk hk2))
 ·exact .inl (.inr hk2)
 ·exact .inr hk2
theorem Pd.opens{N:List Int}(h:Pd m n P N)(keep:List Bool)(zR:Int){c:Nat}(hc:c<=32):∃ K s,(K=P.K\/K=N)/\Rdy (P.D.crash keep zR c) m s (prt K)/\Fine K/\Byt K/\K.length=32 * m/\P.s<=s/\s<=P.s+1:=by
 rcases h.crash keep zR c hc with h1 | h1
 ·exact⟨P.K,P.s,.inl rfl,h1,h.fk,h.bk,h.lk,Int.le_refl _,by omega⟩
 ·exact⟨N,P.s+1,.inr rfl,h1,h.fn,h.bn,h.ln,by omega,Int.le_refl _⟩
theorem Pu.opens(h:Pu m n P)(keep:List Bool)(zR:Int)(c:Nat):Rdy (P.D.crash keep zR c) m P.s (prt P.K):=by
 obtain⟨a,nl,hn⟩:=h.nt
 exact hn.rdy.crash keep zR c
theorem Pu.stays(h:Pu m n P)(hs:P.s<=9999):P.D.down=false/\((qR m P).2=0->(qR m P).1.D.down=false):=by
 obtain⟨a,nl,hn⟩:=h.nt
 refine⟨hn.down,fun h0=>?_⟩
 rcases zaj hn hs h.lk h.ll h.bl with ⟨_,k2⟩ | ⟨_,k2⟩ | ⟨_,_,_,⟨a',nl',hn'⟩,_,_⟩ | ⟨_,_,k3,_⟩
 ·show(zc P.D P.s m (dfP P.K P.L m)).1.down=false
  rw [k2];exact hn.down
 ·show(zc P.D P.s m (dfP P.K P.L m)).1.down=false
  rw [k2];exact hn.down
 ·exact hn'.down
 ·have:(qR m P).2=9:=by
   show(zc P.D P.s m (dfP P.K P.L m)).2.2=9
   rw [k3]
  rw [this] at h0
  cases h0
end
section
variable {m n:Nat} {p:Ps}
def Pz(m n:Nat)(p:Ps):Prop:=Pu m n p\/∃ N,Pd m n p N
theorem Pz.step(h:Pz m n p)(hs:p.s<=9999)(o:OpP)(ho:Byt o.2.2.2.2.2):Pz m n (zY m p o).1/\p.s<=(zY m p o).1.s/\(zY m p o).1.s<=p.s+1:=by
 rcases h with h | ⟨N,h⟩
 ·rcases h.step hs o ho with ⟨h1,h2,h3,_⟩ | ⟨_,_,h3,_,h5,_⟩
  ·exact⟨.inl h1,h2,h3⟩
  ·exact⟨.inr ⟨_,h3⟩,by rw [h5];exact Int.le_refl _,by rw [h5];omega⟩
 ·obtain⟨h1,_,h3,_⟩:=h.step o ho
  exact⟨.inr ⟨N,h1⟩,by rw [h3];exact Int.le_refl _,by rw [h3];omega⟩
theorem Pz.stays(h:Pz m n p)(hs:p.s<=9999):p.D.down=false->(qR m p).2=0->(qR m p).1.D.down=false:=by
 rcases h with h | ⟨N,h⟩
 ·exact fun _=>(h.stays hs).2
 ·intro hd
  rw [h.down] at hd
  cases hd
end
end Go.Proofs.YtchmlnmhbfaclaaGreatDoor
