import Derived.Test.YtoiebmeajhpgcaaGreatDoorJDev
set_option maxRecDepth 100000
set_option maxHeartbeats 16000000
set_option linter.all false
namespace Go.Proofs.YtoiebmeajhpgcaaGreatDoor
variable {w w':World}{q p cap n m k L base e size:Nat}{s:Int}{S S':Nat->Prop}{a:OA}{l:List (Int×LI)}{v:Value}{xs:List Value}{D:DS}
open Tryz
open Go.RowKit
def eE(w:World)(q p:Nat)(s:Int):Prop:=w.heap[q]?=some (.cells #[zq p,zi s] 210 (0,0))
theorem eE.c0(h:eE w q p s):w.cell? (zp q)=some (zq p):=by rw[qAD w q 0 _ _ (0,0) h];rfl
theorem eE.c1(h:eE w q p s):w.cell? (zw q 1)=some (zi s):=by rw[qAD w q 1 _ _ (0,0) h];rfl
theorem eE.lt(h:eE w q p s):q<w.heap.size:=(zAg h).1
theorem eE.fr(h:eE w q p s) i:w.frozen? (zw q i)=false:=qAd w q i _ _ h
theorem eE.same(h:eE w q p s)(e:w'.heap[q]?=w.heap[q]?):eE w' q p s:=e.trans h
theorem eE.below(h:eE w q p s)(hb:zB w w'):eE w' q p s:=h.same (hb.block q h.lt)
theorem eE.cQ(h:eE w q p s)(ht:au S S' w w')(hn:¬S q):eE w' q p s/\¬S' q:=⟨h.same (ht.block q h.lt hn),fun hs=>hn (ht.bA q h.lt hs)⟩
theorem eE.set(h:eE w q p s) t:eE (w.setCell (zw q 1) (zi t)) q p t:=by unfold eE;rw[qAI _ _ _ _ _ _ h];rfl
def eo(n:Nat):Int:=if (n:Int)-48<=200 then (n:Int)-48 else 200
section
variable {w:World} {p q:Nat} {S:Nat->Prop} {D:DS} {s:Int}
theorem mZ(h:td w p S D) :
  zC 113 #[zq p] w (zr (zi (eo D.secs.length)) fun w'=>w=w'):=by
 have hlen:=h.ok.len;have HL:=ae (Ld h);generalize D.secs.length=n at*;unfold eo;by_cases hc:(n:Int)-48<=200
 ·rw[zy hc];exact Cj
 ·rw[zn hc];exact Cj
theorem EB(h:td w p S D)(hq:eE w q p s) :
  zC 74 #[zq q] w (zr (zi (eo D.secs.length)) fun w'=>w=w'):=by
 have c0:=hq.c0;have HC:=ae (mZ h);go_enter func74,ntmps74
 exact uZ
theorem Td(hq:eE w q p s) :
  zC 153 #[zq q] w (zr (zi s) fun w'=>w=w'):=by
 have c1:=hq.c1;go_enter func153,ntmps153
 exact Tt
def ZO(n:Nat)(i:Int):Bool:=decide (0<=i/\i<eo n)
theorem EC(h:td w p S D)(hq:eE w q p s) i :
  zC 268 #[zq q,zi i] w (zr (.bool (ZO D.secs.length i)) fun w'=>w=w'):=by
 have HC:=ae (EB h hq);unfold ZO;generalize eo D.secs.length=n at*;by_cases h0:0<=i
 ·by_cases h1:i<n
  ·rw[qAE ⟨h0,h1⟩];go_enter func268,ntmps268
   exact uZ
  ·rw[qAG (fun h:0<=i/\i<n=>h1 h.2)];go_enter func268,ntmps268
   go_wp2_with fail
   refine HC.m ?_;rintro w1 rfl;go_wp2;go_ret;exact⟨qBB (fun z=>Ending.returned (Value.bool z)) (qAG Sg),rfl⟩
 ·rw[qAG (fun h=>h0 h.1)];go_enter func268,ntmps268
  exact Tt
theorem Ys(h:td w p S D)(hq:eE w q p s) :
  zC 247 #[zq q] w (zr (bc (if D.down then 9 else 0)) fun w'=>w=w'):=by
 have c0:=hq.c0;obtain⟨sb,bm,pv,h'⟩:=h;have HC:=ae (Qa h');cases hd:D.down
 ·rw[hd]at HC;go_enter func247,ntmps247
  exact uZ
 ·rw[hd]at HC;go_enter func247,ntmps247
  exact uZ
theorem Yv(h:td w p S D)(hq:eE w q p s)(i:Nat)(hi:ZO D.secs.length i=true)(hd:D.down=false) :
  zC 212 #[zq q,zi i] w fun e w'=>∃g,e=zt #[.slice (zo g) 32 32,.nilIface]/\w.heap.size<=g/\gz w' g (D.rd (48+i))/\zB w w':=by
 have c0:=hq.c0;have iR:=EC h hq i;rw[hi]at iR;have aK:=qCr hi;have aB:48+i<D.secs.length/\i<200:=by have h2:=aK.2;unfold eo at h2;split at h2 <;> omega
 have hr:=NS (48+i) h aB.1 hd;have hi2:=aB.2;rw[show((48+i:Nat):Int)=48+(i:Int) by omega]at hr;have HC:=ae iR;have HR:=ae hr;go_enter func212,ntmps212
 go_wp2_with fail
 refine HC.m ?_;rintro w1 rfl;go_wp2_with fail
 refine HR.mono ?_;rintro e w1 ⟨g,rfl,h1,h2,h3⟩;go_wp2;go_ret2;exact⟨g,rfl,h1,h2,h3⟩
theorem Ef g a(k:Nat) w(ha:a=0\/a=1)(hk:k<=1000)(hg:w.cell? (zp g)=some (zi a)) :
  zC 297 #[zi k,zq g] w (zr (zi (2+23*a+k)) fun w'=>w=w'):=by
 have h0:0<=a:=Sg;have h1:a<=1:=Sg;have e:2+a*23+(k:Int)=2+23*a+k:=Sg;rw[<-e];clear e;go_enter func297,ntmps297
 exact Tt
theorem Jd g(b cap n:Nat) k z w(hk:k<n)(hn:n<=1000)(hz:0<=z/\z<=1000)(hg:w.cell? (zp g)=some (.slice (zo b) n cap))(hb:w.cell? (zw b k)=some (zi z)) :
  zC 298 #[zi k,zq g] w (zr (zi (48+z)) fun w'=>w=w'):=by
 obtain⟨z0,z1⟩:=hz;go_enter func298,ntmps298
 exact Tt
theorem Qn g a k w(hg:w.cell? (zp g)=some (zi a)) :
  zC 250 #[zi k,zq g] w (zr (zi a) fun w'=>w=w'):=by
 go_enter func250,ntmps250
 exact Tt
theorem PW k w :
  zC 116 #[zi k] w (zr (zi k) fun w'=>w=w'):=by
 go_enter func116,ntmps116
 exact Tt
theorem Ip a w :
  zC 244 #[zi a] w (zr (.func (.func 297) #[] #[.pointer (some (zp w.heap.size))]) fun w'=>w'=w.alloc (.cells #[zi a] 3)):=by
 go_enter func244,ntmps244
 exact Tt
theorem Po v n cap w :
  zC 245 #[.slice v n cap] w (zr (.func (.func 298) #[] #[.pointer (some (zp w.heap.size))]) fun w'=>w'=w.alloc (.cells #[.slice v n cap] 88)):=by
 go_enter func245,ntmps245
 exact Tt
theorem zbq t nv w(h0:0<=t)(h1:t<=4294967296) :
  zC 249 #[.agg #[zi t,nv]] w (zr (zi (t%2)) fun w'=>zB w w'):=by
 have hb:=Pj t h0 h1;go_enter func249,ntmps249
 go_wp2;go_ret;refine⟨?_,zBr.alloc zNr _⟩
 first | rfl | (rw[hb])
end
def Gq(w:World)(S:Nat->Prop)(b n:Nat)(B:Nat->LI):Prop :=¬S b/\∀k,k<n->∃ab capb,w.cell? (zw b k)=some (.slice ab (B k).length capb)/\Bs w ab capb (B k)/\(B k≠[]->∀x,ab=some x->¬S x.block)
theorem Bs.lt{l}(h:Bs w a cap l)(aG:l≠[]){x}(hx:a=some x):x.block<w.heap.size:=by obtain⟨b,off,rfl,hc⟩:=h.2.2.2.2 aG;obtain rfl:=zOi hx;exact qAA (hc 0 (by cases l with|nil=>exact absurd rfl aG|cons _ _=>simp))
theorem Bs.turns{l}(h:Bs w a cap l)(hn:l≠[]->∀x,a=some x->¬S x.block)(ht:au S S' w w'):Bs w' a cap l/\(l≠[]->∀x,a=some x->¬S' x.block):=by
 by_cases h0:l=[]
 ·subst h0;exact⟨⟨h.1,h.2.1,h.2.2.1,h.2.2.2.1,fun e=>absurd rfl e⟩,fun e=>absurd rfl e⟩
 ·exact⟨h.cQ ht (hn h0),fun _ x hx hs=>hn h0 x hx (ht.bA _ (h.lt h0 hx) hs)⟩
theorem Gq.cQ{b:Nat}{B}(h:Gq w S b n B)(ht:au S S' w w')(hb:b<w.heap.size):Gq w' S' b n B:=by refine⟨fun hs=>h.1 (ht.bA b hb hs),fun k hk=>?_⟩;obtain⟨ab,capb,h1,h2,h3⟩:=h.2 k hk;obtain⟨h4,h5⟩:=h2.turns h3 ht;exact⟨ab,capb,(qAJ (a:=⟨b,k,none⟩) (ht.block b hb h.1)).trans h1,h4,h5⟩
section
variable {w0 w:World} {p:Nat} {S:Nat->Prop} {D:DS}
theorem qC F g b n cap B(f:Nat->Int)(h:Live w0 w p S D)(hb:Gq w S b n B)(fC:b<w.heap.size)(hn:n<=300)(hnc:n<=cap)(hF:∀args w',(callFunc F args).run prog w'=.ok (.enter F args) w')(hf:∀w' S',au S S' w w'->∀k:Nat,k<n->zC F #[zi k,zq g] w' fun e w''=>e=.returned (zi (f k))/\w'=w'') :
  zC 115 #[zq p,.slice (zo b) n cap,.func (.func F) #[] #[zq g]] w fun e w' =>e=.returned (bc (di (iY (D,0) (fun i=>(f i,B i)) n)).2)/\∃S',Live w0 w' p S' (di (iY (D,0) (fun i=>(f i,B i)) n)).1/\au S S' w w':=by
 exact eB
theorem MI F b n cap B(f:Nat->Int)(h:Live w0 w p S D)(hb:Gq w S b n B)(fC:b<w.heap.size)(hn:n<=300)(hnc:n<=cap)(hF:∀args w',(callFunc F args).run prog w'=.ok (.enter F args) w')(hf:∀w' S',au S S' w w'->∀k:Nat,k<n->zC F #[zi k] w' fun e w''=>e=.returned (zi (f k))/\w'=w'') :
  zC 115 #[zq p,.slice (zo b) n cap,.func (.func F) #[] #[]] w fun e w' =>e=.returned (bc (di (iY (D,0) (fun i=>(f i,B i)) n)).2)/\∃S',Live w0 w' p S' (di (iY (D,0) (fun i=>(f i,B i)) n)).1/\au S S' w w':=by
 exact eB
end
section
open Go.MapKept
open Go.ChangeMaps
open Go.Maps (Keyed)
def qz(w:World)(S:Nat->Prop)(a:OA)(cap:Nat)(l:List (Int×LI)):Prop :=
 l.length<=cap/\l.length<=140737488351232/\(l≠[]->∃b off,a=some ⟨b,off,none⟩/\¬S b/\∀i,i<l.length->w.cell? ⟨b,off+i*2,none⟩=some (zi (l.getD i (0,[])).1) /\
  ∃ab capb,w.cell? ⟨b,off+(i*2+1),none⟩=some (.slice ab (l.getD i (0,[])).2.length capb)/\Bs w ab capb (l.getD i (0,[])).2/\((l.getD i (0,[])).2≠[]->∀x,ab=some x->¬S x.block)/\-9223372036854775808<=(l.getD i (0,[])).1/\(l.getD i (0,[])).1<=9223372036854775807)
def U3(w:World)(m k:Nat)(l:List (Int×LI)):Prop :=∃Dm:DataW Unit,w.ownsMap prog 3 (plainElem prog 3) m k Dm/\∀z:Int,Maps.has Dm (.int .i64 z)=(List.range k).any (fun j=>(l.getD j (0,[])).1 == z)
theorem U3.made(w:World) l:U3 (w.alloc (.map #[] 0)) w.heap.size 0 l:=⟨.map [],World.ownsMap_made w _ _ _,fun z=>rfl⟩
theorem U3.lt(h:U3 w m k l):m<w.heap.size:=zfq
theorem U3.same(h:U3 w m k l)(hs:w'.heap[m]?=w.heap[m]?):U3 w' m k l:=zhC
theorem zaJ w:(zeroValue 3).run prog w=.ok (zi 0) w:=by obtain⟨i0,dU,cO,cU,cV⟩:=qAO vJ;simp[zeroValue,typeInfo,dU,cO]
theorem U3.look(h:U3 w m k l) z(hz:-9223372036854775808<=z/\z<=9223372036854775807) :
  ∃v,(Instr.lookup 301 (.map (some m)) (zi z) true).run prog w=.ok (.tuple #[zi v,.bool ((List.range k).any (fun j=>(l.getD j (0,[])).1 == z))]) w:=by
 obtain⟨Dm,h1,h2⟩:=h;have hwf:=qBo hz;have gL:=Maps.keyOf_int_mk (P:=prog) underlying3 hwf;obtain⟨v,ps,cF,hv⟩:=h1.look_ok (Maps.int_keyed underlying3) underlying301 (zaJ w) (plainElem_int underlying3 (a:=0) Si) gL;exact zmY
theorem U3.store(h:U3 w m k l)(hk:k<=300)(hz:-9223372036854775808<=(l.getD k (0,[])).1/\(l.getD k (0,[])).1<=9223372036854775807) :
  ∃w',(Instr.mapUpdate 301 (.map (some m)) (zi (l.getD k (0,[])).1) (zi k)).run prog w=.ok () w'/\U3 w' m (k+1) l/\w.mapTurned w' m:=by
 obtain⟨Dm,h1,h2⟩:=h;have hwf:=qBo hz;have gL:=Maps.keyOf_int_mk (P:=prog) underlying3 hwf;obtain⟨w',cF,jy,ht⟩:=h1.store (Maps.int_keyed underlying3) underlying301 Ts gL (plainElem_int underlying3 (a:=(k:Int)) (qBo Sg));have sr:=(Maps.int_keyed underlying3).key gL;refine⟨w',cF,⟨_,jy,fun z=>?_⟩,ht⟩;rw[qBl,qCR];by_cases hj:z=(l.getD k (0,[])).1
 ·subst hj;exact ziF
 ·have aG:Lit.int .i64 z≠Lit.int .i64 (l.getD k (0,[])).1:=by intro e;simp only[qCC,qBL]at e;exact hj e
  rw[Maps.has_put_other aG,h2 z];have e0:((l.getD k (0,[])).1 == z)=false:=by rw[qAU];exact fun e=>hj e.symm
  rw[List.any_cons,List.any_nil,e0,qCM,qCM]
theorem BZ{L}(h:chkK L l k≠0):∀m,k<=m->chkK L l m=chkK L l k
 | 0,hm=>by rw[show k=0 by omega]
 | m+1,hm=>by
  by_cases e:k=m+1
  ·rw[e]
  ·show(if chkK L l m=0 then _ else _)=_
   rw[BZ h m Sg,zn h]
section
variable {w:World} {p q:Nat} {S:Nat->Prop} {D:DS} {s:Int}
theorem UM(hq:eE w q p s) a n cap(hn:23<n)(hm:n<=140737488351232) :
  zC 246 #[zq q,.slice a n cap] w (zr (bc 4) fun w'=>w=w'):=by
 go_enter func246,ntmps246
 exact Tt
theorem UK(h:td w p S D)(hq:eE w q p s) b off cap l(hl:qz w S (some ⟨b,off,none⟩) cap l)(aG:l≠[])(hn:l.length<=23) :
  zC 246 #[zq q,.slice (some ⟨b,off,none⟩) l.length cap] w (zr (bc (chkK (eo D.secs.length) l l.length)) fun w'=>zB w w'):=by
 obtain⟨jC,gS,l7⟩:=hl;obtain⟨b',off',e',hSb,bf⟩:=l7 aG;simp only[qAQ,qBI,qBj]at e';obtain⟨rfl,rfl⟩:=e';have Jg:=@run_makeMap prog;generalize hL:eo D.secs.length=L at*;have H:=ae h;have HQ:=ae hq;have HC:=ae bf;have HL:=ae hL;clear h hq bf l7 hL aG;generalize hN:l.length=N at*;have HN:=ae hN;clear hN;go_enter func246,ntmps246
 go_wp2_with fail
 go_loopw [17] (fun v wr=>∃k:Nat,k<=N/\v=zi k/\U3 wr w.heap.size k l/\zB w wr/\chkK L l k=0) (fun v _=>N-(intOf v).toNat)
 case atStart=>exact⟨0,qAH _,rfl,U3.made w l,zBr.alloc zNr _,rfl⟩
 case round =>
  obtain⟨k,hk,rfl,zkt,ai,hz⟩:=hrel;by_cases aB:k<N
  ·obtain⟨c0,ab,capb,c1,aH,_,Lm,ui⟩:=HC k aB;rw[<-ai.cell (qAA c0)]at c0;rw[<-ai.cell (qAA c1)]at c1;rw[<-qBq]at c1;have Ju:=aH.2.2.1;have ay:zB w (wr.alloc (.cells #[zi (l.getD k (0,[])).1,.slice ab (l.getD k (0,[])).2.length capb] 82)):=ai.alloc ai.size _;have TX:U3 (wr.alloc (.cells #[zi (l.getD k (0,[])).1,.slice ab (l.getD k (0,[])).2.length capb] 82)) w.heap.size k l:=zkt.same (qAb _ _ zkt.lt);have iR:=EC (H.same ay.size (fun j hj=>ay.block j (H.lt j hj))) (HQ.same (ay.block q HQ.lt)) (l.getD k (0,[])).1;obtain⟨v,cN⟩:=TX.look (l.getD k (0,[])).1 ⟨Lm,ui⟩;obtain⟨w2,eF,Zv,kx⟩:=TX.store Sg ⟨Lm,ui⟩;have oJ:zB w w2:=ay.grown kx.grown ay.size (fun j hj=>XW);have yK:chkK L l (k+1)=ik L l k:=by show(if chkK L l k=0 then _ else _)=_;rw[zy hz]
   have vN:ik L l k≠0->chkK L l N=ik L l k:=fun hp=>by rw[BZ (k:=k+1) (by rw[yK];exact hp) N Sg,yK]
   unfold ik at yK vN;unfold ZO at iR;rw[aa HL]at iR;have HH:=ae iR;have Gg:=ae Zv;have bz:=ae oJ;have aQ:=ae ay;have Vd:=ae yK;have U8:=ae vN;clear iR Zv TX oJ ay kx ai zkt hz aH yK vN;generalize (l.getD k (0,[])).1=z at*;generalize (l.getD k (0,[])).2.length=bl at*;generalize (List.range k).any (fun j=>(l.getD j (0,[])).1 == z)=A at*;by_cases eT:z<0\/L<=z
   ·rw[qAG Sg]at HH;have HE:=ae (by have:=aa U8;rw[zy eT]at this;exact this Si);exact FG
   ·rw[qAE Sg]at HH;have yV:=U8;have xK:=Vd;rw[zn eT]at yV xK;by_cases lI:bl≠32
    ·have HE:=ae (by have:=aa yV;rw[zy lI]at this;exact this Si);exact FG
    ·rw[zn lI]at yV xK;obtain rfl:bl=32:=by omega
     cases A
     ·have HE:=ae (by have:=aa xK;rw[zn Si]at this;exact this);go_wp2_with fail
      refine HH.m ?_;rintro w1 rfl;go_wp2;go_roundw
      case rel=>exact⟨k+1,Sg,Tc,Gg,bz,HE⟩
      case measure=>exact Te
     ·have HE:=ae (by have:=aa yV;rw[zy rfl]at this;exact this Si);exact FG
  ·obtain rfl:k=N:=by omega
   go_wp2;go_ret;exact⟨by rw[hz];rfl,ai⟩
end
end
section
variable {w:World} {p q:Nat} {S:Nat->Prop} {D:DS} {s:Int}
theorem JQ a cap :
  zC 246 #[zq q,.slice a 0 cap] w (zr (bc 0) fun w'=>zB w w'):=by
 have Jg:=@run_makeMap prog;go_enter func246,ntmps246
 go_wp2_with fail
 go_loop [17] (fun v=>v=zi 0) (fun _=>0)
 case atStart=>rfl
 case round =>subst hrel;exact zdm
theorem ED(h:td w p S D)(hq:eE w q p s) a cap l(hl:qz w S a cap l) :
  zC 246 #[zq q,.slice a l.length cap] w (zr (bc (cH (eo D.secs.length) l)) fun w'=>zB w w'):=by
 unfold cH;by_cases h1:23<l.length
 ·rw[zy h1];exact(UM hq a l.length cap h1 hl.2.1).mono fun e w' ⟨he,hw⟩=>⟨he,Xd⟩
 ·rw[zn h1];by_cases h0:l=[]
  ·subst h0;exact JQ a cap
  ·obtain⟨b,off,rfl,_⟩:=hl.2.2 h0;exact UK h hq b off cap l hl h0 Sg
def zeH(w:World)(b off i:Nat):Value:=(w.cell? ⟨b,off+(i*2+1),none⟩).getD undef
theorem Yz v n c:∀u∈[Value.slice v n c],u.oneCell'=true:=zm1
theorem rU(h:w.ownsRow base e size v n xs):∀k,v.ownBlock=some k->base<=k:=by exact MX
theorem IP{base' e' size':Nat}{v':Value}{n':Nat}{xs':List Value}(h:w.ownsRow base e size v n xs)(h':w.ownsRow base' e' size' v' n' xs')(he:e≠e'):∀g,v.ownBlock=some g->v'.ownBlock≠some g:=by intro g hg oH;obtain⟨cur,h1⟩:=br h hg;obtain⟨cur',h2⟩:=br h' oH;rw[h1]at h2;simp at h2;exact he h2.2
theorem zJ{row}(h:w.ownsRow base e size v n xs)(hg:w.grownBy w' row)(hn:∀g,v.ownBlock=some g->row≠some g):w'.ownsRow base e size v n xs :=bJ h (fun g oH=>hg.block g (by obtain⟨cur,h1⟩:=br h oH;exact(zAg h1).1) (fun e=>hn g oH e.symm))
theorem KR(h:w.ownsRow base e size v n xs):∀g,v.ownBlock=some g->g<w.heap.size:=by intro g hg;obtain⟨cur,h1⟩:=br h hg;exact(zAg h1).1
theorem xx(w:World) x(t:TypeId):∀j u,([x]:List Value)[j]?=some u->(w.alloc (.cells #[x] t)).cell? (Addr.add (zp w.heap.size) j)=some u:=by
 intro j u hj;cases j with
 | zero =>simp at hj;subst hj;rw[addr_add,qAD _ _ _ _ _ (0,0) (qAB w _)];rfl
 | succ j=>simp at hj
def Tk(l:List (Int×LI))(k:Nat):List Value:=(List.range k).map (fun i=>zi (l.getD i (0,[])).1)
def CJ(w:World)(b off k:Nat):List Value:=(List.range k).map (zeH w b off)
theorem YC l k:Tk l (k+1)=Tk l k++[zi (l.getD k (0,[])).1]:=by simp[Tk,qBl]
theorem US w b off k:CJ w b off (k+1)=CJ w b off k++[zeH w b off k]:=by simp[CJ,qBl]
theorem Yu b off cap l(hl:qz w S (some ⟨b,off,none⟩) cap l)(aG:l≠[])(hn:l.length<=23) :
  zC 248 #[.slice (some ⟨b,off,none⟩) l.length cap] w fun e w'=>∃nv bv,e=zt #[nv,bv]/\w'.ownsRow w.heap.size 3 1 nv l.length (Tk l l.length)/\w'.ownsRow w.heap.size 29 1 bv l.length (CJ w b off l.length)/\zB w w':=by
 obtain⟨jC,gS,l7⟩:=hl;obtain⟨b',off',e',hSb,bf⟩:=l7 aG;simp only[qAQ,qBI,qBj]at e';obtain⟨rfl,rfl⟩:=e';have HC:=ae bf;generalize hN:l.length=N at*;have HN:=ae hN;obtain⟨i0,dU,cO,cU,cV⟩:=qAO vJ;obtain⟨i1,hi1,hy0,Zm,hy2⟩:=qAO E8;go_enter func248,ntmps248
 go_wp2_with fail
 go_loopw [2,3,8] (fun nv bv v wr=>∃k:Nat,k<=N/\v=zi k/\wr.ownsRow w.heap.size 3 1 nv k (Tk l k)/\wr.ownsRow w.heap.size 29 1 bv k (CJ w b off k)/\zB w wr) (fun _ _ v _=>N-(intOf v).toNat)
 case atStart=>exact⟨0,qAH _,rfl,qBp _ _ _ _,qBp _ _ _ _,zBr⟩
 case round =>
  obtain⟨k,hk,rfl,hnv,hbv,ai⟩:=hrel;by_cases aB:k<N
  ·obtain⟨c0,ab,capb,c1,aH,_,Lm,ui⟩:=HC k aB;have hV:zeH w b off k=.slice ab (l.getD k (0,[])).2.length capb:=by unfold zeH;rw[c1];rfl
   rw[<-ai.cell (qAA c0)]at c0;rw[<-ai.cell (qAA c1)]at c1;rw[<-qBq]at c1;have Ju:=aH.2.2.1;have bW:=ai.size;have B7:=ae (qBP (qBP hnv (.cells #[zi (l.getD k (0,[])).1,.slice ab (l.getD k (0,[])).2.length capb] 82)) (.cells #[zi (l.getD k (0,[])).1] 3));have oj:=ae (qBP (qBP hbv (.cells #[zi (l.getD k (0,[])).1,.slice ab (l.getD k (0,[])).2.length capb] 82)) (.cells #[zi (l.getD k (0,[])).1] 3));have aQ:=ae ((ai.alloc bW (.cells #[zi (l.getD k (0,[])).1,.slice ab (l.getD k (0,[])).2.length capb] 82)).alloc Tb (.cells #[zi (l.getD k (0,[])).1] 3));have GD:=ae (rU hnv);have zrp:=ae (rU hbv);have HAP:=ae (IP hnv hbv Si);have HNS:=ae (YC l k);have qp:=ae (US w b off k);rw[hV]at qp;have U8:=ae (KR hnv);have HPG:=ae (fun o=>qAB wr o);generalize (l.getD k (0,[])).1=z,(l.getD k (0,[])).2.length=bl at*;go_wp2_with (at_builtin;refine wpList_append_own_at _ rfl _ _ 88 rfl w.heap.size 3 i0 (zi 0) 1 8 underlying88 dU cO cU cV rfl Si _ _ _ rfl B7 ⟨wr.heap.size+1,0,none⟩ 1 1 [zi z] rfl rfl (rB _ _ _ _) (KT _) Ts Sg Tb ?_)
   intro v9 w9 aU l8 _ _;rw[<-aa HNS]at aU;have sl:w9.heap[wr.heap.size]?=some (.cells #[zi z,.slice ab bl capb] 82 (0,0)):=by rw[l8.block wr.heap.size Tb (fun e=>by have:=U8 wr.heap.size e.symm;omega),qAb _ _ Sk,qAB]
   have c3:w9.cell? (zw wr.heap.size 1)=some (.slice ab bl capb):=by rw[qAD w9 _ 1 _ _ (0,0) sl];rfl
   have ji:=aQ.grown l8 Tb GD;have kE:=ae (ji.alloc ji.size (.cells #[.slice ab bl capb] 29));have znj:=ji.size;have yb:=ae (qBP aU (.cells #[.slice ab bl capb] 29));have zkU:=zJ oj l8 (fun g hg e=>HAP g e hg);have zo8:=ae (IP zkU aU Si);have oE:=ae (qBP zkU (.cells #[.slice ab bl capb] 29));go_wp2_with (at_builtin;refine wpList_append_own_at _ rfl _ _ 56 rfl w.heap.size 29 i1 (.slice none 0 0) 1 24 underlying56 hi1 hy0 Zm hy2 rfl Si _ _ _ rfl oE (zp w9.heap.size) 1 1 [.slice ab bl capb] rfl rfl (xx _ _ _) (Yz _ _ _) Ts Sg Tb ?_)
   intro v10 w10 TY Lu _ _;rw[<-aa qp]at TY;have H6:=ae (kE.grown Lu Tb zrp);have zfd:=ae (zJ yb Lu (fun g hg e=>zo8 g e hg));have U7:=ae TY;go_wp2;go_roundw
   case rel=>exact⟨k+1,Sg,Tc,zfd,U7,H6⟩
   case measure=>exact Te
  ·obtain rfl:k=N:=by omega
   go_wp2;go_ret2;exact⟨_,_,rfl,hnv,hbv,ai⟩
end
def QM(w:World)(v:Value)(l:LI):Prop:=bZ l/\∃a cap,v=.slice a l.length cap/\(l≠[]->∃g,a=some (zp g)/\∀i,i<l.length->w.cell? (zw g i)=some (zi (l.getD i 0)))
theorem QM.nil w:QM w (.slice none 0 0) []:=⟨fun z hz=>Vt,none,0,rfl,fun h=>absurd rfl h⟩
def fq(l:LI)(k:Nat):LI:=(l.length:Int)::l.take k
theorem ER{l}(h:k<l.length):fq l (k+1)=fq l k++[l.getD k 0]:=by unfold fq;rw[qAx h];simp[List.getD,h]
theorem Oi{B g}{x}(hB:B<=g)(h:w.heap[g]?=some (.cells #[.int .u8 x] 5 (0,0))):cW w B (.slice (zo g) 1 1) [x] :=⟨rfl,.inr ⟨g,1,#[.int .u8 x],rfl,hB,h,zNr,Si,rfl,rfl⟩⟩
section
variable {w:World}
theorem Eh t nv l(hn:QM w nv l)(hl:l.length<=23)(mS:¬t<1)(gw:¬4294967295<t) :
  zC 114 #[.agg #[zi t,nv]] w fun e w'=>∃g,e=zt #[.slice (zo g) 32 32,.nilIface]/\w.heap.size<=g/\gz w' g (cD t (fq l l.length))/\zB w w':=by
 obtain⟨jm,a,cap,rfl,bf⟩:=hn;have HC:=ae bf;have iE:=ae jm;have HM:=ae (fun w1 a1 c1 h=>by have:=OP t a1 c1 (fq l l.length) w1 h mS gw (by simp[fq];omega);rwa[show(fq l l.length).length=l.length+1 by simp[fq]]at this);generalize cD t (fq l l.length)=Z at*;obtain⟨i0,dU,cO,cU,cV⟩:=qAO dw;go_enter func114,ntmps114
 go_wp2_with fail
 obtain⟨w1,fM⟩:∃w1,w1=w.alloc (.cells #[zi t,.slice a l.length cap] 205):=⟨_,rfl⟩;have fQ:w1.heap.size=w.heap.size+1:=by rw[fM];simp
 have ay:zB w w1:=by rw[fM];exact zBr.alloc zNr _
 have BJ:w1.heap[w.heap.size]?=some (.cells #[zi t,.slice a l.length cap] 205 (0,0)):=by rw[fM];exact qAB _ _
 rw[<-fM];have sN:=ae fQ;have aQ:=ae ay;have ME:=ae BJ;go_loopw [4,15] (fun bv v wr=>∃k:Nat,k<=l.length/\v=zi k/\cW wr (w.heap.size+1) bv (fq l k)/\Below (w.heap.size+1) w1 wr) (fun _ v _=>l.length-(intOf v).toNat)
 case atStart =>
  refine⟨0,qAH _,rfl,?_,?_⟩
  ·refine Oi zNr ?_;rw[<-aa sN];exact qAB _ _
  ·rw[<-aa sN];exact zBr.alloc zNr _
 case round =>
  obtain⟨k,hk,rfl,az,ai⟩:=hrel;have hm:=(ai.block w.heap.size Sg).trans ME;have bW:=ai.size;rw[aa sN]at bW;by_cases aB:k<l.length
  ·obtain⟨g,rfl,hc⟩:=HC (by intro e;rw[e]at aB;cases aB);have vP:=hc k aB;have xG:=qAA vP;rw[<-aQ.cell xG,<- (ai.mono (by omega:w.heap.size<=w.heap.size+1)).cell (qAL xG (by have:=aa sN;omega))]at vP;obtain⟨z0,z1⟩:=iE.getD k;have HSU:=ae (ER aB);unfold cW at az;rw[show(fq l k).length=k+1 by simp[fq];omega]at az;have HO:=ae (qBP az (.cells #[.int .u8 (l.getD k 0)] 5));have bz:=ae (ai.alloc bW (.cells #[.int .u8 (l.getD k 0)] 5));have GD:=ae (rU az);generalize l.getD k 0=z at*;go_wp2_with (at_builtin;refine wpList_append_own_at _ rfl _ _ 29 rfl (w.heap.size+1) 5 i0 (.int .u8 0) 1 1 underlying29 dU cO cU cV rfl Si _ _ _ rfl HO (zp wr.heap.size) 1 1 [.int .u8 z] rfl rfl (xx _ _ _) (ed [z]) Ts Sg Tb ?_)
   intro v9 w9 aU l8 _ _;have pO:Hid (cW w9 (w.heap.size+1) v9 (fq l (k+1))):=ae (by unfold cW;rw[aa HSU,qAc];rw[show(fq l k++[z]).length=k+1+1 by simp[fq];omega];exact aU);have kE:=ae (bz.grown l8 Tb GD);clear aU l8 HO bz GD HSU;exact nd
  ·obtain rfl:k=l.length:=by omega
   have jm:bZ (fq l l.length):=by
    intro z hz;unfold fq at hz;rcases zMc hz with rfl|hz
    ·omega
    ·exact iE z (qAj hz)
   have ziB:(fq l l.length).length=l.length+1:=by simp[fq]
   obtain⟨a1,c1,rfl,aH⟩:=az.bs jm Sg;have tN:=HM wr a1 c1 aH;rw[ziB];have c0:wr.cell? (zp w.heap.size)=some (zi t):=ziU;have W8:=ae tN;have aJ:=ae (aQ.trans (ai.mono (by omega:w.heap.size<=w.heap.size+1)));clear tN aH az ai hm HM jm ziB;go_wp2_with fail
   refine W8.mono ?_;rintro e w2 ⟨g2,rfl,um,h2,h3⟩;go_wp2;go_ret2;exact⟨g2,rfl,qAF aJ.size um,h2,zTs aJ h3⟩
end
def plus(S:Nat->Prop)(q:Nat):Nat->Prop:=fun k=>S k\/k=q
theorem au.plus(h:au S S' w w') q:au (plus S q) (plus S' q) w w' :=
 ⟨h.os,h.tape,h.output,h.size,fun k hk hn=>h.block k hk (fun hs=>hn (.inl hs)),fun k hk hs=>by
  rcases hs with hs|hs
  ·exact .inl (h.bA k hk hs)
  ·exact .inr hs⟩
theorem zbx:cD 2 [0]=cD 2 []:=Si
theorem zfw x f:iY x f 1=dq x (f 0).1 (f 0).2:=rfl
theorem zfv x f:iY x f 2=dq (dq x (f 0).1 (f 0).2) (f 1).1 (f 1).2:=rfl
def PZ(i:Nat):LI:=if i=0 then cD 2 []else af 32
section
variable {w0 w:World} {p:Nat} {S:Nat->Prop} {D:DS}
theorem Fx(h:Live w0 w p S D)(hc:¬eo D.secs.length<1) :
  zC 72 #[zq p] w fun e w'=>∃v S',e=zt #[v,bc (bG D).2]/\Live w0 w' p S' (bG D).1/\au S S' w w' /\
   ((bG D).2=0->∃q,v=zq q/\eE w' q p 2/\w.heap.size<=q/\¬S' q)/\((bG D).2≠0->v=.pointer none):=by
 have HC:=ae (mZ h.dev);have fI:=Eh 2 (.slice none 0 0) [] (QM.nil w) Si Si Si;have hmo:cD 2 (fq [] ([]:LI).length)=cD 2 []:=zbx;rw[hmo]at fI;have QO:=ae fI;have H:=ae h;obtain⟨i0,dU,cO,cU,cV⟩:=qAO dw;generalize eo D.secs.length=L at*;clear h fI hmo;generalize hX:bG D=X;have HX:=ae hX;go_enter func72,ntmps72
 go_wp2_with fail
 refine HC.m ?_;rintro w1 rfl;go_wp2_with fail
 refine QO.mono ?_;rintro e w1 ⟨g1,rfl,Mu,ay,Jv⟩;have aQ:=ae ay;have zfk:=ae Jv;go_wp2_with (at_make;refine bV rfl _ _ 29 rfl i0 underlying29 dU cO cU cV _ _ _ _ 32 rfl rfl rfl rfl Sg ?_)
 intro w2 fR gN oJ;have fM:w.heap.size<=w1.heap.size:=zfk.size;have zdJ:zB w (w2.alloc (.cells #[.slice (zo g1) 32 32,.slice (some (zp w1.heap.size)) 32 32] 29)):=(zfk.trans (oJ.mono fM)).alloc Sg _;have hlA:=H.below zdJ;have bK:=qAB w2 (.cells #[.slice (zo g1) 32 32,.slice (some (zp w1.heap.size)) 32 32] 29);have PD:Gq (w2.alloc (.cells #[.slice (zo g1) 32 32,.slice (some (zp w1.heap.size)) 32 32] 29)) S (w1.heap.size+1) 2 PZ:=by
  rw[gN]at bK;refine⟨fun hs=>by have:=H.dev.lt _ hs;omega,fun k hk=>?_⟩;have zql:k=0\/k=1:=Sg;rcases zql with rfl|rfl
  ·refine⟨some (zp g1),32,?_,?_,fun _ x hx hs=>?_⟩
   ·rw[qAD _ _ _ _ _ _ bK,show PZ 0=cD 2 []from rfl,wO.1];rfl
   ·rw[show PZ 0=cD 2 []from rfl];exact(rC (aQ.below oJ) wO).below (zBr.alloc zNr _)
   ·exact zpD
  ·refine⟨some (zp w1.heap.size),32,?_,?_,fun _ x hx hs=>?_⟩
   ·rw[qAD _ _ _ _ _ _ bK,show PZ 1=af 32 from rfl,ag];rfl
   ·rw[show PZ 1=af 32 from rfl];exact(rC fR mF).below (zBr.alloc zNr _)
   ·exact zpD
 have ku:=MI 116 (w1.heap.size+1) 2 2 PZ (fun i=>(i:Int)) hlA PD (by rw[size_alloc];omega) Si Si call116 (fun w' S' ht k hk=>PW k w');rw[zfv]at ku;have cF:di (dq (dq (D,0) ((0:Nat):Int) (PZ 0)) ((1:Nat):Int) (PZ 1))=bG D:=rfl;rw[cF,aa HX]at ku;have rE:=ae ku;have zi0:=ae zdJ;clear ku PD bK hlA zdJ cF aQ zfk fR oJ;go_wp2_with fail
 refine rE.m ?_;rintro w3 ⟨S3,l7,rp⟩;have Gk:=ae l7;have MD:=ae ((au.aI (S:=S) zi0).trans rp);clear l7 rp rE zi0;by_cases hE:X.2=0
 ·rw[hE,aC];go_wp2;go_ret2;have hq:=qAB w3 (.cells #[zq p,zi 2] 210);refine⟨_,S3,by rw[hE];rfl,Gk.below (zBr.alloc zNr _),MD.trans (au.alloc S3 _ _),fun _=>⟨w3.heap.size,rfl,hq,MD.size,fun hs=>?_⟩,fun h=>absurd hE h⟩;have:=Gk.dev.lt _ hs;omega
 ·rw[aF _ hE];go_wp2;go_ret2;exact⟨_,S3,by rw[aF _ hE];rfl,Gk,MD,fun h=>absurd h hE,fun _=>rfl⟩
end
theorem qz.cQ(h:qz w S a cap l)(ht:au S S' w w'):qz w' S' a cap l:=by obtain⟨h1,h2,h3⟩:=h;refine⟨h1,h2,fun aG=>?_⟩;obtain⟨b,off,h4,h5,h6⟩:=h3 aG;have ew:=qBE.2 aG;have aB:=qAA (h6 0 ew).1;refine⟨b,off,h4,fun hs=>h5 (ht.bA b aB hs),fun i hi=>?_⟩;obtain⟨c0,ab,capb,c1,aH,hn,hr⟩:=h6 i hi;obtain⟨q1,q2⟩:=aH.turns hn ht;exact⟨(qAJ (a:=⟨b,off+i*2,none⟩) (ht.block b aB h5)).trans c0,ab,capb,(qAJ (a:=⟨b,off+(i*2+1),none⟩) (ht.block b aB h5)).trans c1,q1,q2,hr⟩
theorem qz.below(h:qz w S a cap l)(hb:zB w w'):qz w' S a cap l:=h.cQ (au.aI hb)
theorem Br(h:w.ownsRow base e 1 v n xs)(hn:0<n):∃g cap,v=.slice (zo g) n cap/\base<=g/\n<=cap/\g<w.heap.size/\∀i,i<n->w.cell? (zw g i)=xs[i]?:=by
 rcases h.2 with ⟨_,h0⟩|⟨g,cap,cur,rfl,hB,hc,h3,h4,h5,h6⟩
 ·omega
 ·refine⟨g,cap,rfl,hB,h3,(zAg hc).1,fun i hi=>?_⟩;rw[qAD _ _ _ _ _ _ hc,<-h6,qAi,zy Sg];simp
structure Kit (w:World) (S:Nat->Prop) (q p:Nat) (s:Int) (m:Nat) (t:Int) (nv:Value) (gn n:Nat) (num:Nat->Int) (gb:Nat) (B:Nat->LI) (gs:Nat) (X:LI) (sb:Nat) (sd:Int):Prop where
 pg:eE w q p s
 npg:¬S q
 mrk:w.heap[m]?=some (.cells #[zi t,nv] 205 (0,0))
 nm:¬S m
 cz:∀i,i<n->w.cell? (zw gn i)=some (zi (num i))
 nn:¬S gn
 ln:gn<w.heap.size
 zlx:Gq w S gb n B
 lb:gb<w.heap.size
 sec:gz w gs X
 ns:¬S gs
 sid:w.cell? (zp sb)=some (zi sd)
 nsb:¬S sb
section
variable {w w':World} {S S':Nat->Prop} {q p:Nat} {s:Int} {m:Nat} {t:Int} {nv:Value} {gn n:Nat} {num:Nat->Int} {gb:Nat} {B:Nat->LI} {gs:Nat} {X:LI} {sb:Nat} {sd:Int}
theorem Kit.cQ(h:Kit w S q p s m t nv gn n num gb B gs X sb sd)(ht:au S S' w w'):Kit w' S' q p s m t nv gn n num gb B gs X sb sd:=by have lm:=(zAg h.mrk).1;have lsb:=qAA h.sid;exact⟨(h.pg.cQ ht h.npg).1,(h.pg.cQ ht h.npg).2,(ht.block m lm h.nm).trans h.mrk,fun hs=>h.nm (ht.bA m lm hs),fun i hi=>(qAJ (a:=⟨gn,i,none⟩) (ht.block gn h.ln h.nn)).trans (h.cz i hi),fun hs=>h.nn (ht.bA gn h.ln hs),qAL h.ln ht.size,h.zlx.cQ ht h.lb,qAL h.lb ht.size,h.sec.same (ht.block gs h.sec.lt h.ns),fun hs=>h.ns (ht.bA gs h.sec.lt hs),(qAJ (a:=(zp sb)) (ht.block sb lsb h.nsb)).trans h.sid,fun hs=>h.nsb (ht.bA sb lsb hs)⟩
theorem Kit.below(h:Kit w S q p s m t nv gn n num gb B gs X sb sd)(hb:zB w w'):Kit w' S q p s m t nv gn n num gb B gs X sb sd:=h.cQ (au.aI hb)
theorem Kit.m0(h:Kit w S q p s m t nv gn n num gb B gs X sb sd):w.cell? (zp m)=some (zi t):=by rw[qAD _ _ _ _ _ _ h.mrk];rfl
end
section
variable {w0 w:World} {p q:Nat} {S:Nat->Prop} {D:DS} {s:Int}
theorem UG(h:Live w0 w p S D)(hq:eE w q p s) a cap l(hl:qz w S a cap l)(he:cH (eo D.secs.length) l≠0) :
  zC 204 #[zq q,.slice a l.length cap] w (zr (bc (cH (eo D.secs.length) l)) fun w'=>zB w w'):=by
 have HC:=ae (ED h.dev hq a cap l hl);generalize cH (eo D.secs.length) l=E,l.length=N at*;rw[aF _ he]at*;go_enter func204,ntmps204
 go_wp2_with fail
 refine HC.m ?_;intro w1 hb;go_wp2;go_ret;exact⟨rfl,hb⟩
theorem Qk(h:Live w0 w p S D)(hq:eE w q p s) a cap :
  zC 204 #[zq q,.slice a 0 cap] w (zr (bc (if D.down then 9 else 0)) fun w'=>zB w w'):=by
 have HC:=ae (JQ (w:=w) (q:=q) a cap);rw[aC]at HC;have HP:Hid (∀w1,zB w w1->zC 247 #[zq q] w1 (zr (bc (if D.down then 9 else 0)) fun w'=>w1=w')):=ae (fun w1 hb=>Ys (h.below hb).dev (hq.below hb));generalize (if D.down=true then (9:Int)else 0)=E at*;go_enter func204,ntmps204
 go_wp2_with fail
 refine HC.m ?_;intro w1 hb;have HB:=ae hb;have nh:=ae (HP w1 hb);go_wp2_with fail
 refine nh.m ?_;rintro w2 rfl;exact zma
end
theorem C8(hv:cH L l=0)(hl:l≠[])(hL:48<=D.secs.length)(h0:0<=s)(h1:s<4294967295){X1 X2 X3}(e1:X1=di (iY (D,0) (fun i=>(2+23*((s+1)%2)+i,(l.getD i (0,[])).2)) l.length))(e2:X2=di (iY (X1.1,0) (fun i=>((s+1)%2,cD (s+1) (bM l))) 1))(e3:X3=di (iY (X2.1,0) (fun i=>(48+(l.getD i (0,[])).1,(l.getD i (0,[])).2)) l.length)) :
  (X1.2≠0->aj D s L l=(X1.1,s,X1.2))/\(X1.2=0->X2.2≠0->aj D s L l=(X2.1,s,X2.2))/\(X1.2=0->X2.2=0->X3.2≠0->aj D s L l=(X3.1,s,X3.2))/\(X1.2=0->X2.2=0->X3.2=0->aj D s L l=(X3.1,s+1,0)):=by
 have oZ:=lO hv;have hm:dH (s+1) (bM l)=(cD (s+1) (bM l),0):=(lA oZ Sg Sg).1;have hA:bR D ((s+1)%2) l=X1:=e1.symm;have hB:X1.2=0->bE X1 ((s+1)%2) (s+1) l=X2:=fun hx=>by unfold bE;rw[zy hx,hm,zy rfl,e2,zfw,<-VL hx]
 have dr:X1.2≠0->bE X1 ((s+1)%2) (s+1) l=X1:=fun hx=>by unfold bE;rw[zn hx,eO hx]
 have hC:X2.2=0->iU X2 l=X3:=fun hx=>by unfold iU;rw[e3,<-VL hx]
 have hC2:∀X:DS×Int,X.2≠0->iU X l=X:=fun X hx=>by unfold iU;rw[A3 hx,eO hx]
 rw[xZ hv hl hL Sg];unfold aM;rw[hA];refine⟨fun hx=>?_,fun hx hy=>?_,fun hx hy hz=>?_,fun hx hy hz=>?_⟩
 ·rw[dr hx,hC2 _ hx,zn hx]
 ·rw[hB hx,hC2 _ hy,zn hy]
 ·rw[hB hx,hC hy,zn hz]
 ·rw[hB hx,hC hy,zy hz,hz]
theorem JS(hv:Valid L l)(hL:L<=200):bZ (bM l):=by
 intro z hz;unfold bM at hz;rcases zMc hz with rfl|hz
 ·have:=hv.len;omega
 ·obtain⟨x,hx,rfl⟩:=qAT.1 hz;obtain⟨j,hj,Cu⟩:=qAm hx;have:=hv.num j hj;exact PY
section
variable {w0 w:World} {p q:Nat} {S:Nat->Prop} {D:DS} {s:Int}
theorem zam(h:Live w0 w p S D)(hq:eE w q p s)(Rk:¬S q)(AT:w0.heap.size<=q) b off cap l(hl:qz w S (some ⟨b,off,none⟩) cap l)(hL:eo D.secs.length=L)(aG:l≠[])(he:cH L l=0)(h0:0<=s)(h1:s<4294967295) :
  zC 204 #[zq q,.slice (some ⟨b,off,none⟩) l.length cap] w (zr (bc (aj D s L l).2.2) fun w'=>∃S',Live w0 w' p S' (aj D s L l).1/\eE w' q p (aj D s L l).2.1/\¬S' q/\au (plus S q) (plus S' q) w w'):=by
 have oZ:=lO he;have hlen:=oZ.len;have ew:0<l.length:=qBE.2 aG;have zoj:48<=D.secs.length/\L<=200:=zkg;obtain⟨X1,e1⟩:∃X1,X1=di (iY (D,0) (fun i=>(2+23*((s+1)%2)+i,(l.getD i (0,[])).2)) l.length):=⟨_,rfl⟩;obtain⟨X2,e2⟩:∃X2,X2=di (iY (X1.1,0) (fun i=>((s+1)%2,cD (s+1) (bM l))) 1):=⟨_,rfl⟩;obtain⟨X3,e3⟩:∃X3,X3=di (iY (X2.1,0) (fun i=>(48+(l.getD i (0,[])).1,(l.getD i (0,[])).2)) l.length):=⟨_,rfl⟩;have Me:=ae (C8 he aG zoj.1 h0 h1 e1 e2 e3);generalize hR:aj D s L l=R at*;clear hR;have Hf:=ED h.dev hq (some ⟨b,off,none⟩) cap l hl;rw[hL,he,aC]at Hf;have HCK:=ae Hf;have HPT:Hid (∀w1,zB w w1->zC 248 #[.slice (some ⟨b,off,none⟩) l.length cap] w1 fun e w'=>∃nv bv,e=zt #[nv,bv]/\w'.ownsRow w1.heap.size 3 1 nv l.length (Tk l l.length)/\w'.ownsRow w1.heap.size 29 1 bv l.length (CJ w1 b off l.length)/\zB w1 w'):=ae (fun w1 hb=>Yu b off cap l (hl.below hb) aG hlen);have H:=ae h;have HQ:=ae hq;have HL:=ae hl;have zlK:=ae oZ;have E1:=ae e1;have E2:=ae e2;have E3:=ae e3;clear h hq hl oZ Hf hL e1 e2 e3;generalize hN:l.length=N at*;have HN:=ae hN;clear hN;go_enter func204,ntmps204
 go_wp2_with fail
 refine HCK.m ?_;intro w1 ay;have nh:=ae (HPT w1 ay);have aQ:=ae ay;clear ay HPT HCK;go_wp2_with fail
 refine nh.mono ?_;rintro e w2 ⟨nv,bv,rfl,hnv,hbv,aK⟩;obtain⟨gn,cn,rfl,hgn,hcn,zsg,hnc⟩:=Br hnv ew;obtain⟨gb,cb,rfl,Px,hcb,zsi,hbc⟩:=Br hbv ew;have hpq:=(HQ.below aQ).below aK;have c1:=hpq.c1;have fQ:=aQ.size;have gN:=aK.size;have HPQ:=ae hpq;have bz:=zTr aQ aK;have zo6:=ae aK;have HNC:=ae hnc;have HBC:=ae hbc;have Lk:s+1<=4294967295:=Sg;clear hnv hbv aK hpq hnc hbc nh;go_wp2_with fail
 have bD:zB w2 (w2.alloc (.cells #[zi (s+1),.slice (zo gn) N cn] 205)):=zBr.alloc zNr _;have Pr:=qAB w2 (.cells #[zi (s+1),.slice (zo gn) N cn] 205);have xF:(w2.alloc (.cells #[zi (s+1),.slice (zo gn) N cn] 205)).heap.size=w2.heap.size+1:=Sk;have l6:∀i,i<N->w2.cell? (zw gn i)=some (zi (l.getD i (0,[])).1):=fun i hi=>by rw[HNC i hi];simp[Tk,hi]
 generalize w2.alloc (.cells #[zi (s+1),.slice (zo gn) N cn] 205)=w3 at*;have Jf:QM w3 (.slice (zo gn) N cn) (l.map (·.1)):=by
  refine⟨fun z hz=>?_,some (zp gn),cn,by rw[zLm,aa HN],fun _=>⟨gn,rfl,fun i hi=>?_⟩⟩
  ·obtain⟨x,hx,rfl⟩:=qAT.1 hz;obtain⟨j,hj,Cu⟩:=qAm hx;have:=zlK.num j hj;exact PY
  ·rw[zLm,aa HN]at hi;have e:=l6 i hi;rw[bD.cell (qAA e),e,pJ l zhP]
 have fI:=Eh (s+1) _ _ Jf (by rw[zLm,aa HN];exact hlen) Sg Sg;have tN:fq (l.map (·.1)) (l.map (·.1)).length=bM l:=by unfold fq bM;rw[qAP zNr,zLm]
 rw[tN]at fI;have QO:=ae fI;have HM3:=ae Pr;have zfc:=ae l6;have dF:=ae bD;clear fI Pr Jf tN l6 bD HNC;refine QO.mono ?_;rintro e w4 ⟨g4,rfl,hg4,hk4,eU⟩;have T4:=(eU.block w2.heap.size Sg).trans HM3;have m0:w4.cell? (zp w2.heap.size)=some (zi (s+1)):=zkK;have m1:w4.cell? (zw w2.heap.size 1)=some (.slice (zo gn) N cn):=zkK;have W9:=ae T4;have HK4:=ae hk4;have Ll:=eU.size;have fh:=ae (dF.trans (eU.mono Sg));clear T4 hk4 eU QO HM3 dF;go_wp2_with fail
 refine(zbq (s+1) _ w4 Sg Sg).m ?_;intro w5 il;have zp4:(s+1)%2=0\/(s+1)%2=1:=Sg;generalize (s+1)%2=sd at*;clear m0 m1;have hs5:=il.size
 -- all that is laid aside
 have uS:zB w4 (w5.alloc (.cells #[zi sd] 3)):=il.alloc il.size _;have ZN:zB w2 (w5.alloc (.cells #[zi sd] 3)):=fh.trans (uS.mono Sg);have jz:zB w (w5.alloc (.cells #[zi sd] 3)):=bz.trans (ZN.mono Sg);have l5:∀k,w.heap.size<=k->¬S k:=fun k hk hs=>by have:=H.dev.lt k hs;omega
 have zhh:Kit (w5.alloc (.cells #[zi sd] 3)) S q p s w2.heap.size (s+1) (.slice (zo gn) N cn) gn N (fun i=>(l.getD i (0,[])).1) gb (fun i=>(l.getD i (0,[])).2) g4 (cD (s+1) (bM l)) w5.heap.size sd:=by
  refine⟨HPQ.below ZN,Rk,(uS.block _ Sg).trans W9,l5 _ Sg,fun i hi=>?_,l5 _ Sg,Tb,⟨l5 _ Sg,fun i hi=>?_⟩,Tb,HK4.below uS,l5 _ Sg,?_,l5 _ Sg⟩
  ·have e:=zfc i hi;rw[ZN.cell (qAA e),e]
  ·have si:=(HL.below aQ);obtain⟨b',off',e',hSb,bf⟩:=si.2.2 aG;simp only[qAQ,qBI,qBj]at e';obtain⟨rfl,rfl⟩:=e';obtain⟨_,ab,capb,d1,aH,hn,_⟩:=bf i zhP;have e:=HBC i hi;have e2:(CJ w1 b off N)[i]?=some (.slice ab (l.getD i (0,[])).2.length capb):=by simp only[CJ,qBN,qCv hi,qDS];unfold zeH;rw[d1];rfl
   rw[e2]at e;have rH:zB w1 (w5.alloc (.cells #[zi sd] 3)):=by have Fs:zB w1 w2:=aa zo6;exact Fs.trans (ZN.mono Fs.size)
   exact⟨ab,capb,(ZN.cell (qAA e)).trans e,aH.below rH,hn⟩
  ·rw[qAD _ _ _ _ _ _ (qAB _ _)];rfl
 have zff:=ae zhh;have oF:=ae jz;have Xa:=ae (H.below jz);have c0:=zhh.pg.c0;have c5:=zhh.sid;clear il uS ZN jz zhh fh HK4 W9 HPQ zfc HBC zo6 c1;go_wp2_with fail
 generalize w5.alloc (.cells #[zi sd] 3)=w6 at*;have jF:Hid (∀wx g,zB w6 wx->w6.heap.size<=g->wx.cell? (zp g)=some (zi sd)->zC 115 #[zq p,.slice (zo gb) N cb,.func (.func 297) #[] #[zq g]] wx (zr (bc X1.2) fun w'=>∃S',Live w0 w' p S' X1.1/\au S S' w6 w')):=ae (fun wx g Js hg hc=>by
  have hk:=zff.below Js;have BK:=qAA hc;have Jm:¬S g:=fun hs=>by have:=Xa.dev.lt g hs;omega
  have:=qC 297 g gb N cb (fun i=>(l.getD i (0,[])).2) (fun i=>2+23*sd+i) (Xa.below Js) hk.zlx hk.lb Sg hcb call297 (fun w' S' ht k hk=>Ef g sd k w' zp4 Sg ((qAJ (a:=(zp g)) (ht.block g BK Jm)).trans hc));rw[<-aa E1]at this;exact this.mono fun e w' ⟨he,S',hl,ht⟩=>⟨he,S',hl,(au.aI Js).trans ht⟩)
 have hq6:q<w6.heap.size:=zff.pg.lt;have zp5:w5.heap.size<w6.heap.size:=qAA c5;go_region_held3 (fun w'=>w'.cell? (zp q)=some (zq p)/\w'.cell? (zp w5.heap.size)=some (zi sd)) (first | go_keep | (go_split_ands;refine⟨?_,?_⟩ <;> go_keep))
  (first
   | (go_at_call 244;refine(Ip _ _).m ?_;intro wa TR;have eh:zB w6 wa:=zjR;have hca:wa.cell? (zp w6.heap.size)=some (zi sd):=zjU;clear TR;have hka:=zff.below eh;have ra1:=hka.pg.c0;have ra2:=hka.sid)
   | (go_at_call 115;refine(jF _ _ zi2 (by exact zNr) (by exact hca)).m ?_;rintro wb ⟨S7,hl7,ht7⟩;have hk7:=zff.cQ ht7;have rb1:=hk7.pg.c0;have rb2:=hk7.sid))
 all_goals
  have HT7:=ae ((au.aI (S:=S) oF).trans ht7);have HL7:=ae hl7;have HK7:=ae hk7;have zk5:kC (cD (s+1) (bM l)):=⟨dK _ _ (by rw[iQ,aa HN];omega),nZ _ _ (JS zlK Sg)⟩;clear hl7 hk7 ht7 hka eh hca ra1 ra2 jF Xa zff oF aQ bz rb2 c0 c5 hq6 zp5;by_cases Mw:X1.2=0
  ·rw[Mw,aC];have hb8:zB wb (wb.alloc (.cells #[.slice (zo g4) 32 32] 29)):=zBr.alloc zNr _;have hk8:=HK7.below hb8;have hl8:=HL7.below hb8;have PD:Gq (wb.alloc (.cells #[.slice (zo g4) 32 32] 29)) S7 wb.heap.size 1 (fun _=>cD (s+1) (bM l)):=by
    refine⟨fun hs=>by have:=HL7.dev.lt _ hs;omega,fun k hk=>?_⟩;obtain rfl:k=0:=Sg;refine⟨some (zp g4),32,?_,rC hk8.sec zk5,fun _ x hx hs=>?_⟩
    ·rw[qAD _ _ _ _ _ _ (qAB _ _),zk5.1];rfl
    ·obtain rfl:=zOi hx;exact hk8.ns hs
   have zkq:=hk8.sid;have znE:=hk8.nsb;have ku:=qC 250 w5.heap.size wb.heap.size 1 1 (fun _=>cD (s+1) (bM l)) (fun _=>sd) hl8 PD (by rw[size_alloc];omega) Si Si call250 (fun w' S' ht k hk=>Qn w5.heap.size sd k w' ((qAJ (a:=⟨w5.heap.size,0,none⟩) (ht.block _ (qAA zkq) znE)).trans zkq));rw[<-aa E2]at ku;have rE:=ae ku;have HK8:=ae hk8;clear ku hk8 hl8 PD zkq znE hb8 zk5;go_wp2_with fail
   refine rE.m ?_;rintro w9 ⟨S9,AV,ht9⟩;have hk9:=HK8.cQ ht9;have HT9:=ae ((HT7.trans (au.alloc S7 _ _)).trans ht9);have RD:=ae AV;have HK9:=ae hk9;have rq:=hk9.pg.c0;clear AV hk9 ht9 rE HK8 HT7 HL7 HK7 rb1;by_cases PJ:X2.2=0
   ·rw[PJ,aC];have HW3:Hid (∀wx g,zB w9 wx->w9.heap.size<=g->wx.cell? (zp g)=some (.slice (zo gn) N cn)->zC 115 #[zq p,.slice (zo gb) N cb,.func (.func 298) #[] #[zq g]] wx (zr (bc X3.2) fun w'=>∃S',Live w0 w' p S' X3.1/\au S9 S' w9 w')):=ae (fun wx g Js hg hc=>by
     have hk:=HK9.below Js;have BK:=qAA hc;have Jm:¬S9 g:=fun hs=>by have:=RD.dev.lt g hs;omega
     have:=qC 298 g gb N cb (fun i=>(l.getD i (0,[])).2) (fun i=>48+(l.getD i (0,[])).1) (RD.below Js) hk.zlx hk.lb Sg hcb call298 (fun w' S' ht k hkk=>Jd g gn cn N k (l.getD k (0,[])).1 w' hkk Sg (by have:=zlK.num k (by rw[aa HN];exact hkk);omega) ((qAJ (a:=(zp g)) (ht.block g BK Jm)).trans hc) ((qAJ (a:=⟨gn,k,none⟩) (ht.block gn hk.ln hk.nn)).trans (hk.cz k hkk)));rw[<-aa E3]at this;exact this.mono fun e w' ⟨he,S',hl,ht⟩=>⟨he,S',hl,(au.aI Js).trans ht⟩)
    go_wp2_with fail
    go_region_held3 (fun w'=>w'.cell? (zp q)=some (zq p)) (go_keep)
     (first
      | (go_at_call 245;refine(Po _ _ _ _).m ?_;intro wa TR;have eh:zB w9 wa:=zjR;have hca:wa.cell? (zp w9.heap.size)=some (.slice (zo gn) N cn):=zjU;clear TR;have hka:=HK9.below eh;have ra1:=hka.pg.c0)
      | (go_at_call 115;refine(HW3 _ _ zi2 (by exact zNr) (by exact hca)).m ?_;rintro wc ⟨S11,znS,zkn⟩;have ZB:=HK9.cQ zkn;have rc1:=ZB.pg.c0))
    all_goals
     have zoE:=ae (HT9.trans zkn);have zoP:=ae znS;have zfg:=ae ZB;have m0:=ZB.m0;have q1:=ZB.pg.c1;have qf:=ZB.pg.fr 1;clear znS ZB zkn hka eh hca ra1 HW3 HT9 RD HK9 rc1 rq;by_cases hX3:X3.2=0
     ·rw[hX3,aC];go_wp2;go_ret;have hR:=Me.2.2.2 Mw PJ hX3;rw[hR];exact⟨rfl,S11,zoP.setOther zfg.npg AT,zfg.pg.set _,zfg.npg,(zoE.plus q).trans (au.setCell (S:=plus S11 q) wc _ (.inr rfl))⟩
     ·rw[aF _ hX3];go_wp2;go_ret;have hR:=Me.2.2.1 Mw PJ hX3;rw[hR];exact⟨by rw[aF _ hX3];rfl,S11,zoP,zfg.pg,zfg.npg,zoE.plus q⟩
   ·rw[aF _ PJ];go_wp2;go_ret;have hR:=Me.2.1 Mw PJ;rw[hR];exact⟨by rw[aF _ PJ];rfl,S9,RD,HK9.pg,HK9.npg,HT9.plus q⟩
  ·rw[aF _ Mw];go_wp2;go_ret;have hR:=Me.1 Mw;rw[hR];exact⟨by rw[aF _ Mw];rfl,S7,HL7,HK7.pg,HK7.npg,HT7.plus q⟩
end
theorem UH{w0:World}(h:Live w0 w p S D)(hq:eE w q p s)(Rk:¬S q)(AT:w0.heap.size<=q) a cap l(hl:qz w S a cap l)(hL:eo D.secs.length=L)(h0:0<=s)(h1:s<4294967295) :
  zC 204 #[zq q,.slice a l.length cap] w (zr (bc (aj D s L l).2.2) fun w'=>∃S',Live w0 w' p S' (aj D s L l).1/\eE w' q p (aj D s L l).2.1/\¬S' q/\au (plus S q) (plus S' q) w w'):=by
 by_cases he:cH L l=0
 ·by_cases aG:l=[]
  ·subst aG;have e:aj D s L []=(D,s,if D.down then 9 else 0):=by unfold aj;rw[zn (by rw[he];exact fun h=>h rfl)];cases D.down <;> rfl
   rw[e];exact(Qk h hq a cap).mono fun e w' ⟨he,hb⟩=>⟨he,S,h.below hb,hq.below hb,Rk,(au.aI hb).plus q⟩
  ·obtain⟨b,off,rfl,_⟩:=hl.2.2 aG;exact zam h hq Rk AT b off cap l hl hL aG he h0 h1
 ·have e:aj D s L l=(D,s,cH L l):=by unfold aj;rw[zy he]
  rw[e];have:=UG h hq a cap l hl (by rw[hL];exact he);rw[hL]at this;exact this.mono fun e w' ⟨he,hb⟩=>⟨he,S,h.below hb,hq.below hb,Rk,(au.aI hb).plus q⟩
theorem YV g L z w(hz:0<=z/\z<=255)(hg:w.cell? (zp g)=some (zi L)) :
  zC 326 #[.int .u8 z,zq g] w (zr (.bool (decide (L<=z))) fun w'=>w=w'):=by
 obtain⟨z0,z1⟩:=hz;go_enter func326,ntmps326
 exact Tt
def badAt(L:Int):LI->Int->Int
 | [],_=>-1
 | z::r,i=>if L<=z then i else badAt L r (i+1)
theorem B3{L}:∀ {l:LI} {i:Int},0<=i->(0<=badAt L l i ↔ ∃z∈l,L<=z)
 | [],i,h=>by simp[badAt]
 | z::r,i,h=>by
  unfold badAt;by_cases hz:L<=z
  ·rw[zy hz];exact⟨fun _=>⟨z,Sk,hz⟩,fun _=>h⟩
  ·rw[zn hz,B3 Sg];constructor
   ·rintro ⟨x,hx,mh⟩;exact⟨x,UD,mh⟩
   ·rintro ⟨x,hx,mh⟩;rcases zMc hx with rfl|hx
    ·exact absurd mh hz
    ·exact⟨x,hx,mh⟩
section
variable {w:World}
theorem Zj g L a cap l(hb:Bs w a cap l)(hg:w.cell? (zp g)=some (zi L)) :
  zC 234 #[.slice a l.length cap,.func (.func 326) #[] #[zq g]] w (zr (zi (badAt L l 0)) fun w'=>w=w'):=by
 have hl:=hb.2.2.1;have HB:=ae hb;have HK:Hid (∀k,k<l.length->0<=l.getD k 0/\l.getD k 0<=255):=ae (fun k hk=>hb.1.getD k);have HD:Hid (∀k,k<l.length->badAt L (l.drop k) k=if L<=l.getD k 0 then (k:Int)else badAt L (l.drop (k+1)) (k+1)):=ae (fun k hk=>by
  rw[qBf hk]
  show(if L<=l[k]then (k:Int)else badAt L (l.drop (k+1)) (k+1))=_
  simp[List.getD,hk])
 clear hb;go_enter func234,ntmps234
 go_wp2_with fail
 go_loop [8] (fun i=>∃k:Nat,k<=l.length/\i=zi k/\badAt L l 0=badAt L (l.drop k) k) (fun i=>l.length-(intOf i).toNat)
 case atStart=>exact zlY
 case round =>
  obtain⟨k,hk,rfl,bQ⟩:=hrel;by_cases aB:k<l.length
  ·obtain⟨b,off,rfl,hc⟩:=HB.2.2.2.2 (by intro e;rw[e]at aB;cases aB);have Hf:=hc k aB;have HC:=ae (YV g L (l.getD k 0) w (HK k aB) hg);rw[HD k aB]at bQ;obtain⟨z0,z1⟩:=HK k aB;clear hc;generalize l.getD k 0=z at*;by_cases hz:L<=z
   ·rw[zy hz]at bQ;rw[qAE hz]at HC;have HA:=ae bQ;clear bQ hz;go_wp2_with (go_at_call 326;refine HC.mono ?_;rintro e w' ⟨rfl,rfl⟩)
    go_ret;exact⟨by rw[aa HA];rfl,rfl⟩
   ·rw[zn hz]at bQ;rw[qAG hz]at HC;have HA:=ae bQ;clear bQ hz;go_wp2_with (go_at_call 326;refine HC.mono ?_;rintro e w' ⟨rfl,rfl⟩)
    go_round
    case rel=>exact⟨k+1,Sg,Tc,by rw[aa HA];rfl⟩
    case measure=>exact Te
  ·obtain rfl:k=l.length:=by omega
   have hd:l.drop l.length=[]:=qAr zNr;rw[hd]at bQ;exact Tt
theorem GS g L a cap l(hb:Bs w a cap l)(hg:w.cell? (zp g)=some (zi L)) :
  zC 193 #[.slice a l.length cap,.func (.func 326) #[] #[zq g]] w (zr (.bool (decide (0<=badAt L l 0))) fun w'=>w=w'):=by
 have HC:=ae (Zj g L a cap l hb hg);generalize badAt L l 0=r,l.length=n at*;go_enter func193,ntmps193
 exact uZ
