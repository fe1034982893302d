import Derived.Test.YtoiebmeajhpgcaaGreatDoorJRp
import Derived.Test.YtoiebmeajhpgcaaGreatDoorJZr
import Derived.Test.YtoiebmeajhpgcaaGreatDoorJSs
import Derived.Deep.CutBlock
set_option maxRecDepth 100000
set_option maxHeartbeats 16000000
set_option linter.all false
namespace Go.Proofs.YtoiebmeajhpgcaaGreatDoor
variable {r s f:BA}{w w0:World}{q p d cb ck i k m n g:Nat}{S:Nat->Prop}{D:DS}{ab ak:OA}{L K l:LI}{P:Ps}
open Tryz
open Go.RowKit
def Au(S:Nat->Prop)(q d:Nat):Nat->Prop:=plus (plus S q) d
structure mj (w0 w:World) (d q p:Nat) (S:Nat->Prop) (ab:OA) (cb:Nat) (ak:OA) (ck:Nat) (L K:LI) (s:Int) (D:DS):Prop where
 bs:zB w0 w
 st:w.heap[d]?=some (.cells #[.slice ab L.length cb,.slice ak K.length ck,zq q] 31 (0,0))
 bl:A1 w (Au S q d) ab cb L
 bk:A1 w (Au S q d) ak ck K
 pg:gX w q p s 32
 rf:Ref w p S D
 ge:∀k,Au S q d k->w0.heap.size<=k
 sd:¬plus S q d
 sq:¬S q
section
variable {w0 w w':World} {d q p:Nat} {S S':Nat->Prop} {ab ak an:OA} {cb ck cn:Nat} {L K N:LI} {s s':Int} {D D':DS}
theorem mj.lt(h:mj w0 w d q p S ab cb ak ck L K s D):d<w.heap.size:=(zAg h.st).1
theorem mj.IQ(h:mj w0 w d q p S ab cb ak ck L K s D):∀k,Au S q d k->k<w.heap.size:=fun k hk=>by
 rcases hk with (hk|rfl)|rfl
 ·exact h.rf.lt k hk
 ·exact h.pg.lt
 ·exact h.lt
theorem mj.c(h:mj w0 w d q p S ab cb ak ck L K s D):w.cell? (zp d)=some (.slice ab L.length cb)/\w.cell? (zw d 1)=some (.slice ak K.length ck)/\w.cell? (zw d 2)=some (zq q):=by
 refine⟨?_,?_,?_⟩ <;>
 ·rw[qAD _ _ _ _ _ _ h.st];rfl
theorem mj.below(h:mj w0 w d q p S ab cb ak ck L K s D)(hb:zB w w'):mj w0 w' d q p S ab cb ak ck L K s D :=⟨h.bs.trans (hb.mono h.bs.size),(hb.block d h.lt).trans h.st,h.bl.below hb,h.bk.below hb,h.pg.below hb,h.rf.below hb,h.ge,h.sd,h.sq⟩
theorem mj.drew(h:mj w0 w d q p S ab cb ak ck L K s D):mj w0 w.drew d q p S ab cb ak ck L K s D:=h.below (bF zBr)
theorem mj.cQ(h:mj w0 w d q p S ab cb ak ck L K s D)(hr:Ref w' p S' D')(hp:gX w' q p s' 32)(hq:¬S' q)(ht:au (plus S q) (plus S' q) w w'):mj w0 w' d q p S' ab cb ak ck L K s' D':=by
 have hd:=h.sd;have gw:=ht.plus d;refine⟨h.bs.trans (ht.below (fun k hk=>h.ge k (.inl hk)) h.bs.size),(ht.block d h.lt hd).trans h.st,h.bl.cQ gw,h.bk.cQ gw,hp,hr,fun k hk=>?_,fun hs=>hd (ht.bA d h.lt hs),hq⟩;by_cases aB:k<w.heap.size
 ·exact h.ge k (gw.bA k aB hk)
 ·exact qAF h.bs.size Sg
theorem mj.dev(h:mj w0 w d q p S ab cb ak ck L K s D)(hr:Ref w' p S' D')(ht:au S S' w w'):mj w0 w' d q p S' ab cb ak ck L K s D':=by obtain⟨h1,h2⟩:=h.pg.cQ ht h.sq;exact h.cQ hr h1 h2 (ht.plus q)
theorem mj.set(h:mj w0 w d q p S ab cb ak ck L K s D) i v{ab' ak'}{cb' ck'}{L' K'}(h1:A1 w (Au S q d) ab' cb' L')(h2:A1 w (Au S q d) ak' ck' K')(e:(#[.slice ab L.length cb,.slice ak K.length ck,zq q]:Array Value).setIfInBounds i v=#[.slice ab' L'.length cb',.slice ak' K'.length ck',zq q]):mj w0 (w.setCell (zw d i) v) d q p S ab' cb' ak' ck' L' K' s D:=by have ht:au (fun k=>k=d) (fun k=>k=d) w (w.setCell (zw d i) v):=au.setCell w v rfl;have gw:au (Au S q d) (Au S q d) w (w.setCell (zw d i) v):=au.setCell w v (.inr rfl);have hd:=h.sd;refine⟨h.bs.trans (gw.below h.ge h.bs.size),?_,h1.cQ gw,h2.cQ gw,(h.pg.cQ ht (fun e=>hd (.inr e.symm))).1,h.rf.cQ ht (fun k hk e=>hd (.inl (e▸hk))),h.ge,hd,h.sq⟩;rw[qAI _ _ _ _ _ _ h.st,e]
theorem mj.zmN(h:mj w0 w d q p S ab cb ak ck L K s D)(hn:A1 w (Au S q d) an cn N):mj w0 (w.setCell (zp d) (.slice an N.length cn)) d q p S an cn ak ck N K s D:=h.set 0 _ hn h.bk rfl
theorem mj.zmM(h:mj w0 w d q p S ab cb ak ck L K s D)(hn:A1 w (Au S q d) an cn N):mj w0 (w.setCell (zw d 1) (.slice an N.length cn)) d q p S ab cb an cn L N s D:=h.set 1 _ h.bl hn rfl
theorem mj.zpK{r}(h:mj w0 w d q p S ab cb ak ck L K s D)(hr:gX w r p s' 32)(hS:¬S r)(hg:w0.heap.size<=r)(hl:L≠[]->∀x,ab=some x->x.block≠r)(hk:K≠[]->∀x,ak=some x->x.block≠r)(hd:r≠d):mj w0 (w.setCell (zw d 2) (zq r)) d r p S ab cb ak ck L K s' D:=by
 have ht:au (fun k=>k=d) (fun k=>k=d) w (w.setCell (zw d 2) (zq r)):=au.setCell w _ rfl;have hsd:=h.sd;have key:∀ (a:OA) (c:Nat) (l:LI),A1 w (Au S q d) a c l->(l≠[]->∀x,a=some x->x.block≠r)->A1 w (Au S r d) a c l:=fun a c l hb hx=>⟨hb.1,fun aG x hxa hs=>by
  rcases hs with (hs|hs)|hs
  ·exact hb.2 aG x hxa (.inl (.inl hs))
  ·exact hx aG x hxa hs
  ·exact hb.2 aG x hxa (.inr hs)⟩
 have mi:∀k,Au S r d k->w0.heap.size<=k:=fun k hk=>by
  rcases hk with (hk|rfl)|hk
  ·exact h.ge k (.inl (.inl hk))
  ·exact hg
  ·exact h.ge k (.inr hk)
 have gw:au (Au S r d) (Au S r d) w (w.setCell (zw d 2) (zq r)):=au.setCell w _ (.inr rfl);refine⟨h.bs.trans (gw.below mi h.bs.size),?_,(key _ _ _ h.bl hl).cQ gw,(key _ _ _ h.bk hk).cQ gw,(hr.cQ ht hd).1,h.rf.cQ ht (fun k hk e=>hsd (.inl (e▸hk))),mi,fun hs=>?_,hS⟩
 ·rw[qAI _ _ _ _ _ _ h.st];rfl
 ·rcases hs with hs|hs
  ·exact hsd (.inl hs)
  ·exact hd hs.symm
theorem mj.fresh(h:mj w0 w d q p S ab cb ak ck L K s D)(hn:Bs w' an cn N)(hf:Fr w.heap.size an):A1 w' (Au S q d) an cn N:=⟨hn,fun _ x hx hs=>by have:=hf x hx;have:=h.IQ _ hs;omega⟩
end
theorem zcS{s}(hp:gX w q p s 32)(h:Ref w p S D)(hl:D.secs.length=80)(hd:D.down=false) :
  zC 37 #[zq q] w fun e w'=>∃v,e=.returned v/\cW w' w.heap.size v (jP (fun i=>D.rd (48+i)) 32)/\zB w w':=by
 obtain⟨i0,dU,cO,cU,cV⟩:=qAO dw;have hX0:∀i,i<32->(D.rd (48+i)).length=32:=fun i hi=>by obtain⟨_,_,_,hr⟩:=h;exact(hr.ok.rd Sg).1
 have HP:=ae (fun(W:World) (hW:zB w W)=>hp.below hW);have HR:=ae (fun(W:World) (hW:zB w W) (i:Nat) (hi:i<32)=>Bj (48+i) (h.below hW) Sg hd);clear h hp;go_enter func37,ntmps37
 go_wp2_with fail
 go_loopw [3,4] (fun bv iv wr=>∃i:Nat,i<=32/\iv=zi i/\cW wr w.heap.size bv (jP (fun i=>D.rd (48+i)) i)/\(jP (fun i=>D.rd (48+i)) i).length=32*i/\zB w wr) (fun _ iv _=>32-(intOf iv).toNat)
 case atStart=>exact⟨0,Sg,rfl,cW.nil _ _,rfl,zBr⟩
 case round =>
  obtain⟨i,hi,rfl,ho,hlen,hb⟩:=hrel;have hpq:=HP wr hb;have c0:=hpq.c0;have c2:=hpq.c2;by_cases aB:i<32
  ·have t0:(i:Int)<((32:Nat):Int):=by omega
   have qx:=HR wr hb i aB;rw[show((48+i:Nat):Int)=48+(i:Int) by omega]at qx;have uV:=ae qx;have HB:=ae hb;have HO:=ae ho;have Ad:jP (fun i=>D.rd (48+i)) (i+1)=jP (fun i=>D.rd (48+i)) i++D.rd (48+i):=rfl;have DG:=ae Ad;have jD:=ae hlen;have hX:=hX0 i aB;clear hb ho hpq qx Ad hlen HR HP;generalize jP (fun i=>D.rd (48+i)) i=M at*;generalize D.rd (48+i)=X at*;go_wp2_with fail
   refine uV.mono ?_;rintro e w1 ⟨⟨v,rfl,g,cap,rfl,_,_,aH⟩,rfl⟩;go_wp2_with (at_builtin;refine j9 rfl _ _ 29 rfl i0 underlying29 dU cO cU cV w.heap.size _ M rfl HO HB.size (zo g) 32 cap X rfl hX.symm aH UX ?_)
   intro v9 w9 ho9 ji;have pO:=ae ho9;have kE:=ae (HB.trans ji);clear ho9 ji;go_wp2;go_roundw
   case rel=>exact⟨i+1,Sg,Tc,by rw[aa DG];exact pO,by rw[aa DG,zLa,aa jD,hX];omega,kE⟩
   case measure=>exact Te
  ·obtain rfl:i=32:=by omega
   have HO:=ae ho;have HB:=ae hb;clear ho hb HP HR hpq hlen;go_wp2;go_ret;exact⟨_,rfl,HO,HB⟩
theorem mj.yS{s}(h:mj w0 w d q p S ab cb ak ck L K s D)(h0:0<=s)(h1:s<=9999)(hn:D.secs.length=80){a}{cap}{x}(hx:qz w S a cap x)(hr:x≠[]->∀y,a=some y->y.block≠q)(hm:x.length<=1000) :
  zC 34 #[zq q,.slice a x.length cap] w (zr (zi (aj D s 32 x).2.2) fun w'=>∃S',mj w0 w' d q p S' ab cb ak ck L K (aj D s 32 x).2.1 (aj D s 32 x).1):=by
 by_cases Ak:23<x.length
 ·have hc:aj D s 32 x=(D,s,4):=by
   have he:cH (32:Nat) x=4:=by unfold cH;rw[zy Ak]
   unfold aj;rw[zy (by rw[he];decide),he]
  rw[hc];exact(KM a x.length cap Ak Sg).mono fun e w' ⟨he,hw⟩=>⟨he,S,hw▸h⟩
 ·by_cases aG:x=[]
  ·subst aG;have hc:aj D s 32 []=(D,s,if D.down then 9 else 0):=by
    unfold aj;rw[zn (show ¬cH (32:Nat) []≠0 from fun hh=>hh rfl)];split
    ·rfl
    ·rw[zy rfl]
   rw[hc];exact(N5 h.rf h.pg a cap).mono fun e w' ⟨he,hw⟩=>⟨he,S,hw▸h⟩
  ·obtain⟨b,off,rfl,_⟩:=hx.2.2 aG;exact(KL h.rf h.pg h.sq b off cap x hx (hr aG _ rfl) aG Sg Sg Sg h0 Sg).mono fun e w' ⟨he,S',hl,hp,hq,ht⟩=>⟨he,S',h.cQ hl hp hq ht⟩
theorem zjk{P}{t:TypeId}(hu:P.underlying t=some (.slice 5))(bW:(P.info? 5).map (·.size)=some 1) g o c N x y(hn:N<=c)(aB:x<N)(hy:y<=N)(Gv:x<=y) w' :
  (Instr.slice t (.slice (some (zw g o)) N c) (some (zi x)) (some (zi y)) none).run P w'=.ok (.slice (some ⟨g,o+x,none⟩) (y-x) (c-x)) w':=by
 have he:=kG hu;rw[run_slice_lh (P:=P) (w:=w') t (some (zw g o)) N c UW .i64 .i64 x y Sg Sg Sg,he,eR w' bW];have t1:(x:Int).toNat=x:=zTn x;have t2:(y:Int).toNat=y:=zTn y;simp only[Result.andThen,sliced,t1,t2];rw[zn Sg];simp[Addr.add]
theorem mj.cj{K2:LI}{s s2}(h:mj w0 w d q p S ab cb ak ck L K s D)(hr:yY D 32 s2 (prt K2))(hn:D.secs.length=80)(AU:D.left<0) :
  zC 36 #[zq p] w fun e w'=>∃r,e=zt #[zq r,zi 0]/\∃S',mj w0 w' d q p S' ab cb ak ck L K s (cj D 32).1/\gX w' r p s2 32/\¬S' r/\w.heap.size<=r:=by
 refine(Ym (L:=32) h.rf hr.ok (by rw[hn];rfl) Si hr.down).mono ?_;rintro e w' ⟨v,rfl,S',hrf,ht,Aa,_⟩;rcases zA hr with ⟨r1,r2,_⟩|⟨_,r2,_⟩
 ·obtain⟨r,rfl,hq,hle,hns⟩:=Aa r1;rw[r2]at hq;exact⟨r,by rw[r1],S',h.dev hrf ht,hq,hns,hle⟩
 ·exact absurd AU r2
def ltA(f:BA)(j:Nat):Nat:=(f.data.toList.getD j 0).toNat
def gF(s:BA)(j:Nat):BA:=((jZ s).drop 1).getD j ⟨#[]⟩
theorem Eu{s r f:BA}{l:LI}:∀k,(∀j,j<k->ltA f j=78)->(∀j,j<k->rdN (gF s j)=some (l.getD j 0))->k<=l.length->uN r f ((jZ s).drop 1) k=some ⟨r,l.take k,⟨#[]⟩,[]⟩
 | 0,_,_,_=>by rw[List.take_zero];rfl
 | k+1,h1,h2,h3=>by
  have ih:=Eu (r:=r) k (fun j hj=>h1 j Sg) (fun j hj=>h2 j Sg) Sg;have a:=h1 k Sg;have b:=h2 k Sg;unfold ltA at a;unfold gF at b
  show(match uN r f ((jZ s).drop 1) k with | some o=>tkO _ _ o | none=>none)=_
  rw[ih]
  show tkO (((f.data.toList.getD k 0).toNat:Nat):Int) _ _=_
  unfold tkO;rw[a,zy Si,b,qAv,zLg Sg,qAC,zLg Sg];rfl
theorem VE(hi:i<k)(h1:ltA f i=78)(h2:rdN (gF s i)=none):uN r f ((jZ s).drop 1) k=none:=by
 refine NU (i:=i+1) ?_ hi;unfold ltA at h1;unfold gF at h2
 show(match uN r f ((jZ s).drop 1) i with | some o=>tkO _ _ o | none=>none)=_
 cases uN r f ((jZ s).drop 1) i with
 | none=>rfl
 | some o =>
  show tkO (((f.data.toList.getD i 0).toNat:Nat):Int) _ _=_
  unfold tkO;rw[h1,zy Si,h2]
theorem KH(hf:qy ((jZ s).getD 0 ⟨#[]⟩)=some f):rdO s=if (jZ s).length=f.size+1 then uN ((jZ s).getD 0 ⟨#[]⟩) f ((jZ s).drop 1) f.size else none:=by unfold rdO;rw[hf]
theorem zjE(hf:qy ((jZ s).getD 0 ⟨#[]⟩)=none):rdO s=none:=by unfold rdO;rw[hf]
def Rv(k:Int):Prop:=0<=k/\k<=9
theorem L5 L h:Rv (aX L h):=by unfold aX Rv;exact N6
theorem zlD(hf:aD L) n t:Rv (kX L n t):=by
 unfold kX Rv;split
 ·omega
 ·split
  ·omega
  ·rw[su hf Sg Sg];split <;> omega
theorem zk9 L h:Rv (nD L h):=by have:=L5 L h;unfold Rv at*;unfold nD;exact N6
theorem zck L h x n:Rv (mo L h x n):=by have:=L5 L h;unfold Rv at*;unfold mo;exact N6
theorem zjr L s h:Rv (js L s h):=by have:=L5 L h;unfold Rv at*;unfold js;exact N6
theorem zja L s:Rv (pB L s):=by unfold pB Rv;exact N6
theorem zlp(h:Pz m n P)(hs:P.s<=9999):Rv (fm m P).2:=by
 have hb:bZ ((6,0,0,0,⟨#[]⟩,[]):q7).2.2.2.2.2:=fun z hz=>Vt
 unfold Rv;rcases h with h|⟨N,h⟩
 ·rcases h.step hs (6,0,0,0,⟨#[]⟩,[]) hb with ⟨_,_,_,h4,_⟩|⟨_,h2,_⟩
  ·have e:(fm m P).2=_:=h4 rfl;rw[e];split <;> omega
  ·have e:(fm m P).2=9:=h2;rw[e];omega
 ·obtain⟨_,_,_,_,h5⟩:=h.step (6,0,0,0,⟨#[]⟩,[]) hb;have e:(fm m P).2=_:=h5 rfl;rw[e];split <;> omega
theorem zE{E:Int}{B}(h:E≠0->B=P.L):({ P with L:=B }:Ps)=if E=0 then { P with L:=if E=0 then B else []} else P:=by
 by_cases h0:E=0
 ·rw[zy h0,zy h0]
 ·rw[zn h0,h h0]
theorem Ke E:nJ E=if E=0 then ⟨#[111,107]⟩else nJ E:=by
 by_cases h0:E=0
 ·rw[zy h0,h0];decide
 ·rw[zn h0]
def rwK(r:BA):Nat:=if r=fi then 2 else if r=iZ then 3 else if r=oN then 2 else if r=jr then 1 else if r=oP then 1 else 0
theorem Iw r:(r=oN\/r=jr\/r=oP\/r=fi\/r=iZ\/r=lN\/r=fT\/r=oO\/r=dN\/r=fV\/r=fU\/r=e7\/r=ir\/r=e6\/r=gZ)\/(qy r=none/\(r≠oN/\r≠jr/\r≠oP/\r≠fi/\r≠iZ/\r≠lN/\r≠fT/\r≠oO)/\r≠dN/\r≠fV/\r≠fU/\r≠e7/\r≠ir/\r≠e6/\r≠gZ):=by
 by_cases h0:(r=oN\/r=jr\/r=oP\/r=fi\/r=iZ\/r=lN\/r=fT\/r=oO\/r=dN\/r=fV\/r=fU\/r=e7\/r=ir\/r=e6\/r=gZ)
 ·exact .inl h0
 ·simp only[not_or]at h0;obtain⟨a0,a1,a2,a3,a4,a5,a6,a7,a8,a9,b0,b1,b2,b3,b4⟩:=h0;exact .inr ⟨by unfold qy;simp only[zn a0,zn a1,zn a2,zn a3,zn a4,zn a5,zn a6,zn a7,zn a8,zn a9,zn b0,zn b1,zn b2,zn b3,zn b4],⟨a0,a1,a2,a3,a4,a5,a6,a7⟩,a8,a9,b0,b1,b2,b3,b4⟩
theorem J5 s j:gF s j=(jZ s).getD (j+1) ⟨#[]⟩:=by unfold gF;rw[qAC,qAC,qBJ,Nat.add_comm]
theorem Nq(h:r=oN\/r=jr\/r=oP\/r=fi\/r=iZ\/r=lN\/r=fT\/r=oO\/r=dN\/r=fV\/r=fU\/r=e7\/r=ir\/r=e6\/r=gZ):∃f,qy r=some f/\rwK r<=f.size/\rwK r<=3/\∀j,j<rwK r->ltA f j=78:=by
 rcases h with rfl|rfl|rfl|rfl|rfl|rfl|rfl|rfl|rfl|rfl|rfl|rfl|rfl|rfl|rfl
 all_goals exact⟨_,rfl,Si,Si,Si⟩
theorem VD{ws}:∀ {k:Nat} {o:Od},uN r f ws k=some o->bZ o.body
 | 0,o,h=>by rw[lR h];intro v hv;cases hv
 | k+1,o,h=>by
  obtain⟨o1,h1,h2⟩:=gH h;have ih:=VD h1;unfold tkO at h2;split at h2
  ·split at h2
   ·injection h2 with h2;subst h2;exact ih
   ·cases h2
  ·split at h2
   ·split at h2
    ·rename_i l hl
     injection h2 with h2
     subst h2;unfold Mr at hl;split at hl
     ·rename_i hc
      obtain rfl:=zOi hl;exact Dv _ _ hc.2
     ·cases hl
    ·cases h2
   ·injection h2 with h2;subst h2;exact ih
theorem zgf{o}(h:rdO s=some o):bZ o.body:=by
 unfold rdO at h;split at h
 ·split at h
  ·exact VD h
  ·cases h
 ·cases h
theorem Pz.all(h:Pz m n P):(aD P.L/\bZ P.L/\P.L.length=32*m)/\(aD P.K/\bZ P.K/\P.K.length=32*m):=by
 rcases h with h|⟨N,h⟩
 ·exact⟨⟨h.fl,h.bl,h.ll⟩,h.fk,h.bk,h.lk⟩
 ·exact⟨⟨h.fl,h.bl,h.ll⟩,h.fk,h.bk,h.lk⟩
def FnL(m:Nat)(L:LI):Prop:=aD L/\bZ L/\L.length=32*m
theorem zbl(h:Pz m n P)(hs:P.s<=9999) o(ho:bZ o.body):FnL m (rl m P o).1.L:=by
 obtain⟨hl,hk⟩:=h.all;obtain⟨f1,b1,l1⟩:=hl;have hc:aD (Bp m P).L/\bZ (Bp m P).L/\(Bp m P).L.length=32*m:=by obtain⟨K,s,_,k1,k2,k3,_,_,k4,_⟩:=h.bX hs;rw[k4];exact⟨k1,k2,k3⟩
 rcases Iw o.row with (h|h|h|h|h|h|h|h|h|h|h|h|h|h|h)|⟨_,⟨a0,a1,a2,a3,a4,a5,a6,a7⟩,a8,a9,c0,c1,c2,c3,c4⟩
 ·rw[Kp _ _ _ h];exact⟨AL f1 _ _,DE b1 _ _,(U1 f1 _ _).trans l1⟩
 ·rw[Ec _ _ _ h];exact⟨(Al f1 _).1,Wq b1 _,(Al f1 _).2.trans l1⟩
 ·rw[Kr _ _ _ h];exact Xi
 ·rw[Bb _ _ _ h];exact⟨(y7 f1 _ _ _).1,Vg b1 _ _ ho,(y7 f1 _ _ _).2.trans l1⟩
 ·rw[Ea _ _ _ h];exact Xi
 ·rw[Ko _ _ _ h];exact⟨(zm f1 _ _).1,Vu b1 _ _,(zm f1 _ _).2.trans l1⟩
 ·rw[Bc _ _ _ h];exact⟨(za f1 _).1,Vl b1 _,(za f1 _).2.trans l1⟩
 ·rw[Kq _ _ _ h];exact Xi
 ·rw[yn _ _ _ h];exact Xi
 ·rw[Bh _ _ _ h];exact hk
 ·rw[Be _ _ _ h];exact Xi
 ·rw[Bg _ _ _ h];exact hc
 ·rw[Eb _ _ _ h];exact⟨(vC f1).1.bC,zgK b1,(vC f1).1.len.trans l1⟩
 ·rw[Bd _ _ _ h];exact⟨(zc f1).1,Kg _ b1,(zc f1).2.trans l1⟩
 ·rw[D9 _ _ _ h];exact Xi
 ·unfold rl;simp only[zn a0,zn a1,zn a2,zn a3,zn a4,zn a5,zn a6,zn a7,zn a8,zn a9,zn c0,zn c1,zn c2,zn c3,zn c4];exact Xi
theorem zj8(h:Pz m n P)(hs:P.s<=9999) s:KpZ m n P (jf m P s).1:=by
 have hf:aD (jf m P s).1.L/\bZ (jf m P s).1.L/\(jf m P s).1.L.length=32*m:=by
  cases ho:rdO s with
  | none=>rw[r7 ho];exact h.all.1
  | some o=>rw[eJ ho];exact zbl h hs o (zgf ho)
 exact OT h hs s hf.1 hf.2.1 hf.2.2
def RIv(k:Nat)(a:Ps×LI):Prop:=Pz 32 80 a.1/\0<=a.1.s/\a.1.s<=2+k/\a.2.length<=20001*k
theorem N0:∀ (l:List BA) (k:Nat) (a:Ps×LI),RIv k a->k+l.length<=3001->RIv (k+l.length) (l.foldl (fun a x=>((jf 32 a.1 (lim x)).1,a.2++c7 (jf 32 a.1 (lim x)).2++[10])) a)
 | [],k,a,h,_=>h
 | x::l,k,a,h,hk=>by
  rw[zLc]at hk ⊢;rw[qBk,show k+(l.length+1)=k+1+l.length by omega];refine N0 l (k+1) _ ?_ Sg;obtain⟨h1,h2,h3,h4⟩:=h;obtain⟨k1,k2,k3⟩:=zj8 h1 Sg (lim x);have hz:=h1.all.1;have sz:=Lb hz.1 hz.2.2 Si ⟨h2,Sg⟩ (lim x);refine⟨k1,by show(0:Int)<=(jf 32 a.1 (lim x)).1.s;omega,by show(jf 32 a.1 (lim x)).1.s<=2+((k+1:Nat):Int);omega,?_⟩
  show(a.2++c7 (jf 32 a.1 (lim x)).2++[10]).length<=_
  rw[zLa,zLa,bY,qBM];omega
theorem zjy l(h:l.length<=3001):RIv l.length (xC 32 (oh 80 32) l):=by have:=N0 l 0 (oh 80 32,[]) ⟨.inl (FQ Si Si Si).1,Si,Si,qAH _⟩ Sg;rw[qAl]at this;exact this
theorem DY L x:strOf (L++c7 x++[10])=(strOf L++x)++⟨#[10]⟩:=by
 have h:(c7 x).map (fun n=>UInt8.ofNat n.toNat)=x.data.toList:=by rw[<-mC,tm]
 rw[pS,pS,qAc,qAc,h,<-pC,<-pC,Ic];rfl
theorem zlb:(bG (uq (lK 80) (-1))).2=0:=SQ
theorem zlc:(bG (uq (lK 80) (-1))).1=(oh 80 32).D:=SQ
section
open Go.Sort
open Go.Shelf
def Dk(w0 w:World)(d p:Nat)(P:Ps):Prop:=∃q S ab cb ak ck,mj w0 w d q p S ab cb ak ck P.L P.K P.s P.D
theorem Dk.zeK(h:Dk w0 w d p P):zB w0 w:=by obtain⟨_,_,_,_,_,_,h⟩:=h;exact h.bs
def LnE(w0 w:World)(d p:Nat)(X:Ps×BA)(nv ev ov:Value):Prop:=∃ (P:Ps) (E:Int) (an:OA) (cn:Nat) (N:LI) (out:BA) (q:Nat) (S:Nat->Prop) (ab:OA) (cb:Nat) (ak:OA) (ck:Nat),nv=.slice an N.length cn/\ev=zi E/\ov=.string out/\Rv E/\mj w0 w d q p S ab cb ak ck P.L P.K P.s P.D/\(E=0->A1 w (Au S q d) an cn N)/\X=(if E=0 then { P with L:=N } else P,if E=0 then out else nJ E)
def V3(w:World)(g:Nat)(l:LI):Prop:=w.heap[g]?=some (.cells (gE l) 62 (0,0))
theorem V3.cell(h:V3 w g l) i(hi:i<l.length):w.cell? (zw g i)=some (zi (l.getD i 0)):=by rw[qAD _ _ _ _ _ _ h];simp[gE,hi,List.getD]
theorem V3.fr(h:V3 w g l) i:w.frozen? (zw g i)=false:=qAd _ _ _ _ _ h
theorem V3.set(h:V3 w g l) i x:V3 (w.setCell (zw g i) (zi x)) g (l.set i x):=by unfold V3;rw[qAI _ _ _ _ _ _ h];simp[gE]
theorem cX.bsZ{B}{v}(h:cX bzC 1 5 w B v l)(hb:bZ l)(hl:l.length<=6400):∃a c,v=.slice a l.length c/\Bs w a c l:=cW.bs (B:=B) (show cW w B v l by unfold cW;rw[<-L6];exact h) hb Sg
def vh(l:LI):Nat->BA
 | 0=>⟨#[]⟩
 | 1=>⟨#[]⟩++jQ (l.getD 0 0)
 | i+2=>vh l (i+1)++⟨#[32]⟩++jQ (l.getD (i+1) 0)
theorem lj a m:strOf (c7 a++m)=a++strOf m:=by rw[pS,pS,qAc,<-pC,<-pS,tm]
theorem zfO a b c d e:vh [a,b,c,d,e] 5=strOf (jn5 (jQ a) (jQ b) (jQ c) (jQ d) (jQ e)):=by
 unfold jn5;rw[lj,lj,lj,lj,lj,lj,lj,lj,tm]
 show((((((((⟨#[]⟩++jQ a)++⟨#[32]⟩)++jQ b)++⟨#[32]⟩)++jQ c)++⟨#[32]⟩)++jQ d)++⟨#[32]⟩)++jQ e=_
 have e0:(⟨#[]⟩:BA)++jQ a=jQ a:=by apply ByteArray.ext;rw[ByteArray.data_append];simp
 rw[e0];simp only[ByteArray.append_assoc]
theorem FJ K L i:(cu K L i).length<=i:=by have:=qBe (fun j=>decide (prt K j≠prt L j)) (List.range i);rw[List.length_range]at this;exact this
theorem Uz K L i:cu K L (i+1)=cu K L i++(if prt K i=prt L i then []else [i]):=by
 unfold cu;rw[qBl,qCF];by_cases h:prt K i=prt L i
 ·rw[zy h];simp[h]
 ·rw[zn h];simp[h]
theorem Mz.set(h:Mz w g n k)(hk:k<n):∃u,w.cell? (zw g k)=some u/\w.frozen? (zw g k)=false/\Mz (w.setCell (zw g k) (.bool true)) g n (k+1):=by
 obtain⟨cs,h1,h2,h3⟩:=h;refine⟨cs[k]'(Sg),zmD,qAd _ _ _ _ _ h1,cs.setIfInBounds k (.bool true),qAI _ _ _ _ _ _ h1,by simp[h2],fun i hi=>?_⟩;rw[Array.getElem?_setIfInBounds];by_cases e:k=i
 ·subst e;rw[zy rfl,zy Sg]
 ·rw[zn e];exact h3 i Sg
theorem za7(hf:aD L):∀e∈aA L,uc e:=fun e he=>zop
theorem Pz.secs(h:Pz m n P):P.D.secs.length=n:=by
 rcases h with h|⟨N,h⟩
 ·exact h.sn
 ·exact h.sn
theorem MJ s(hs:s.size<=3000) w:zC 19 #[.string s] w fun e w'=>∃g o c,e=.returned (.slice (some (zw g o)) (jZ s).length c)/\(∀i,i<(jZ s).length->w'.cell? ⟨g,o+i,none⟩=some (.string ((jZ s).getD i ⟨#[]⟩)))/\zB w w':=by refine(Xk s hs w).mono ?_;rintro e w' ⟨v,rfl,hl,hb⟩;rw[zi5]at hl;have h1:=wH s;have h2:=Go.Lib.countB_le ⟨#[32]⟩ Si s.size s zNr;have hle:(jZ s).length<=8796093021952:=Sg;obtain⟨a,c,rfl,h3⟩:=cX.uM (enc:=stC) (k:=1) (fun _=>rfl) hl hle;obtain⟨g,o,rfl,hc⟩:=h3.2.2.2 (by intro e;rw[e]at h1;simp at h1);refine⟨g,o,c,rfl,fun i hi=>?_,hb⟩;have:=hc i _ (zLg hi) 0 _ rfl;rw[qAC,zLg hi];exact V0
theorem zfN l(h:i=0):vh l i++jQ (l.getD i 0)=vh l (i+1):=by subst h;rfl
theorem zbe l(h:¬i=0):vh l i++⟨#[32]⟩++jQ (l.getD i 0)=vh l (i+1):=by obtain⟨j,rfl⟩:=Nat.exists_eq_succ_of_ne_zero h;rfl
theorem zbf(h:rdO s=some ⟨gZ,[],⟨#[]⟩,[]⟩):jf m P s=(P,vh [((aA P.L).length:Int),aR (aA P.L),aR (aO ((P.L.length:Int)-288) (aA P.L)),cM 0 (aO ((P.L.length:Int)-288) (aA P.L)),((aO ((P.L.length:Int)-288) (aA P.L)).length:Int)] 5):=by rw[eJ h,D9 _ _ _ rfl,zfO];exact qBB (Prod.mk P) (zy rfl)
theorem Ik l(h:∀j,j<5->0<=l.getD j 0/\l.getD j 0<=1000000):∀i,i<=5->(vh l i).size<=101*i
 | 0,_=>qAH _
 | 1,_=>by
  have:=gJ (l.getD 0 0) (by have:=(h 0 Sg).1;omega) (by have:=(h 0 Sg).2;omega);have e0:(⟨#[]⟩:BA).size=0:=rfl
  show(⟨#[]⟩++jQ (l.getD 0 0)).size<=_
  rw[qCW];omega
 | i+2,hi=>by
  have h1:=Ik l h (i+1) Sg;have:=gJ (l.getD (i+1) 0) (by have:=(h (i+1) Sg).1;omega) (by have:=(h (i+1) Sg).2;omega);have e0:(⟨#[32]⟩:BA).size=1:=rfl
  show(vh l (i+1)++⟨#[32]⟩++jQ (l.getD (i+1) 0)).size<=_
  rw[qCW,qCW];omega
theorem Vo w g O U F M R{T:TypeId}(h:w.heap[g]?=some (.cells #[zi 0,zi 0,zi 0,zi 0,zi 0] T (0,0))) :
  ∃x1 x2 x3 x4 x5,(w.setCell (zp g) (zi O)=x1/\x1.setCell (zw g 1) (zi U)=x2/\x2.setCell (zw g 2) (zi F)=x3/\x3.setCell (zw g 3) (zi M)=x4/\x4.setCell (zw g 4) (zi R)=x5) /\
   (w.cell? (zp g)=some (zi 0)/\x1.cell? (zw g 1)=some (zi 0)/\x2.cell? (zw g 2)=some (zi 0)/\x3.cell? (zw g 3)=some (zi 0)/\x4.cell? (zw g 4)=some (zi 0)) /\
   (w.frozen? (zp g)=false/\x1.frozen? (zw g 1)=false/\x2.frozen? (zw g 2)=false/\x3.frozen? (zw g 3)=false/\x4.frozen? (zw g 4)=false) /\
   x5.heap[g]?=some (.cells #[zi O,zi U,zi F,zi M,zi R] T (0,0))/\∀ (B:Nat) (u:World),Below B u w->B<=g->Below B u x5:=by
 have h1:=qAI w g 0 _ _ (zi O) h;have h2:=qAI _ g 1 _ _ (zi U) h1;have h3:=qAI _ g 2 _ _ (zi F) h2;have h4:=qAI _ g 3 _ _ (zi M) h3;have h5:=qAI _ g 4 _ _ (zi R) h4;refine⟨_,_,_,_,_,⟨rfl,rfl,rfl,rfl,rfl⟩,⟨?_,?_,?_,?_,?_⟩,⟨qAd _ _ _ _ _ h,qAd _ _ _ _ _ h1,qAd _ _ _ _ _ h2,qAd _ _ _ _ _ h3,qAd _ _ _ _ _ h4⟩,h5,fun B u hb hg=>((((hb.setCell (p:=(zp g)) hg _).setCell (p:=⟨g,1,none⟩) hg _).setCell (p:=⟨g,2,none⟩) hg _).setCell (p:=⟨g,3,none⟩) hg _).setCell (p:=⟨g,4,none⟩) hg _⟩
 ·exact zmc
 ·rw[qAD _ _ _ _ _ _ h1];rfl
 ·rw[qAD _ _ _ _ _ _ h2];rfl
 ·rw[qAD _ _ _ _ _ _ h3];rfl
 ·rw[qAD _ _ _ _ _ _ h4];rfl
