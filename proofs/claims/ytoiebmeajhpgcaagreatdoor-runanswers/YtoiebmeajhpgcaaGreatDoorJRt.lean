import Derived.Test.YtoiebmeajhpgcaaGreatDoorJHq
set_option maxRecDepth 100000
set_option maxHeartbeats 16000000
set_option linter.all false
namespace Go.Proofs.YtoiebmeajhpgcaaGreatDoor
open Tryz
open Go.RowKit
theorem Hh a la cap lc L l w(hb:Bs w a cap L)(hl:Bs w la lc l)(hle:l.length<=L.length) :
  zC 199 #[.slice a L.length cap,.slice la l.length lc] w (zr (.bool (decide (L.take l.length=l))) fun w'=>w=w'):=by
 obtain⟨a2,hhi,aK⟩:=jK (P:=prog) (t:=29) underlying29 aT hb l.length hle;have h8:(L.take l.length).length=l.length:=VW;have HE:=ae (CI a2 la cap lc (L.take l.length) l w aK hl);rw[h8]at HE;have fC:=hb.2.2.1;generalize decide (L.take l.length=l)=r,L.length=N,l.length=n at*;go_enter func199,ntmps199
 go_wp2_with fail
 refine HE.m ?_;exact znc
theorem zd6 x y w:(Instr.field 122 (.agg #[zi x,zi y]) 0).run prog w=.ok (zi x) w:=by simp[Instr.field,qCi underlying122,qCi underlying3,part,isAgg,asAgg,go_sem]
def pgI(k:Nat):Int:=if k=8 then 0 else (k:Int)
theorem lr a la cap lc L l w(hb:Bs w a cap L)(hl:Bs w la lc l)(h8:l.length=8)(h1:288<=L.length)(h2:L.length<=6400) :
  zC 142 #[.slice a L.length cap,.slice la 8 lc] w (zr (.tuple #[zi (pgI (plL L l)),.bool (decide (plL L l<8))]) fun w'=>zB w w'):=by
 have HB:=ae hb;have HL:=ae hl;have HF:=ae (Bq L l);have HH:=ae (fun W ax cx X hX hlW(hle:8<=X.length)=>Hh ax la cx lc X l W hX hlW Sg);rw[h8]at HH;have HI:=ae (fun k=>show TM L l k=decide ((rowAt L k).take 8=l)from rfl);have HT:=ae (fun k=>show(rowAt L k).take 8=(L.drop (200+11*k)).take 8 by unfold rowAt;rw[qCO];rfl);generalize plL L l=P at*;go_enter func142,ntmps142
 go_wp2_with fail
 go_loopw [6,7] (fun _ iv wr=>∃k:Nat,k<=8/\iv=zi k/\(∀j,j<k->TM L l j=false)/\zB w wr) (fun _ iv _=>8-(intOf iv).toNat)
 case atStart=>exact zm9
 case round =>
  obtain⟨k,hk,rfl,bQ,ai⟩:=hrel;by_cases aB:k<8
  ·have HO:=ae (EE k wr aB);have hb:=HB.below ai;have hPk:=fun h=>cd.unique HF ⟨hk,bQ,fun _=>h⟩
   have hS:TM L l k=false->∀j,j<k+1->TM L l j=false:=fun h=>cd.step bQ h
   have HPk:Hid (TM L l k=true->pgI P=k/\decide (P<8)=true):=ae (fun h=>by rw[hPk h];exact⟨zn Sg,qAE aB⟩);have HS:=ae hS;have aJ:=ae ai;have HC:Hid (∀W,zB wr W->∃a',Sem.run prog (Instr.slice 29 (.slice a L.length cap) (some (zi (200+11*k:Nat))) none none) W=.ok (.slice a' (L.length-(200+11*k)) (cap-(200+11*k))) W/\zC 199 #[.slice a' (L.length-(200+11*k)) (cap-(200+11*k)),.slice la 8 lc] W (zr (.bool (TM L l k)) fun w'=>W=w')):=ae (fun W hW=>by obtain⟨a',Ji,aK⟩:=iy (P:=prog) (t:=29) underlying29 aT (hb.below hW) (200+11*k) Sg;have hh:=HH W a' (cap-(200+11*k)) (L.drop (200+11*k)) aK ((HL.below ai).below hW) zaA;rw[zLd,<-HT k,<-HI k]at hh;exact⟨a',Ji _,hh⟩);have si:(200+11*k:Nat)<=L.length:=Sg;generalize TM L l k=b,200+11*k=q,L.length=N at*;go_wp2_with fail
   refine HO.m ?_;intro w1 ay;obtain⟨a',cF,mx⟩:=HC w1 ay;have qt:=ae mx;have aQ:=zTr aJ ay;have hfd:=zd6 q 11 w1;cases b with
   | false =>
    have HN:=ae (HS rfl);go_wp2_with fail
    refine qt.m ?_;intro w2 xg;subst xg;go_wp2;go_roundw
    case rel=>exact⟨k+1,Sg,Tc,HN,aQ⟩
    case measure=>exact Te
   | true =>
    have HX:=ae (HPk rfl);go_wp2_with fail
    refine qt.m ?_;intro w2 xg;subst xg;go_wp2;go_ret2;exact⟨by rw[HX.1,HX.2];rfl,aQ⟩
  ·obtain rfl:k=8:=by omega
   have hp8:=cd.unique HF ⟨hk,bQ,fun h=>absurd h (qBd _)⟩;subst hp8;have aJ:=ae ai;go_wp2;go_ret2;exact⟨rfl,aJ⟩
theorem xX a cap L w(hb:Bs w a cap L)(hf:aD L) :
  zC 143 #[.slice a L.length cap] w (zr (.tuple #[zi (pgI (nC L)),bc (if nC L=8 then 4 else 0)]) fun w'=>zB w w'):=by
 have hl:=hf.len;have hz8:(af 8).length=8:=ag 8;have tN:Sem.run prog (Instr.makeSlice 29 (zi 8) (zi 8)) w=.ok (.slice (some (zp w.heap.size)) 8 8) (EM w 8):=nM w 8 Si;have hbz:=(xa w 8).bs (cI 8) (by rw[hz8];decide);have rH:=lu w 8;have hp:=lr a (some (zp w.heap.size)) cap (af 8).length L (af 8) (EM w 8) (hb.below rH) hbz hz8 hl.1 hl.2;rw[zcg hf,hz8]at hp;have HP:=ae hp;have qo:=ae rH;have kA:=LN L;clear hb hf hz8 hbz rH hp;generalize EM w 8=W0 at*;generalize nC L=P at*;generalize L.length=N at*;by_cases h8:P=8
 ·have hd:decide (P<8)=false:=qAG Sg;have sl:pgI P=0:=zy h8;rw[zy h8,aF 4 Si,sl];rw[hd,sl]at HP;clear h8 hd sl kA;exact I9
 ·have hd:decide (P<8)=true:=qAE Sg;rw[zn h8,aC];rw[hd]at HP;clear h8 hd kA;generalize pgI P=x at*;exact I9
theorem cX.OS{α:Type}{enc}{k T}{w}{B B'}{v}{l:List α}(h:cX enc k T w B' v l)(hB:B<=B'):cX enc k T w B v l:=by
 refine⟨h.1,?_⟩;rcases h.2 with h0|⟨g,cap,cur,e,h1,h2⟩
 ·exact .inl h0
 ·exact .inr ⟨g,cap,cur,e,qAF hB h1,h2⟩
theorem IC p g c B L w(h:Hp w B p g c L) :
  zC 145 #[zq p] w fun e w'=>∃v,e=.returned v/\cX Dl 2 134 w' w.heap.size v (aE L 8)/\zB w w':=by
 have HB:=ae (ei p g c B L w h);have jm:=h.B2;have hlen:=h.len;have hq:=h.bC.gR;have HR:Hid (∀W a' c',zB w W->cW W w.heap.size (.slice a' L.length c') L->zC 134 #[.slice a' L.length c'] W fun e w'=>∃v,e=zt #[v,.nilIface]/\cX Dl 2 134 w' w.heap.size v (aE L 8)/\zB w w'):=ae (fun W a' c' hW hO=>by obtain⟨a2,c2,e2,aK⟩:=hO.bs jm Sg;simp only[qAS,qBL]at e2;obtain⟨rfl,rfl⟩:=e2;refine(yD a' c' L W aK hq).mono ?_;rintro e w' ⟨v,rfl,hl,hb⟩;exact⟨v,rfl,hl.OS hW.size,hW.trans (hb.mono hW.size)⟩);generalize aE L 8=RS at*;generalize hN:L.length=N at*;go_enter func145,ntmps145
 go_wp2_with fail
 refine HB.mono ?_;rintro e w1 ⟨a1,c1,rfl,ru,ay⟩;have QR:=ae (HR w1 a1 c1 ay ru);go_wp2_with fail
 refine QR.mono ?_;rintro e w2 ⟨v2,rfl,gS,aK⟩;obtain⟨va,vm,vc,rfl⟩:=gS.shape;have HL:=ae gS;have bz:=ae aK;go_wp2;go_ret;exact⟨_,rfl,HL,bz⟩
theorem zdT q t s x w(hq:w.cell? (zp q)=some (.string s)) :
  zC 147 #[.agg #[.string t,zi x],zq q] w (zr (.bool (decide (t=s))) fun w'=>zB w w'):=by
 have qT:(w.alloc (.cells #[.string t,zi x] 134)).cell? (zp q)=some (.string s):=(((Below.refl w.heap.size w).alloc zNr _).cell (qAA hq)).trans hq;have heq:(t.toList == s.toList)=decide (t=s):=by
  by_cases e:t=s
  ·rw[qAE e];exact wJ.2 e
  ·rw[qAG e];exact gC e
 generalize decide (t=s)=D at*;go_enter func147,ntmps147
 exact zdm
theorem PQ q s a cap l w(hs:fF Dl 2 w a cap l)(hq:w.cell? (zp q)=some (.string s)) :
  zC 146 #[.slice a l.length cap,.func (.func 147) #[] #[zq q]] w fun e w'=>∃i:Int,e=.returned (zi i)/\((i=-1/\bP l s=0)\/∃k:Nat,i=k/\l[k]?=some (s,bP l s))/\zB w w':=by
 have hl:=hs.2.2.1;have HS:=ae hs;have HQ:=ae hq;generalize hLD:bP l s=V at*;have HV:Hid (bP (l.drop 0) s=V):=ae (by rw[qCE];exact hLD);clear hs hq hLD;go_enter func146,ntmps146
 go_wp2;go_loopw [5,8] (fun _ iv wr=>∃k:Nat,k<=l.length/\iv=zi k/\bP (l.drop k) s=V/\zB w wr) (fun _ iv _=>l.length-(intOf iv).toNat)
 case atStart=>exact⟨0,qAH _,rfl,HV,zBr⟩
 case round =>
  obtain⟨k,hk,rfl,hV,ai⟩:=hrel;by_cases aB:k<l.length
  ·have aG:l≠[]:=by intro e;rw[e]at aB;simp at aB
   obtain⟨b1,o1,rfl,eT⟩:=(HS.below ai).2.2.2 aG;obtain⟨f,hf⟩:∃f,l[k]?=some f:=⟨l[k],zLg aB⟩;obtain⟨q0,q1⟩:=fF.root (cap:=0) eT hf;have hq:=(ai.cell (qAA HQ)).trans HQ;rw[Y4 hf]at hV;obtain⟨t,x⟩:=f;have HC:=ae (zdT q t s x wr hq);have HFK:=ae hf;have aJ:=ae ai;dsimp only at*;clear eT hf aG hq ai;by_cases e:t=s
   ·subst e;rw[zy rfl]at hV;rw[qAE rfl]at HC;have HVV:=ae hV;clear hV;go_wp2_with (go_at_call 147;refine HC.m ?_;intro w1 ay;have aQ:=zTr aJ ay)
    go_ret;exact⟨k,rfl,.inr ⟨k,rfl,by rw[<-aa HVV];exact HFK⟩,aQ⟩
   ·rw[zn e]at hV;rw[qAG e]at HC;have HVV:=ae hV;go_wp2_with (go_at_call 147;refine HC.m ?_;intro w1 ay;have aQ:=zTr aJ ay)
    go_roundw
    case rel=>exact⟨k+1,Sg,Tc,HVV,aQ⟩
    case measure=>exact Te
  ·have Rn:k=l.length:=by omega
   have h0:V=0:=by rw[Rn,List.drop_length]at hV;exact hV.symm
   have HV0:=ae h0;have aJ:=ae ai;go_wp2;go_ret;exact⟨-1,rfl,.inl ⟨rfl,HV0⟩,aJ⟩
theorem zbQ{L}(hf:aD L){s}{x}(hm:(s,x)∈aE L 8):1<=x:=by obtain⟨i,hi,hr,e⟩:=iA.1 hm;have h2:(rowAt L i).getD 10 0=x:=qBB Prod.snd e;rw[<-h2];exact(zU hf hi hr).1
section
variable {w:World} {B p g c:Nat} {L:LI}
theorem zdR p s t w(hn:dG s=false)(hs:s.size<=140737488351232) :
  zC 97 #[zq p,.string s,zi t] w (zr (.tuple #[zi 0,bc 2]) fun w'=>zB w w'):=by
 have uD:zB w (w.alloc (.cells #[.string s] 9)):=zBr.alloc zNr _;have HP:=ae (lS s (w.alloc (.cells #[.string s] 9)) hs (fun h=>zfQ));have iX:=ae uD;rw[aF 2 Si];go_enter func97,ntmps97
 go_wp2_with fail
 refine HP.m ?_;intro w1 ay;have aQ:=zTr iX ay;go_wp2;exact zpR
theorem zhx p s t w(hn:dG s=true)(hs:s.size<=140737488351232)(ht:t < -1\/15<t) :
  zC 97 #[zq p,.string s,zi t] w (zr (.tuple #[zi 0,bc 1]) fun w'=>zB w w'):=by
 have uD:zB w (w.alloc (.cells #[.string s] 9)):=zBr.alloc zNr _;have HP:=ae (iI s (w.alloc (.cells #[.string s] 9)) hs (bH s) 0 (.inl ⟨cL.1 hn,rfl,rfl⟩));rw[aC]at HP;have iX:=ae uD;rw[aF 1 Si];by_cases h1:t < -1
 ·exact IK
 ·have h2:15<t:=by omega
  exact IK
theorem zk8(h:Hp w B p g c L) s t(hn:dG s=true)(hs:s.size<=140737488351232)(h1:¬t < -1)(h2:¬15<t) :
  zC 97 #[zq p,.string s,zi t] w (zr (.tuple #[zi (BR L s t),bc (xW L s t)]) fun w'=>zB w w'):=by
 have uD:zB w (w.alloc (.cells #[.string s] 9)):=zBr.alloc zNr _;have HP:=ae (iI s (w.alloc (.cells #[.string s] 9)) hs (bH s) 0 (.inl ⟨cL.1 hn,rfl,rfl⟩));rw[aC]at HP;have AT:(w.alloc (.cells #[.string s] 9)).cell? (zp w.heap.size)=some (.string s):=Y8;have HA:=ae (fun(W:World) (hW:zB w W)=>IC p g c B L W (h.below hW));have HI:=ae (fun(a:OA) (cap:Nat) (W:World) (lE:fF Dl 2 W a cap (aE L 8)) (hq:W.cell? (zp w.heap.size)=some (.string s))=>PQ w.heap.size s a cap (aE L 8) W lE hq);have zoL:=ae (fun(x:Int) (hm:(s,x)∈aE L 8)=>zbQ h.bC hm);have hcz:bP (aE L 8) s≠0->aX L (bP (aE L 8) s)=0:=fun h0=>by
  rcases yB h.bC s with e|⟨_,_,e⟩
  ·exact absurd e h0
  ·exact e
 have HT:Hid (∀W,zB w W->bP (aE L 8) s≠0->zC 140 #[zq p,zi (bP (aE L 8) s)] W (zr (.tuple #[zi (gU L (bP (aE L 8) s)).2.2.2,.nilIface]) fun w'=>zB W w')):=ae (fun W hW h0=>by have:=qe p g c B L (bP (aE L 8) s) W (h.below hW);rw[hcz h0,aC]at this;exact this);have hg:xW L s t=if bP (aE L 8) s=0 then 5 else if t≠-1/\t≠(gU L (bP (aE L 8) s)).2.2.2 then 8 else 0:=by unfold xW;rw[zn YB,zn Sg]
 have hgh:BR L s t=if xW L s t=0 then bP (aE L 8) s else 0:=rfl
 have xh:=iO L 8;have HE5:Hid (bP (aE L 8) s=0->xW L s t=5/\BR L s t=0):=ae (fun h0=>by
  have e1:xW L s t=5:=by rw[hg,zy h0]
  exact⟨e1,by rw[hgh,e1];rfl⟩)
 have HE8:Hid (bP (aE L 8) s≠0->t≠-1->t≠(gU L (bP (aE L 8) s)).2.2.2->xW L s t=8/\BR L s t=0):=ae (fun h0 h1 h2=>by
  have e1:xW L s t=8:=by rw[hg,zn h0,zy ⟨h1,h2⟩]
  exact⟨e1,by rw[hgh,e1];rfl⟩)
 have HE0:Hid (bP (aE L 8) s≠0->¬(t≠-1/\t≠(gU L (bP (aE L 8) s)).2.2.2)->xW L s t=0/\BR L s t=bP (aE L 8) s):=ae (fun h0 h1=>by
  have e1:xW L s t=0:=by rw[hg,zn h0,zn h1]
  exact⟨e1,by rw[hgh,e1];rfl⟩)
 have iX:=ae uD;have HQ0:=ae AT;clear h hn uD AT hcz hg hgh;generalize xW L s t=GE at*;generalize BR L s t=GH at*;generalize (gU L (bP (aE L 8) s)).2.2.2=T at*;generalize bP (aE L 8) s=V at*;generalize aE L 8=RS at*;go_enter func97,ntmps97
 go_wp2_with fail
 refine HP.mono ?_;rintro e w1 ⟨a1,c1,rfl,_,ay⟩;have Ry:=ae ((ay.cell (p:=⟨w.heap.size,0,none⟩) (qAA HQ0)).trans HQ0);have aQ:=zTr iX ay;have HA1:=ae (HA w1 aQ);clear ay HP iX HQ0 HA;generalize (bH s).length=nl at*;go_wp2_with fail
 refine HA1.mono ?_;rintro e w2 ⟨v2,rfl,gS,aK⟩;obtain⟨a2,c2,rfl,oy⟩:=gS.uM tw Sg;have qT:=(aK.cell (p:=⟨w.heap.size,0,none⟩) (qAA Ry)).trans Ry;have HI2:=ae (HI a2 c2 w2 oy qT);have rJ:=ae oy;have bz:=zTr aQ aK;clear gS oy aK qT HA1 Ry aQ HI;go_wp2_with fail
 refine HI2.mono ?_;rintro e w3 ⟨i,rfl,hi,bD⟩;have dF:=zTr bz bD;rcases hi with ⟨rfl,rfl⟩|⟨k,rfl,hk⟩
 ·have HX:=ae (HE5 rfl);clear bD HI2 rJ bz HE5 HE8 HE0;go_wp2;go_ret2;exact⟨by rw[HX.1,HX.2];rfl,dF⟩
 ·have hv:V≠0:=by have:=zoL V (qAs hk);omega
  have tP:=(zLs hk).1;obtain⟨b1,o1,rfl,eT⟩:=(rJ.below bD).2.2.2 zlG;obtain⟨q0,q1⟩:=fF.root (cap:=0) eT hk;dsimp only at q0 q1;have MD:=ae (HT w3 dF hv);have HVN:=ae hv;generalize RS.length=m at*;go_wp2_with fail
  refine MD.m ?_;intro w4 eU;have fh:=zTr dF eU;by_cases ht:t=-1
  ·have HX:=ae (HE0 HVN (fun h=>h.1 ht));subst ht;exact zje
  ·have htb:=qBZ.2 ht;by_cases hT:t=T
   ·have HX:=ae (HE0 HVN (fun h=>h.2 hT));subst hT;have hTb:(t != t)=false:=by simp
    exact zje
   ·have HX:=ae (HE8 HVN ht hT);have hTb:=qBZ.2 hT;exact zje
theorem X5(h:Hp w B p g c L) s t(hs:s.size<=140737488351232) :
  zC 97 #[zq p,.string s,zi t] w (zr (.tuple #[zi (BR L s t),bc (xW L s t)]) fun w'=>zB w w'):=by
 cases hn:dG s with
 | false =>
  have e1:xW L s t=2:=by unfold xW;rw[hn];rfl
  have e2:BR L s t=0:=by unfold BR;rw[e1];rfl
  rw[e1,e2];exact zdR p s t w hn hs
 | true =>
  by_cases ht:t < -1\/15<t
  ·have e1:xW L s t=1:=by unfold xW;rw[hn,zn Sk,zy ht]
   have e2:BR L s t=0:=by unfold BR;rw[e1];rfl
   rw[e1,e2];exact zhx p s t w hn hs ht
  ·exact zk8 h s t hn hs Sg Sg
end
section
variable {w:World} {B p g c:Nat} {L:LI}
theorem Bm(h:Hp w B p g c L)(hB:B<=w.heap.size) i r(hs:r.1.size<=140737488351232)(h0:EA L i r=0)(hf:aD (rn L i r)) :
  zC 144 #[zq p,zi i,.agg #[.string r.1,zi r.2]] w (zr .nilIface fun w'=>∃g' c',Hp w' B p g' c' (rn L i r)/\au (bA p g) (bA p g') w w'):=by
 have uD:zB w (w.alloc (.cells #[.string r.1,zi r.2] 134)):=zBr.alloc zNr _;have jm:=h.B2;have hlen:=h.len;have si:=wU h0;have vP:(w.alloc (.cells #[.string r.1,zi r.2] 134)).cell? (zp w.heap.size)=some (.string r.1):=Y8;have eT:(w.alloc (.cells #[.string r.1,zi r.2] 134)).cell? (zw w.heap.size 1)=some (zi r.2):=Y8;have iE:=ae (fun(W:World) (hW:zB w W)=>ei p g c B L W (h.below hW));have Mh:Hid (∀ (W W':World) a' c',zB w W->cW W W'.heap.size (.slice a' L.length c') L->zC 201 #[.slice a' L.length c',zi i,.agg #[.string r.1,zi r.2]] W fun e w'=>∃a2 c2,e=zt #[.slice a2 L.length c2,.nilIface]/\Bs w' a2 c2 (rn L i r)/\zB w w'/\zB W w'):=ae (fun W W' a' c' hW hO=>by obtain⟨a2,c2,e2,aK⟩:=hO.bs jm Sg;simp only[qAS,qBL]at e2;obtain⟨rfl,rfl⟩:=e2;have:=Lg a' c' L i r W aK hs;rw[h0,aC]at this;refine this.mono ?_;rintro e w' ⟨a3,c3,rfl,bD,hb⟩;exact⟨a3,c3,by rw[si],bD,hW.trans (hb.mono hW.size),hb⟩);have HRP:Hid (∀W a2 c2,zB w W->Bs W a2 c2 (rn L i r)->zC 152 #[zq p,.slice a2 L.length c2] W (zr .nilIface fun w'=>∃g' c',Hp w' B p g' c' (rn L i r)/\au (bA p g) (bA p g') w w')):=ae (fun W a2 c2 hW hb=>by have:=tR (h.below hW) (qAF hB hW.size) hb hf si;rw[si]at this;refine this.mono ?_;rintro e w' ⟨rfl,g',c',hh,ht⟩;exact⟨rfl,g',c',hh,(au.aI hW).trans ht⟩);have iX:=ae uD;obtain⟨rs,rh⟩:=r;dsimp only at*;clear h hf h0 jm si hB;generalize rn L i (rs,rh)=PL at*;generalize L.length=N at*;go_enter func144,ntmps144
 go_wp2_with fail
 generalize Wb:w.alloc (.cells #[.string rs,zi rh] 134)=wx at*;have zaG:Hid (zC 141 #[zq p] wx.drew fun e w'=>∃a' c',e=.returned (.slice a' N c')/\w'.cell? (zp w.heap.size)=some (.string rs)/\w'.cell? (zw w.heap.size 1)=some (zi rh)/\Hid (zC 201 #[.slice a' N c',zi i,.agg #[.string rs,zi rh]] w' fun e w'=>∃a2 c2,e=zt #[.slice a2 N c2,.nilIface]/\w'.cell? (zp w.heap.size)=some (.string rs)/\w'.cell? (zw w.heap.size 1)=some (zi rh)/\Hid (Bs w' a2 c2 PL/\zB w w'))):=ae (by have hd:=bF iX;refine(iE wx.drew hd).mono ?_;rintro e w1 ⟨a',c',rfl,ho,ay⟩;have ia:=hd.trans (ay.mono hd.size);have AT:=(ay.cell (p:=⟨w.heap.size,0,none⟩) (qAA vP)).trans vP;have CX:=(ay.cell (p:=⟨w.heap.size,1,none⟩) (qAA eT)).trans eT;refine⟨a',c',rfl,AT,CX,ae ((Mh w1 wx.drew a' c' ia ho).mono ?_)⟩;rintro e w2 ⟨a2,c2,rfl,gy,aK,rH⟩;exact⟨a2,c2,rfl,(rH.cell (p:=⟨w.heap.size,0,none⟩) (qAA AT)).trans AT,(rH.cell (p:=⟨w.heap.size,1,none⟩) (qAA CX)).trans CX,ae ⟨gy,aK⟩⟩);go_region_held3 (fun w'=>w'.cell? (zp w.heap.size)=some (.string rs)/\w'.cell? (zw w.heap.size 1)=some (zi rh)) (first | go_keep | (go_split_ands;refine⟨?_,?_⟩ <;> go_keep))
  (first|(go_at_call 141;refine zaG.mono ?_;rintro e w1 ⟨a',c',rfl,r0,r1,nh⟩)|(go_at_call 201;refine nh.mono ?_;rintro e w2 ⟨a2,c2,rfl,s0,s1,W4⟩))
 have zoJ:=ae (HRP w2 a2 c2 W4.2 W4.1);go_wp2_with fail
 refine zoJ.m ?_;rintro w3 ⟨g',c',hh,ht⟩;have HH:=ae hh;have HT:=ae ht;go_wp2;go_ret;exact⟨rfl,g',c',HH,HT⟩
theorem zbt p s x w(hn:dG s=false)(hs:s.size<=140737488351232) :
  zC 95 #[zq p,.string s,zi x] w (zr (.tuple #[.bool false,bc 2]) fun w'=>zB w w'):=by
 have HP:=ae (lS s w hs (fun h=>zfQ));rw[aF 2 Si];go_enter func95,ntmps95
 go_wp2_with fail
 refine HP.m ?_;exact zmR
theorem zfZ(h:Hp w B p g c L) s x(hn:dG s=true)(hs:s.size<=140737488351232)(hc:aX L x≠0) :
  zC 95 #[zq p,.string s,zi x] w (zr (.tuple #[.bool false,bc (aX L x)]) fun w'=>zB w w'):=by
 have HP:=ae (iI s w hs (bH s) 0 (.inl ⟨cL.1 hn,rfl,rfl⟩));rw[aC]at HP;have HT:=ae (fun W hW=>qe p g c B L x W (h.below hW));rw[aF _ hc]at HT ⊢;generalize (gU L x).2.2.2=T,aX L x=X,bH s=NL at*;go_enter func95,ntmps95
 go_wp2_with fail
 refine HP.mono ?_;rintro e w1 ⟨a1,c1,rfl,_,ay⟩;have Hv:=ae (HT w1 ay);have aQ:=ae ay;go_wp2_with fail
 refine Hv.m ?_;exact zpn
theorem XK(h:Hp w B p g c L)(hB:B<=w.heap.size) s x(hn:dG s=true)(hs:s.size<=140737488351232)(hc:aX L x=0)(hp:ie L s<8) :
  zC 95 #[zq p,.string s,zi x] w (zr (.tuple #[.bool false,.nilIface]) fun w'=>∃g' c',Hp w' B p g' c' (mG L s x)/\au (bA p g) (bA p g') w w'):=by
 have BI:(bH s).length=8:=cE s (cL.1 hn).2.1;have HP:Hid (zC 139 #[.string s] w fun e w'=>∃a c,e=zt #[.slice a 8 c,.nilIface]/\Bs w' a c (bH s)/\zB w w'):=ae zcm;have HT:=ae (fun(W:World) (hW:zB w W)=>qe p g c B L x W (h.below hW));rw[hc,aC]at HT;have iE:=ae (fun(W:World) (hW:zB w W)=>ei p g c B L W (h.below hW));have hlen:=h.len;have jm:=h.B2;have yZ:Hid (∀ (W:World) (la a':OA) (lc c':Nat),Bs W la lc (bH s)->Bs W a' c' L->zC 142 #[.slice a' L.length c',.slice la 8 lc] W (zr (.tuple #[zi (ie L s),.bool true]) fun w'=>zB W w')):=ae (fun W la a' lc c' h1 h2=>zoi);have hI:nL L s=ie L s:=by unfold nL;rw[zy hp]
 have h0:js L s x=0:=zld;obtain⟨g1,g2,_,_⟩:=ou h.bC h0;obtain⟨k1,k2⟩:=zbz h.bC h0;have xJ:Hid (∀W,zB w W->zC 144 #[zq p,zi (ie L s),.agg #[.string s,zi x]] W (zr .nilIface fun w'=>∃g' c',Hp w' B p g' c' (mG L s x)/\au (bA p g) (bA p g') w w')):=ae (fun W hW=>by rw[hI]at g1 k1 k2;have:=Bm (h.below hW) (qAF hB hW.size) (ie L s) (s,x) hs g1 k2;rw[k1]at this;refine this.mono ?_;rintro e w' ⟨rfl,g',c',hh,ht⟩;exact⟨rfl,g',c',hh,(au.aI hW).trans ht⟩);clear g1 g2 k1 k2 h0 hI;have Gi:Hid (∀ (W:World) (D:Nat) (a':OA) (c':Nat),cW W D (.slice a' L.length c') L->Bs W a' c' L):=ae (fun W D a' c' ho=>zcj);clear h hn hc hB jm BI hp;generalize (gU L x).2.2.2=T,bH s=NL,mG L s x=SB,ie L s=P,L.length=N at*;go_enter func95,ntmps95
 go_wp2_with fail
 refine HP.mono ?_;rintro e w1 ⟨a1,c1,rfl,kT,ay⟩;have Hv:=ae (HT w1 ay);have Gl:=ae kT;have aQ:=ae ay;go_wp2_with fail
 refine Hv.m ?_;intro w2 aK;have dr:=zTs aQ aK;have Q0:=ae (Gl.below aK);have xL:=ae (iE w2 dr);have bz:=ae dr;go_wp2_with fail
 refine xL.mono ?_;rintro e w3 ⟨a3,c3,rfl,xi,bD⟩;have nV:=Gi w3 _ a3 c3 xi;have AM:=ae (yZ w3 a1 a3 c1 c3 (Q0.below bD) nV);have QP:=ae nV;have dF:=zTr bz bD;go_wp2_with fail
 refine AM.m ?_;intro w4 eU;have qW:=zTs dF eU;have QS:=ae (xJ w4 qW);go_wp2_with fail
 refine QS.m ?_;rintro w5 ⟨g',c',hh,ht⟩;exact zny
theorem zf0(h:Hp w B p g c L)(hB:B<=w.heap.size) s x(hn:dG s=true)(hs:s.size<=140737488351232)(hc:aX L x=0)(hp:ie L s=8)(hf:nC L<8) :
  zC 95 #[zq p,.string s,zi x] w (zr (.tuple #[.bool true,.nilIface]) fun w'=>∃g' c',Hp w' B p g' c' (mG L s x)/\au (bA p g) (bA p g') w w'):=by
 have BI:(bH s).length=8:=cE s (cL.1 hn).2.1;have HP:Hid (zC 139 #[.string s] w fun e w'=>∃a c,e=zt #[.slice a 8 c,.nilIface]/\Bs w' a c (bH s)/\zB w w'):=ae zcm;have HT:=ae (fun(W:World) (hW:zB w W)=>qe p g c B L x W (h.below hW));rw[hc,aC]at HT;have iE:=ae (fun(W:World) (hW:zB w W)=>ei p g c B L W (h.below hW));have hlen:=h.len;have jm:=h.B2;have yZ:Hid (∀ (W:World) (la a':OA) (lc c':Nat),Bs W la lc (bH s)->Bs W a' c' L->zC 142 #[.slice a' L.length c',.slice la 8 lc] W (zr (.tuple #[zi 0,.bool false]) fun w'=>zB W w')):=ae (fun W la a' lc c' h1 h2=>zl3);have HFN:Hid (∀ (W:World) (a':OA) (c':Nat),Bs W a' c' L->zC 143 #[.slice a' L.length c'] W (zr (.tuple #[zi (nC L),.nilIface]) fun w'=>zB W w')):=ae (fun W a' c' hb=>by have:=xX a' c' L W hb h.bC;rw[show pgI (nC L)=(nC L:Int)from zn Sg,zn Sg,aC]at this;exact this);have hI:nL L s=nC L:=by unfold nL;rw[zn Sg]
 have h0:js L s x=0:=zld;obtain⟨g1,g2,_,_⟩:=ou h.bC h0;obtain⟨k1,k2⟩:=zbz h.bC h0;have xJ:Hid (∀W,zB w W->zC 144 #[zq p,zi (nC L),.agg #[.string s,zi x]] W (zr .nilIface fun w'=>∃g' c',Hp w' B p g' c' (mG L s x)/\au (bA p g) (bA p g') w w')):=ae (fun W hW=>by rw[hI]at g1 k1 k2;have:=Bm (h.below hW) (qAF hB hW.size) (nC L) (s,x) hs g1 k2;rw[k1]at this;refine this.mono ?_;rintro e w' ⟨rfl,g',c',hh,ht⟩;exact⟨rfl,g',c',hh,(au.aI hW).trans ht⟩);clear g1 g2 k1 k2 h0 hI;have Gi:Hid (∀ (W:World) (D:Nat) (a':OA) (c':Nat),cW W D (.slice a' L.length c') L->Bs W a' c' L):=ae (fun W D a' c' ho=>zcj);clear h hn hc hB jm BI hp hf;generalize (gU L x).2.2.2=T,bH s=NL,mG L s x=SB,nC L=P,L.length=N at*;go_enter func95,ntmps95
 go_wp2_with fail
 refine HP.mono ?_;rintro e w1 ⟨a1,c1,rfl,kT,ay⟩;have Hv:=ae (HT w1 ay);have Gl:=ae kT;have aQ:=ae ay;go_wp2_with fail
 refine Hv.m ?_;intro w2 aK;have dr:=zTs aQ aK;have Q0:=ae (Gl.below aK);have xL:=ae (iE w2 dr);have bz:=ae dr;go_wp2_with fail
 refine xL.mono ?_;rintro e w3 ⟨a3,c3,rfl,xi,bD⟩;have nV:=Gi w3 _ a3 c3 xi;have AM:=ae (yZ w3 a1 a3 c1 c3 (Q0.below bD) nV);have QP:=ae nV;have dF:=zTr bz bD;go_wp2_with fail
 refine AM.m ?_;intro w4 eU;have qW:=zTs dF eU;have zfi:=ae (HFN w4 a3 c3 (QP.below eU));have fh:=ae qW;go_wp2_with fail
 refine zfi.m ?_;intro w5 il;have ziW:=ae (xJ w5 (zTs fh il));go_wp2_with fail
 refine ziW.m ?_;rintro w6 ⟨g',c',hh,ht⟩;exact zny
theorem zbv(h:Hp w B p g c L)(hB:B<=w.heap.size) s x(hn:dG s=true)(hs:s.size<=140737488351232)(hc:aX L x=0)(hp:ie L s=8)(hf:nC L=8) :
  zC 95 #[zq p,.string s,zi x] w (zr (.tuple #[.bool false,bc 4]) fun w'=>zB w w'):=by
 have BI:(bH s).length=8:=cE s (cL.1 hn).2.1;have HP:Hid (zC 139 #[.string s] w fun e w'=>∃a c,e=zt #[.slice a 8 c,.nilIface]/\Bs w' a c (bH s)/\zB w w'):=ae zcm;have HT:=ae (fun(W:World) (hW:zB w W)=>qe p g c B L x W (h.below hW));rw[hc,aC]at HT;have iE:=ae (fun(W:World) (hW:zB w W)=>ei p g c B L W (h.below hW));have hlen:=h.len;have jm:=h.B2;have yZ:Hid (∀ (W:World) (la a':OA) (lc c':Nat),Bs W la lc (bH s)->Bs W a' c' L->zC 142 #[.slice a' L.length c',.slice la 8 lc] W (zr (.tuple #[zi 0,.bool false]) fun w'=>zB W w')):=ae (fun W la a' lc c' h1 h2=>zl3);have HFN:Hid (∀ (W:World) (a':OA) (c':Nat),Bs W a' c' L->zC 143 #[.slice a' L.length c'] W (zr (.tuple #[zi 0,.iface 105 (zi 4)]) fun w'=>zB W w')):=ae (fun W a' c' hb=>by have:=xX a' c' L W hb h.bC;rw[show pgI (nC L)=0 from zy hf,zy hf,aF 4 Si]at this;exact this);rw[aF 4 Si];have Gi:Hid (∀ (W:World) (D:Nat) (a':OA) (c':Nat),cW W D (.slice a' L.length c') L->Bs W a' c' L):=ae (fun W D a' c' ho=>zcj);generalize (gU L x).2.2.2=T,bH s=NL,L.length=N at*;go_enter func95,ntmps95
 go_wp2_with fail
 refine HP.mono ?_;rintro e w1 ⟨a1,c1,rfl,kT,ay⟩;have Hv:=ae (HT w1 ay);have Gl:=ae kT;have aQ:=ae ay;go_wp2_with fail
 refine Hv.m ?_;intro w2 aK;have dr:=zTs aQ aK;have Q0:=ae (Gl.below aK);have xL:=ae (iE w2 dr);have bz:=ae dr;go_wp2_with fail
 refine xL.mono ?_;rintro e w3 ⟨a3,c3,rfl,xi,bD⟩;have nV:=Gi w3 _ a3 c3 xi;have AM:=ae (yZ w3 a1 a3 c1 c3 (Q0.below bD) nV);have QP:=ae nV;have dF:=zTr bz bD;go_wp2_with fail
 refine AM.m ?_;intro w4 eU;have qW:=zTs dF eU;have zfi:=ae (HFN w4 a3 c3 (QP.below eU));have fh:=ae qW;go_wp2_with fail
 refine zfi.m ?_;intro w5 il;have oM:=zTr fh il;go_wp2;go_ret2;exact⟨rfl,oM⟩
theorem X4(h:Hp w B p g c L)(hB:B<=w.heap.size) s x(hs:s.size<=140737488351232) :
  zC 95 #[zq p,.string s,zi x] w (zr (.tuple #[.bool (Q8 L s x),bc (js L s x)]) fun w'=>∃g' c',Hp w' B p g' c' (Dj L s x)/\au (bA p g) (bA p g') w w'):=by
 have key:∀E:Int,E≠0->js L s x=E->zC 95 #[zq p,.string s,zi x] w ((zr (.tuple #[.bool false,bc E]) fun w'=>zB w w'))->zC 95 #[zq p,.string s,zi x] w (zr (.tuple #[.bool (Q8 L s x),bc (js L s x)]) fun w'=>∃g' c',Hp w' B p g' c' (Dj L s x)/\au (bA p g) (bA p g') w w'):=fun E hE he mx=>by
  have e1:Q8 L s x=false:=by unfold Q8;rw[he,qAG hE];rfl
  have e2:Dj L s x=L:=by unfold Dj;rw[he,zn hE]
  rw[e1,e2,he];exact zoo
 cases hn:dG s with
 | false=>exact key 2 Si (by unfold js;rw[hn];rfl) (zbt p s x w hn hs)
 | true =>
  by_cases hc:aX L x=0
  ·have hle:=tC L s;have AU:=LN L;by_cases hp:ie L s<8
   ·have hI:nL L s=ie L s:=by unfold nL;rw[zy hp]
    have h0:js L s x=0:=zld;have e1:Q8 L s x=false:=by unfold Q8 Mq;rw[qAG (show ¬ie L s=8 by omega),Bool.and_false]
    have e2:Dj L s x=mG L s x:=by unfold Dj;rw[zy h0]
    rw[e1,e2,h0,aC];exact XK h hB s x hn hs hc hp
   ·have hp8:ie L s=8:=by omega
    have hI:nL L s=nC L:=by unfold nL;rw[zn hp]
    by_cases hf:nC L<8
    ·have h0:js L s x=0:=by unfold js;rw[zn YB,zn (fun h=>h hc),hI,zn Sg]
     have e1:Q8 L s x=true:=by unfold Q8 Mq;rw[qAE hp8,qAE h0];rfl
     have e2:Dj L s x=mG L s x:=by unfold Dj;rw[zy h0]
     rw[e1,e2,h0,aC];exact zf0 h hB s x hn hs hc hp8 hf
    ·have hf8:nC L=8:=by omega
     exact key 4 Si (by unfold js;rw[zn YB,zn (fun h=>h hc),hI,zy hf8]) (zbv h hB s x hn hs hc hp8 hf8)
  ·exact key _ hc (by unfold js;rw[zn YB,zy hc]) (zfZ h s x hn hs hc)
end
section
variable {w:World} {B p g c:Nat} {L:LI}
theorem R4 p s w(hn:dG s=false)(hs:s.size<=140737488351232) :
  zC 96 #[zq p,.string s] w (zr (bc 2) fun w'=>zB w w'):=by
 have HP:=ae (lS s w hs (fun h=>zfQ));rw[aF 2 Si];go_enter func96,ntmps96
 go_wp2_with fail
 refine HP.m ?_;intro w1 ay;have aQ:=ae ay;exact ziT
theorem za1(h:Hp w B p g c L)(hB:B<=w.heap.size) s(hn:dG s=true)(hs:s.size<=140737488351232)(hp:ie L s=8) :
  zC 96 #[zq p,.string s] w (zr (bc 5) fun w'=>zB w w'):=by
 have BI:(bH s).length=8:=cE s (cL.1 hn).2.1;have HP:Hid (zC 139 #[.string s] w fun e w'=>∃a c,e=zt #[.slice a 8 c,.nilIface]/\Bs w' a c (bH s)/\zB w w'):=ae zcm;have iE:=ae (fun(W:World) (hW:zB w W)=>ei p g c B L W (h.below hW));have hlen:=h.len;have jm:=h.B2;have yZ:Hid (∀ (W:World) (la a':OA) (lc c':Nat),Bs W la lc (bH s)->Bs W a' c' L->zC 142 #[.slice a' L.length c',.slice la 8 lc] W (zr (.tuple #[zi 0,.bool false]) fun w'=>zB W w')):=ae (fun W la a' lc c' h1 h2=>zl3);rw[aF 5 Si];have Gi:Hid (∀ (W:World) (D:Nat) (a':OA) (c':Nat),cW W D (.slice a' L.length c') L->Bs W a' c' L):=ae (fun W D a' c' ho=>zcj);generalize bH s=NL,L.length=N at*;go_enter func96,ntmps96
 go_wp2_with fail
 refine HP.mono ?_;rintro e w1 ⟨a1,c1,rfl,kT,ay⟩;have xL:=ae (iE w1 ay);have Q0:=ae kT;have bz:=ae ay;go_wp2_with fail
 refine xL.mono ?_;rintro e w3 ⟨a3,c3,rfl,xi,bD⟩;have nV:=Gi w3 _ a3 c3 xi;have AM:=ae (yZ w3 a1 a3 c1 c3 (Q0.below bD) nV);have dF:=zTr bz bD;go_wp2_with fail
 refine AM.m ?_;intro w4 eU;have qW:=zTs dF eU;have fh:=ae qW;go_wp2;go_ret;exact⟨rfl,fh⟩
theorem Xq(h:Hp w B p g c L)(hB:B<=w.heap.size) s(hn:dG s=true)(hs:s.size<=140737488351232)(hp:ie L s<8) :
  zC 96 #[zq p,.string s] w (zr .nilIface fun w'=>∃g' c',Hp w' B p g' c' (Gt L s)/\au (bA p g) (bA p g') w w'):=by
 have BI:(bH s).length=8:=cE s (cL.1 hn).2.1;have HP:Hid (zC 139 #[.string s] w fun e w'=>∃a c,e=zt #[.slice a 8 c,.nilIface]/\Bs w' a c (bH s)/\zB w w'):=ae zcm;have iE:=ae (fun(W:World) (hW:zB w W)=>ei p g c B L W (h.below hW));have hlen:=h.len;have jm:=h.B2;have yZ:Hid (∀ (W:World) (la a':OA) (lc c':Nat),Bs W la lc (bH s)->Bs W a' c' L->zC 142 #[.slice a' L.length c',.slice la 8 lc] W (zr (.tuple #[zi (ie L s),.bool true]) fun w'=>zB W w')):=ae (fun W la a' lc c' h1 h2=>zoi);have h0:pB L s=0:=by unfold pB;rw[zn YB,zn Sg]
 have hfu:=De h.bC h0;obtain⟨g1,g2⟩:=zi8 h.bC hp;have xJ:Hid (∀W,zB w W->zC 144 #[zq p,zi (ie L s),.agg #[.string { data:=#[]},zi 0]] W (zr .nilIface fun w'=>∃g' c',Hp w' B p g' c' (Gt L s)/\au (bA p g) (bA p g') w w')):=ae (fun W hW=>by have:=Bm (h.below hW) (qAF hB hW.size) (ie L s) (({ data:=#[]}:BA),0) Si g1 (by rw[g2];exact hfu);rw[g2]at this;refine this.mono ?_;rintro e w' ⟨rfl,g',c',hh,ht⟩;exact⟨rfl,g',c',hh,(au.aI hW).trans ht⟩);clear g1 g2 h0 hfu;have Gi:Hid (∀ (W:World) (D:Nat) (a':OA) (c':Nat),cW W D (.slice a' L.length c') L->Bs W a' c' L):=ae (fun W D a' c' ho=>zcj);generalize bH s=NL,Gt L s=SB,ie L s=P,L.length=N at*;go_enter func96,ntmps96
 go_wp2_with fail
 refine HP.mono ?_;rintro e w1 ⟨a1,c1,rfl,kT,ay⟩;have xL:=ae (iE w1 ay);have Q0:=ae kT;have bz:=ae ay;go_wp2_with fail
 refine xL.mono ?_;rintro e w3 ⟨a3,c3,rfl,xi,bD⟩;have nV:=Gi w3 _ a3 c3 xi;have AM:=ae (yZ w3 a1 a3 c1 c3 (Q0.below bD) nV);have dF:=zTr bz bD;go_wp2_with fail
 refine AM.m ?_;intro w4 eU;have qW:=zTs dF eU;have QS:=ae (xJ w4 qW);go_wp2_with fail
 refine QS.m ?_;rintro w5 ⟨g',c',hh,ht⟩;have HH:=ae hh;have Hu:=ae ht;go_wp2;go_ret;exact⟨rfl,g',c',HH,Hu⟩
theorem Ny(h:Hp w B p g c L)(hB:B<=w.heap.size) s(hs:s.size<=140737488351232) :
  zC 96 #[zq p,.string s] w (zr (bc (pB L s)) fun w'=>∃g' c',Hp w' B p g' c' (Gs L s)/\au (bA p g) (bA p g') w w'):=by
 have key:∀E:Int,E≠0->pB L s=E->zC 96 #[zq p,.string s] w ((zr (bc E) fun w'=>zB w w'))->zC 96 #[zq p,.string s] w (zr (bc (pB L s)) fun w'=>∃g' c',Hp w' B p g' c' (Gs L s)/\au (bA p g) (bA p g') w w'):=fun E hE he mx=>by
  have e2:Gs L s=L:=by unfold Gs;rw[he,zn hE]
  rw[e2,he];exact zoo
 cases hn:dG s with
 | false=>exact key 2 Si (by unfold pB;rw[hn];rfl) (R4 p s w hn hs)
 | true =>
  have hle:=tC L s;by_cases hp:ie L s<8
  ·have h0:pB L s=0:=by unfold pB;rw[zn YB,zn Sg]
   have e2:Gs L s=Gt L s:=by unfold Gs;rw[zy h0]
   rw[e2,h0,aC];exact Xq h hB s hn hs hp
  ·have hp8:ie L s=8:=by omega
   exact key 5 Si (by unfold pB;rw[zn YB,zy hp8]) (za1 h hB s hn hs hp8)
