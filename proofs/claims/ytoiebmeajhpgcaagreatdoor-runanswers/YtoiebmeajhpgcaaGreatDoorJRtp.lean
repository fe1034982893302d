import Derived.Test.YtoiebmeajhpgcaaGreatDoorJHal
set_option maxRecDepth 100000
set_option maxHeartbeats 16000000
set_option linter.all false
namespace Go.Proofs.YtoiebmeajhpgcaaGreatDoor
variable {b L l:LI}{s:BA}{h:Int}{i k:Nat}{r:(BA×Int)}
open Go.RowKit
def vH(b:LI)(s:BA)(i:Nat):Bool:=decide ((bI ((rowAt b i).take 8)).2=0)&&decide ((bI ((rowAt b i).take 8)).1=s)
def ie(b:LI)(s:BA):Nat:=tU (vH b s) 8
def nC(b:LI):Nat:=tU (fun i=>!isRoot (rowAt b i)) 8
def nL(b:LI)(s:BA):Nat:=if ie b s<8 then ie b s else nC b
def js(b:LI)(s:BA)(h:Int):Int:=if dG s=false then 2 else if aX b h≠0 then aX b h else if nL b s=8 then 4 else 0
def mG(b:LI)(s:BA)(h:Int):LI:=rn b (nL b s) (s,h)
def Mq(b:LI)(s:BA):Bool:=decide (ie b s=8)
def pB(b:LI)(s:BA):Int:=if dG s=false then 2 else if ie b s=8 then 5 else 0
def Gt(b:LI)(s:BA):LI:=splice b (200+11*ie b s) (af 11)
theorem je b s:cd (vH b s) 8 (ie b s):=bS _ _
theorem pL b:cd (fun i=>!isRoot (rowAt b i)) 8 (nC b):=bS _ _
theorem tC b s:ie b s<=8:=(je b s).1
theorem LN b:nC b<=8:=(pL b).1
theorem zjq b s:nL b s<=8:=by
 unfold nL;split
 ·exact tC b s
 ·exact LN b
theorem ou(hf:aD b)(h0:js b s h=0):EA b (nL b s) (s,h)=0/\nL b s<8/\dG s=true/\aX b h=0:=by
 unfold js at h0;cases hn:dG s with
 | false=>rw[hn,zy rfl]at h0;exact absurd h0 Si
 | true =>
  rw[hn,zn Sk]at h0;by_cases hc:aX b h=0
  ·rw[zn (fun h=>h hc)]at h0;by_cases hi:nL b s=8
   ·rw[zy hi]at h0;exact Y2
   ·have hle:=zjq b s;obtain⟨q1,q2,q3⟩:=aV.1 hc;have hh:=aN.1 q2;refine⟨rT.2 ⟨hf.gR,Sg,Sg,?_⟩,Sg,rfl,hc⟩;unfold fA;have hnr:¬kp (s,h)=true:=fun hx=>by have:=(iP.1 hx).2;dsimp only at this;omega
    rw[zn hnr,zn (by rw[q2];simp),zy hn]
  ·rw[zy hc]at h0;exact absurd h0 hc
def nD(L:LI)(h:Int):Int:=if aX L h≠0 then aX L h else if (aE L 8).any (fun r=>r.2 == h)=true then 7 else 0
def sZ(L:LI)(h:Int):LI:=if nD L h=0 then cK L h else L
theorem qh:nD L h=0 ↔ aX L h=0/\(aE L 8).any (fun r=>r.2 == h)=false:=by
 unfold nD;by_cases h0:aX L h=0
 ·rw[zn (fun h=>h h0)];cases h1:(aE L 8).any (fun r=>r.2 == h)with
  | true=>rw[zy rfl];exact⟨fun h=>absurd h Si,fun h=>by cases h.2⟩
  | false=>rw[zn Sk];exact⟨fun _=>⟨h0,rfl⟩,fun _=>rfl⟩
 ·exact zmj
theorem lz:∀ {k i:Nat},i<k->isRoot (rowAt b i)=true->rootOf (rowAt b i)∈aE b k
 | 0,i,h,_=>absurd h (qAX i)
 | k+1,i,h,hr=>by
  unfold aE;by_cases e:i=k
  ·subst e;rw[zy hr];simp
  ·exact List.mem_append.2 (.inl (lz Sg hr))
theorem WE(hf:aD L)(h0:nD L h=0):aD (cK L h):=by obtain⟨h1,h2⟩:=qh.1 h0;refine(sD hf h1 (fun i hi hr e=>?_)).1;have hm:=lz hi hr;have:=qBz.1 h2 _ hm;apply this;rw[qCA];exact e
theorem AF(hb:bZ L) h:bZ (cK L h):=by
 unfold cK;split
 ·exact dB hb (cI 5)
 ·exact fun z hz=>Vt
section
variable {b c:LI}
theorem Oy{x}:∀ {k:Nat},x∈dD b k->∃i,i<k/\isRoot (rowAt b i)=true/\nameAt b i=x
 | 0,h=>Um
 | k+1,h=>by
  have h':=h;rcases zMa h' with h1|h1
  ·obtain⟨i,hi,hr⟩:=Oy h1;exact⟨i,Sg,hr⟩
  ·by_cases hf:eM b k (dD b k)=true
   ·rw[zy hf]at h1;have Rq:=hf;unfold eM at Rq;rw[qAa]at Rq;exact⟨k,Sg,Rq.1,(zMs h1).symm⟩
   ·rw[zn hf]at h1;cases h1
theorem zcx(hf:∀i,i<8->fa b i=[])(hi:i<k)(hk:k<=8)(hr:isRoot (rowAt b i)=true):nameAt b i∈dD b k:=by
 induction k with
 | zero=>omega
 | succ k ih =>
  show nameAt b i∈dD b k++if eM b k (dD b k)=true then [nameAt b k]else []
  by_cases e:i=k
  ·subst e;rcases eG.1 (hf i Sg)with h0|h0
   ·rw[h0]at hr;cases hr
   ·rw[zy h0];simp
  ·exact List.mem_append.2 (.inl (ih Sg Sg))
theorem jM:(∀i,i<8->fa b i=[]) ↔ (∀i,i<8->isRoot (rowAt b i)=true->ua b i=false)/\∀i j,i<j->j<8->isRoot (rowAt b i)=true->isRoot (rowAt b j)=true->nameAt b i≠nameAt b j:=by
 haveI:=B4
 constructor
 ·intro hf;have Jn:∀i,i<8->isRoot (rowAt b i)=true->ua b i=false/\(dD b i).contains (nameAt b i)=false:=fun i hi hr=>by
   rcases eG.1 (hf i hi)with h0|h0
   ·rw[h0]at hr;cases hr
   ·unfold eM at h0;rw[qAa,qAa,qCs,qCs]at h0;exact h0.2
  refine⟨fun i hi hr=>(Jn i hi hr).1,fun i j hij hj hi hr e=>?_⟩;have h1:=(Jn j hj hr).2;rw[<-e,qDD.2 (zcx hf hij Sg hi)]at h1;cases h1
 ·rintro ⟨h1,h2⟩ i hi;refine eG.2 ?_;cases hr:isRoot (rowAt b i)with
  | false=>exact .inl rfl
  | true =>
   refine .inr ?_;unfold eM;rw[hr,h1 i hi hr];cases hc:(dD b i).contains (nameAt b i)with
   | false=>rfl
   | true =>obtain⟨j,hj,hjr,e⟩:=Oy (qDD.1 hc);exact absurd e (h2 j i hj hi hjr hr)
theorem iA:∀ {k:Nat},r∈aE b k ↔ ∃i,i<k/\isRoot (rowAt b i)=true/\rootOf (rowAt b i)=r
 | 0=>by simp[aE]
 | k+1=>by
  constructor
  ·intro h;have h':=h;rcases zMa h' with h1|h1
   ·obtain⟨i,hi,hr⟩:=iA.1 h1;exact⟨i,Sg,hr⟩
   ·by_cases hr:isRoot (rowAt b k)=true
    ·rw[zy hr]at h1;exact⟨k,Sg,hr,(zMs h1).symm⟩
    ·rw[zn hr]at h1;cases h1
  ·rintro ⟨i,hi,hr,rfl⟩;exact lz hi hr
theorem Iv(h:isRoot l=false)(hl:l.length=11):l=af 11:=by
 apply qCf
 ·rw[hl,ag]
 ·intro i h1 h2;have:=qBz.1 h l[i] (qAf h1);have e:l[i]=0:=by simpa using this
  rw[e];exact(List.getElem_replicate ..).symm
theorem GQ:(bI ((af 11).take 8)).2=2:=Si
theorem jh(hf:aD b)(hi:i<8):vH b s i=true ↔ isRoot (rowAt b i)=true/\nameAt b i=s:=by
 have hl:=hf.len;unfold vH;rw[qAa,qAK,qAK];constructor
 ·rintro ⟨h1,h2⟩;cases hr:isRoot (rowAt b i)with
  | true=>exact⟨rfl,h2⟩
  | false =>rw[Iv hr (aY Sg),GQ]at h1;cases h1
 ·rintro ⟨h1,h2⟩;have:=(jM.1 (dy.1 hf.ok).2).1 i hi h1;exact⟨(km.1 this).1,h2⟩
theorem r9(hf:aD b)(hi:i<8)(hr:isRoot (rowAt b i)=true)(hn:nameAt b i=s):bP (aE b 8) s=(rowAt b i).getD 10 0:=by have Uf:=CL hf.ok;have hm:(s,(rowAt b i).getD 10 0)∈aE b 8:=iA.2 ⟨i,hi,hr,by unfold rootOf;rw[<-hn];rfl⟩;exact(E4 Uf (Uf.pos _ hm).1).2 hm
theorem sa(hn:∀i,i<8->isRoot (rowAt b i)=true->nameAt b i≠s):bP (aE b 8) s=0:=by unfold bP;have:(aE b 8).find? (fun r=>r.1 == s)=none:=qCk.2 (fun r hr=>by obtain⟨i,hi,hq,rfl⟩:=iA.1 hr;intro h;exact hn i hi hq (ng.1 h));rw[this];rfl
theorem V5(hf:aD b) s:bP (aE b 8) s=if ie b s<8 then (rowAt b (ie b s)).getD 10 0 else 0:=by
 have hp:=je b s;by_cases h:ie b s<8
 ·rw[zy h];obtain⟨h1,h2⟩:=(jh hf h).1 (hp.2.2 h);exact r9 hf h h1 h2
 ·rw[zn h];refine sa (fun i hi hr e=>?_);have:=hp.2.1 i Sg;rw[(jh hf hi).2 ⟨hr,e⟩]at this;cases this
theorem zU(hf:aD b)(hi:i<8)(hr:isRoot (rowAt b i)=true):1<=(rowAt b i).getD 10 0/\(rowAt b i).getD 10 0<=40/\aw b ((rowAt b i).getD 10 0)≠0:=by obtain⟨_,_,_,h4,h5⟩:=km.1 ((jM.1 (dy.1 hf.ok).2).1 i hi hr);have:=aN.1 h4;exact⟨this.1,this.2,(lM.1 h5).1⟩
structure Row1 (b c:LI) (i:Nat) (r:LI):Prop where
 lt:i<8
 len:c.length=b.length
 here:rowAt c i=r
 nW:∀j,j<8->j≠i->rowAt c j=rowAt b j
 Hl:∀h,1<=h->h<=40->aw c h=aw b h/\ao c h=ao b h
 tail:∀j,288<=j->c.getD j 0=b.getD j 0
theorem Cf(hl:288<=b.length)(hi:i<8){r}(hr:r.length=11):Row1 b (splice b (200+11*i) r) i r:=by have fc:200+11*i+r.length<=b.length:=Sg;have hlen:=length_splice fc;refine⟨hi,hlen,Ns hr Sg,fun j hj aG=>Iz fc Sg Sg,fun h h1 h2=>?_,fun j hj=>bh fc Sg⟩;have hp:=du h1 h2;exact yP hlen hl h1 h2 (fun j hj=>bh fc Sg)
theorem Row1.ziP{r}(t:Row1 b c i r)(hf:aD b):(∀h,1<=h->h<=40->gg c h=[])/\∀h,1<=h->h<=40->sQ c h=sQ b h:=by have hw:=Vh t.len t.Hl;refine⟨fun h h1 h2=>?_,hw⟩;obtain⟨e1,e2⟩:=t.Hl h h1 h2;have:=ff.1 ((dy.1 hf.ok).1 h h1 h2);exact ff.2 (by rw[hw h h1 h2,e1,e2];exact this)
theorem Row1.Z6(t:Row1 b c i (af 11))(hf:aD b):aD c:=by
 obtain⟨h1,hw⟩:=t.ziP hf;obtain⟨r1,r2⟩:=jM.1 (dy.1 hf.ok).2;have zdq:∀j,j<8->isRoot (rowAt c j)=true->j≠i/\isRoot (rowAt b j)=true:=fun j hj hr=>by
  by_cases e:j=i
  ·subst e;rw[t.here,lX]at hr;cases hr
  ·rw[t.nW j hj e]at hr;exact⟨e,hr⟩
 refine⟨by rw[t.len];exact hf.len,dy.2 ⟨h1,jM.2 ⟨fun j hj hr=>?_,fun j k hjk hk hj hr=>?_⟩⟩⟩
 ·obtain⟨aG,hb⟩:=zdq j hj hr;obtain⟨q1,q2,q3,q4,q5⟩:=km.1 (r1 j hj hb);have hx:=aN.1 q4;refine km.2 ?_;rw[t.nW j hj aG];exact⟨q1,q2,q3,q4,by rw[hw _ hx.1 hx.2];exact q5⟩
 ·obtain⟨n1,b1⟩:=zdq j Sg hj;obtain⟨n2,b2⟩:=zdq k hk hr;have:=r2 j k hjk hk b1 b2;unfold nameAt at this ⊢;rw[t.nW j Sg n1,t.nW k hk n2];exact this
theorem Row1.Z5(t:Row1 b c i (gu (s,h)))(hf:aD b)(hn:dG s=true)(hc:aX b h=0)(ig:∀j,j<8->j≠i->isRoot (rowAt b j)=true->nameAt b j≠s) :
  aD c/\isRoot (rowAt c i)=true/\nameAt c i=s/\(rowAt c i).getD 10 0=h:=by
 obtain⟨h1,hw⟩:=t.ziP hf;obtain⟨r1,r2⟩:=jM.1 (dy.1 hf.ok).2;obtain⟨q1,q2,q3⟩:=aV.1 hc;have hh:=aN.1 q2;have hnr:¬kp (s,h)=true:=fun hx=>by have:=(iP.1 hx).2;dsimp only at this;omega
 have hre:fA (s,h)=0:=by unfold fA;rw[zn hnr,zn (by rw[q2];simp),zy hn]
 obtain⟨g1,g2⟩:=vr hre hnr;have hi:=t.here;have e1:nameAt c i=s:=by unfold nameAt;rw[hi];exact qBB Prod.fst g2
 have e2:(rowAt c i).getD 10 0=h:=by rw[hi];exact qBB Prod.snd g2
 have jB:=cL.1 hn;have bK:gu (s,h)=bH s++[0,0,h%256]:=by unfold gu;rw[zn hnr]
 have hl8:=cE s jB.2.1;have znr:(bI ((gu (s,h)).take 8)).2=0:=by rw[bK,qAy Sg,qAP Sg];have f1:aW (bH s)=s.size:=(bS _ _).unique (qQ s jB);have f2:iL (bH s) s.size=8-s.size:=(bS _ _).unique (qP s jB.2.1);unfold bI;rw[zn (fun h=>h hl8),f1,f2,hl8,zn (by have:=jB.1;omega)]
 have eQ:ua c i=false:=by
  refine km.2 ?_;rw[e2,hi];refine⟨znr,?_,?_,q2,?_⟩
  ·rw[bK,List.getD,qAR Sg,hl8];rfl
  ·rw[bK,List.getD,qAR Sg,hl8];rfl
  ·rw[hw h hh.1 hh.2];exact(hf.hand hh.1 hh.2 q3).1
 refine⟨⟨by rw[t.len];exact hf.len,dy.2 ⟨h1,jM.2 ⟨fun j hj hr=>?_,fun j k hjk hk hj hr=>?_⟩⟩⟩,by rw[hi];exact g1,e1,e2⟩
 ·by_cases e:j=i
  ·subst e;exact eQ
  ·have hb:isRoot (rowAt b j)=true:=by rw[<-t.nW j hj e];exact hr
   obtain⟨p1,p2,p3,p4,p5⟩:=km.1 (r1 j hj hb);have hx:=aN.1 p4;refine km.2 ?_;rw[t.nW j hj e];exact⟨p1,p2,p3,p4,by rw[hw _ hx.1 hx.2];exact p5⟩
 ·have key:∀j,j<8->j≠i->isRoot (rowAt c j)=true->isRoot (rowAt b j)=true/\nameAt c j=nameAt b j:=fun j hj e hr=>by have he:=t.nW j hj e;exact⟨by rw[<-he];exact hr,by unfold nameAt;rw[he]⟩
  by_cases ej:j=i
  ·subst ej;obtain⟨k1,k2⟩:=key k hk Sg hr;rw[e1,k2];exact fun e=>ig k hk Sg k1 e.symm
  ·obtain⟨j1,j2⟩:=key j Sg ej hj;by_cases ek:k=i
   ·subst ek;rw[e1,j2];exact ig j Sg ej j1
   ·obtain⟨k1,k2⟩:=key k hk ek hr;rw[j2,k2];exact r2 j k hjk hk j1 k1
end
section
variable {b c:LI} {s:BA} {h:Int}
theorem Dq(hf:aD b)(hi:i<8)(hr:isRoot (rowAt b i)=true)(hn:nameAt b i=s):ie b s=i:=by
 have hp:=je b s;have h1:=(jh hf hi).2 ⟨hr,hn⟩;have hle:=Nat.le_of_not_lt fun aB=>by have:=hp.2.1 i aB;rw[h1]at this;cases this
 refine qAM fun aG=>?_
 obtain⟨g1,g2⟩:=(jh hf (show ie b s<8 by omega)).1 (hp.2.2 Sg);exact(jM.1 (dy.1 hf.ok).2).2 _ i Sg hi g1 hr (by rw[g2,hn])
theorem vn(hf:aD b)(h0:js b s h=0):Row1 b (mG b s h) (nL b s) (gu (s,h)):=by
 obtain⟨h1,h2,h3,h4⟩:=ou hf h0;obtain⟨_,_,_,q4⟩:=rT.1 h1;have e:mG b s h=splice b (200+11*nL b s) (gu (s,h)):=by grind[js,mG,nL,gu,rn]
 rw[e];exact Cf hf.len.1 h2 (vo q4)
theorem zmQ(hf:aD b)(h0:js b s h=0):∀j,j<8->j≠nL b s->isRoot (rowAt b j)=true->nameAt b j≠s:=by grind[js,nL,isRoot,rowAt,nameAt,Dq]
theorem qH(hf:aD b)(h0:js b s h=0):aD (mG b s h)/\isRoot (rowAt (mG b s h) (nL b s))=true/\nameAt (mG b s h) (nL b s)=s/\(rowAt (mG b s h) (nL b s)).getD 10 0=h:=by obtain⟨_,_,h3,h4⟩:=ou hf h0;exact(vn hf h0).Z5 hf h3 h4 (zmQ hf h0)
theorem zjp(hb:bZ b) s h:bZ (mG b s h):=by grind[bZ,mG,rn,dB,FW]
theorem wI(h0:pB b s=0):dG s=true/\ie b s<8:=by grind[pB,dG,ie,tC]
theorem DQ(hf:aD b)(h0:pB b s=0):Row1 b (Gt b s) (ie b s) (af 11):=Cf hf.len.1 (wI h0).2 (ag 11)
theorem De(hf:aD b)(h0:pB b s=0):aD (Gt b s):=(DQ hf h0).Z6 hf
theorem zi9(hb:bZ b) s:bZ (Gt b s):=dB hb (cI 11)
end
theorem KG(h:iW s):bI (bH s)=(s,0):=by have hl:=cE s h.2.1;have f1:aW (bH s)=s.size:=(bS _ _).unique (qQ s h);have f2:iL (bH s) s.size=8-s.size:=(bS _ _).unique (qP s h.2.1);unfold bI;rw[zn (fun h=>h hl),f1,f2,hl,zn zgR,yy]
theorem SU(hb:bZ l)(h0:(bI l).2=0):l.length=8/\iW (bI l).1/\bH (bI l).1=l:=by
 unfold bI at h0 ⊢;by_cases hl:l.length=8
 ·rw[zn (fun h=>h hl)]at h0 ⊢;by_cases hc:aW l=0\/iL l (aW l)<l.length-aW l
  ·rw[zy hc]at h0;exact Y2
  ·rw[zn hc];have hf:cd (fun j=>(!nR (l.getD j 0))) l.length (aW l):=bS _ _;have hz:cd (fun j=>((l.drop (aW l)).getD j 0 != 0)) (l.drop (aW l)).length (iL l (aW l)):=bS _ _;generalize aW l=n at*;generalize iL l n=z at*;have BI:n<=8:=by have:=hf.1;omega
   have Cv:bZ (l.take n):=fun x hx=>hb x (qAj hx)
   have lE:c7 (strOf (l.take n))=l.take n:=iN _ Cv;have bW:(strOf (l.take n)).size=n:=by rw[<-bY,lE,zLt];omega
   refine⟨hl,⟨by rw[bW];omega,by rw[bW];exact BI,?_⟩,?_⟩
   ·rw[bW];refine⟨zNr,fun j hj=>?_,fun h=>absurd h (qBd _)⟩;have:=hf.2.1 j hj;dsimp only at this ⊢;rw[lE];rw[show(l.take n).getD j 0=l.getD j 0 by simp[List.getD,hj]];exact this
   ·have Mv:(l.drop n).length=8-n:=by rw[zLd];omega
    have hz8:z=8-n:=by have:=hz.1;omega
    apply cr
    ·rw[cE _ (by rw[bW];exact BI),hl]
    ·intro j hj;by_cases T5:j<n
     ·rw[zN _ j (by rw[bW];exact T5),lE];simp[List.getD,T5]
     ·rw[zO _ j (by rw[bW];omega)];rw[cE _ (by rw[bW];exact BI)]at hj;have:=hz.2.1 (j-n) Sg;simp[List.getD]at this;rw[show n+(j-n)=j by omega]at this;simpa[List.getD]using this.symm
 ·rw[zy hl]at h0;exact Y2
def TM(b l:LI)(i:Nat):Bool:=decide ((rowAt b i).take 8=l)
def plL(b l:LI):Nat:=tU (TM b l) 8
theorem Bq b l:cd (TM b l) 8 (plL b l):=bS _ _
theorem zc6(hb:bZ b)(hn:dG s=true) i:TM b (bH s) i=vH b s i:=by
 have Cv:bZ ((rowAt b i).take 8):=fun x hx=>hb x (by have h1:=qAj hx;exact qBF (qAj h1))
 rw[qDE];unfold TM vH;rw[qAK,qAa,qAK,qAK];constructor
 ·intro h;rw[h,KG (cL.1 hn)];exact Uq
 ·rintro ⟨h1,h2⟩;have:=(SU Cv h1).2.2;rw[h2]at this;exact this.symm
theorem vz(hb:bZ b)(hn:dG s=true):plL b (bH s)=ie b s:=by unfold plL ie;rw[show TM b (bH s)=vH b s from funext (zc6 hb hn)]
theorem O3(hf:aD b)(hi:i<8):TM b (af 8) i=!isRoot (rowAt b i):=by
 have hl:=hf.len;unfold TM;cases hr:isRoot (rowAt b i)with
 | false =>rw[Iv hr (aY Sg)];decide
 | true =>have:=(km.1 ((jM.1 (dy.1 hf.ok).2).1 i hi hr)).1;rw[qAt.2 (fun e=>by rw[e]at this;exact absurd this Si)];rfl
theorem zcg(hf:aD b):plL b (af 8)=nC b:=by
 have h:=pL b;refine(Bq b _).unique ⟨h.1,fun j hj=>?_,fun hj=>?_⟩
 ·rw[O3 hf zgR];exact h.2.1 j hj
 ·rw[O3 hf hj];exact h.2.2 hj
theorem Y4{R:List (BA×Int)}(h:R[k]?=some r):bP (R.drop k) s=if r.1=s then r.2 else bP (R.drop (k+1)) s:=by
 obtain⟨hk,rfl⟩:=zLs h;rw[qBf hk]
 grind[bP,ng]
def xW(b:LI)(s:BA)(t:Int):Int :=if dG s=false then 2 else if t < -1\/15<t then 1 else if bP (aE b 8) s=0 then 5 else if t≠-1/\t≠(gU b (bP (aE b 8) s)).2.2.2 then 8 else 0
def BR(b:LI)(s:BA)(t:Int):Int:=if xW b s t=0 then bP (aE b 8) s else 0
def Q8(b:LI)(s:BA)(h:Int):Bool:=decide (js b s h=0)&&Mq b s
def Dj(b:LI)(s:BA)(h:Int):LI:=if js b s h=0 then mG b s h else b
def Gs(b:LI)(s:BA):LI:=if pB b s=0 then Gt b s else b
theorem yB(hf:aD b) s:bP (aE b 8) s=0\/(1<=bP (aE b 8) s/\bP (aE b 8) s<=40/\aX b (bP (aE b 8) s)=0):=by
 have hp:=je b s;rw[V5 hf];by_cases h:ie b s<8
 ·rw[zy h];obtain⟨h1,h2,h3⟩:=zU hf h ((jh hf h).1 (hp.2.2 h)).1;exact .inr ⟨h1,h2,aV.2 ⟨hf.gR,aN.2 ⟨h1,h2⟩,h3⟩⟩
 grind
theorem zi8(hf:aD b)(hi:i<8):EA b i (({ data:=#[]}:BA),0)=0/\rn b i (({ data:=#[]}:BA),0)=splice b (200+11*i) (af 11):=by have hr:fA (({ data:=#[]}:BA),0)=0:=Si;have hp:EA b i (({ data:=#[]}:BA),0)=0:=rT.2 ⟨hf.gR,Sg,Sg,hr⟩;refine⟨hp,?_⟩;unfold rn;rw[zy hp,zTn];rfl
theorem zbz(hf:aD b)(h0:js b s h=0):rn b (nL b s) (s,h)=mG b s h/\aD (rn b (nL b s) (s,h)):=⟨rfl,(qH hf h0).1⟩
section
variable {L:LI} {n t:Int}
