import Derived.Test.YtoiebmeajhpgcaaGreatDoorJDfp
import Derived.Test.YtoiebmeajhpgcaaGreatDoorJVw
import Derived.Test.YtoiebmeajhpgcaaGreatDoorJCi
set_option maxRecDepth 100000
set_option maxHeartbeats 16000000
set_option linter.all false
namespace Go.Proofs.YtoiebmeajhpgcaaGreatDoor
variable {w w1 w2:World}{B g c gn cn o m i a k n:Nat}{cur:Array Value}{L K:LI}{v:Value}{l:List Nat}{S:Nat->Prop}{P:Program}{D:DS}
open Tryz
open Go.RowKit
def An(t gk x g:Nat)(k:Nat):Prop:=k=t\/k=gk\/bA x g k
structure fO (w0 w:World) (t p q:Nat) (S:Nat->Prop) (D:DS) (s:Int) (m:Nat) (x g c:Nat) (L:LI) (gk ck:Nat) (K:LI) (cut:Bool):Prop where
 qq:w.heap[t]?=some (.cells #[zq p,zq q,zq x,.slice (zo gk) K.length ck,.bool cut] 216 (0,0))
 lH:sP w0 w p q S D s (An t gk x g)
 hp:Hp w w0.heap.size x g c L
 kept:∃cur,Row w w0.heap.size gk ck cur K
 kb:bZ K
 kf:aD K
 cnt:eo D.secs.length=m
 len:L.length=32*m
 uA:K.length=32*m
 n1:t≠gk
 n2:¬bA x g t
 n3:¬bA x g gk
section
variable {w0 w w':World} {t p q:Nat} {S S':Nat->Prop} {D D':DS} {s s':Int} {m x g c g' c':Nat} {L L':LI} {gk ck:Nat} {K:LI} {cut:Bool}
theorem fO.Gu(h:fO w0 w t p q S D s m x g c L gk ck K cut):t<w.heap.size:=(zAg h.qq).1
theorem fO.klt(h:fO w0 w t p q S D s m x g c L gk ck K cut):gk<w.heap.size:=by obtain⟨cur,hr⟩:=h.kept;exact hr.lt
theorem fO.c0(h:fO w0 w t p q S D s m x g c L gk ck K cut):w.cell? (zp t)=some (zq p):=ZU
theorem fO.c1(h:fO w0 w t p q S D s m x g c L gk ck K cut):w.cell? (zw t 1)=some (zq q):=ZU
theorem fO.c2(h:fO w0 w t p q S D s m x g c L gk ck K cut):w.cell? (zw t 2)=some (zq x):=ZU
theorem fO.c3(h:fO w0 w t p q S D s m x g c L gk ck K cut):w.cell? (zw t 3)=some (.slice (zo gk) K.length ck):=ZU
theorem fO.c4(h:fO w0 w t p q S D s m x g c L gk ck K cut):w.cell? (zw t 4)=some (.bool cut):=ZU
theorem fO.fr(h:fO w0 w t p q S D s m x g c L gk ck K cut) i:w.frozen? (zw t i)=false:=qAd w t i _ _ h.qq
theorem fO.size(h:fO w0 w t p q S D s m x g c L gk ck K cut):w0.heap.size<=w.heap.size:=h.lH.size
theorem fO.base(h:fO w0 w t p q S D s m x g c L gk ck K cut):zB w0 w:=h.lH.live.F7
theorem fO.TD(h:fO w0 w t p q S D s m x g c L gk ck K cut):9<=m/\m<=200/\48+m<=D.secs.length:=by have h1:=h.hp.bC.len;have h2:=h.len;have h3:=h.cnt;unfold eo at h3;split at h3 <;> omega
theorem fO.kbs(h:fO w0 w t p q S D s m x g c L gk ck K cut):Bs w (zo gk) ck K:=by obtain⟨cur,hr⟩:=h.kept;exact hr.bs h.kb (by have:=h.kf.len;omega)
theorem fO.below(h:fO w0 w t p q S D s m x g c L gk ck K cut)(hb:zB w w'):fO w0 w' t p q S D s m x g c L gk ck K cut :=⟨(hb.block t h.Gu).trans h.qq,h.lH.below hb,h.hp.below hb,(by obtain⟨cur,hr⟩:=h.kept;exact⟨cur,hr.below hb⟩),h.kb,h.kf,h.cnt,h.len,h.uA,h.n1,h.n2,h.n3⟩
theorem Row.same{w':World}(h:Row w B g c cur L)(e:w'.heap[g]?=w.heap[g]?):Row w' B g c cur L:=⟨h.1,e.trans h.2.1,h.2.2⟩
theorem fO.heap(h:fO w0 w t p q S D s m x g c L gk ck K cut)(hh:Hp w' w0.heap.size x g' c' L')(ht:au (bA x g) (bA x g') w w')(hl:L'.length=L.length):fO w0 w' t p q S D s m x g' c' L' gk ck K cut:=by
 refine⟨(ht.block t h.Gu h.n2).trans h.qq,h.lH.other ht (fun k hk=>.inr (.inr hk)) (fun k hk=>⟨?_,fun h1=>?_⟩),hh,?_,h.kb,h.kf,h.cnt,hl.trans h.len,h.uA,h.n1,fun hf=>h.n2 (ht.bA t h.Gu hf),fun hf=>h.n3 (ht.bA gk h.klt hf)⟩
 ·rcases hk with rfl|rfl|rfl|rfl
  ·exact qAL h.Gu ht.size
  ·exact qAL h.klt ht.size
  ·exact hh.Ob
  ·exact hh.glt
 ·rcases hk with hk|hk|hk
  ·exact .inl hk
  ·exact .inr (.inl hk)
  ·exact .inr (.inr (ht.bA k h1 hk))
 ·obtain⟨cur,hr⟩:=h.kept;exact⟨cur,hr.same (ht.block gk h.klt h.n3)⟩
theorem fO.eH(h:fO w0 w t p q S D s m x g c L gk ck K cut)(hl:Live w0 w' p S' D')(hp:eE w' q p s')(ho:¬S' q)(ht:au (plus S q) (plus S' q) w w')(hc:D'.secs.length=D.secs.length):fO w0 w' t p q S' D' s' m x g c L gk ck K cut:=by
 have hk:=fun k hk=>h.lH.keep ht k hk
 refine⟨(hk t (.inl rfl)).trans h.qq,h.lH.eH hl hp ho ht,?_,?_,h.kb,h.kf,by rw[hc];exact h.cnt,h.len,h.uA,h.n1,h.n2,h.n3⟩
 ·obtain⟨cur,hr⟩:=h.hp.row;exact⟨h.hp.bp,h.hp.ne,(hk x (.inr (.inr (.inl rfl)))).trans h.hp.qq,⟨cur,hr.same (hk g (.inr (.inr (.inr rfl))))⟩,h.hp.B2,h.hp.bC⟩
 ·obtain⟨cur,hr⟩:=h.kept;exact⟨cur,hr.same (hk gk (.inr (.inl rfl)))⟩
theorem fO.keep(h:fO w0 w t p q S D s m x g c L gk ck K cut){M}(hr:Row w w0.heap.size gn cn cur M)(hb:bZ M)(hf:aD M)(hM:M.length=32*m)(h1:¬plus S q gn)(h2:gn≠t)(h3:¬bA x g gn) :
  fO w0 (w.setCell (zw t 3) (.slice (zo gn) M.length cn)) t p q S D s m x g c L gn cn M cut:=by
 have hs:=qAI w t 3 _ _ (.slice (zo gn) M.length cn) h.qq;have ho:∀k,k≠t->(w.setCell (zw t 3) (.slice (zo gn) M.length cn)).heap[k]?=w.heap[k]?:=fun k hk=>qAV _ _ _ _ hk
 have hT:au (fun k=>k=t) (fun k=>k=t) w (w.setCell (zw t 3) (.slice (zo gn) M.length cn)):=au.setCell w _ rfl;refine⟨by rw[hs];rfl,?_,?_,⟨cur,hr.same (ho gn h2)⟩,hb,hf,h.cnt,h.len,hM,fun e=>h2 e.symm,h.n2,h3⟩
 ·have ay:=h.lH.other (T':=fun k=>k=t\/bA x g k) hT (fun k hk=>.inl hk) (fun k hk=>⟨?_,fun _=>?_⟩)
  ·have bW:=hT.size;refine⟨ay.live,ay.pg,ay.out,ay.base,fun k hk=>?_,fun k hk=>?_,fun k hk=>?_⟩
   ·rcases hk with hk|rfl|hk
    ·exact ay.apart k (.inl hk)
    ·exact h1
    ·exact ay.apart k (.inr hk)
   ·rcases hk with hk|rfl|hk
    ·exact ay.Gu k (.inl hk)
    ·exact qAL hr.lt bW
    ·exact ay.Gu k (.inr hk)
   ·rcases hk with hk|rfl|hk
    ·exact ay.tb k (.inl hk)
    ·exact hr.1
    ·exact ay.tb k (.inr hk)
  ·rcases hk with rfl|rfl|rfl
   ·exact qAL h.Gu hT.size
   ·exact qAL h.hp.Ob hT.size
   ·exact qAL h.hp.glt hT.size
  ·rcases hk with hk|hk
   ·exact .inl hk
   ·exact .inr (.inr hk)
 ·exact zmC
end
section
open Go.Maps
open Go.Sort
open Go.Shelf
theorem xO a a' c c' m N K L w(hb:Bs w a c K)(pI:Bs w a' c' L)(hN:N=32*m)(hK:K.length=N)(hL:L.length=N)(hm:m<=200) :
  zC 202 #[.slice a N c,.slice a' N c'] w fun e w'=>∃v,e=zt #[v,.nilIface]/\w'.ownsRow w.heap.size 3 1 v (cu K L m).length (((cu K L m).map (fun i:Nat=>(i:Int))).map encZ)/\zB w w':=by
 have Jj:K.length=L.length:=hK.trans hL.symm;have hdy:=Qd a a' c c' K L w hb pI Jj Sg;obtain⟨h0,h1⟩:=Xt (K:=K) (L:=L) (m:=m) Sg Sg hm;have zkJ:=FM Jj K.length zNr;rw[aC,hK]at hdy;rw[hK]at h0 h1 zkJ;have HD:=ae hdy;have HP:Hid (∀ (W:World) (al:OA) (cl:Nat),Chs W al cl (mY K L N)->zC 240 #[.slice al (mY K L N).length cl] W fun e w'=>∃v,e=zt #[v,.nilIface]/\w'.ownsRow W.heap.size 3 1 v (cu K L m).length (((cu K L m).map (fun i:Nat=>(i:Int))).map encZ)/\zB W w'):=ae (fun W al cl hl=>by have:=IN al cl (mY K L N) W hl h0 Sg;rw[h1,zLm]at this;exact this);have lF:(mY K L N).length<=6400:=Sg;clear hb pI hdy h0 h1 zkJ hK hL Jj hN hm;generalize cu K L m=DR at*;generalize mY K L N=DL at*;go_enter func202,ntmps202
 go_wp2_with fail
 refine HD.mono ?_;rintro e w1 ⟨v,rfl,yK,ay⟩;obtain⟨al,cl,rfl,lC⟩:=yK.chs Sg;have nh:=ae (HP w1 al cl lC);have aQ:=ae ay;generalize DL.length=n at*;go_wp2_with fail
 refine nh.mono ?_;rintro e w2 ⟨v2,rfl,bK,aK⟩;have HR:=ae (ownsRow_base_a (base':=w.heap.size) bK aQ.size);have bz:=zTr aQ aK;go_wp2;go_ret2;exact⟨v2,rfl,HR,bz⟩
def VJ(g o c:Nat)(i:Nat):List Value:=[zi (i:Int),.slice (some ⟨g,o+32*i,none⟩) 32 (c-32*i)]
theorem zgt g o c i:(VJ g o c i).length=2:=rfl
theorem VI g o c i:∀u∈VJ g o c i,u.oneCell'=true:=by intro u hu;unfold VJ at hu;exact ve
theorem O5:(prog.info? 82).map (fun i=>(i.zero,i.size,i.bytes))=some (some (.agg #[zi 0,.slice none 0 0]),2,32):=SQ
theorem zeF(hb:Bs w (some (zw g o)) c L)(hL:L.length=32*m)(hi:i<m):Bs w (some ⟨g,o+32*i,none⟩) (c-32*i) (prt L i):=by have hlen:=oU hL hi;obtain⟨h1,h2,h3,h4,h5⟩:=hb;refine⟨VH h1 i,Sg,Sg,fun e=>TB,fun _=>⟨g,o+32*i,rfl,fun j hj=>?_⟩⟩;obtain⟨b,off,e,hc⟩:=h5 (by intro e;rw[e]at hL;simp at hL;omega);simp only[qAQ,qBI,qBj]at e;obtain⟨rfl,rfl⟩:=e;have:=hc (32*i+j) Sg;rw[qBq,this,rS Sg]
theorem cX.zm0(h:cX (VJ g o c) 2 82 w B v l)(hb:Bs w (some (zw g o)) c L)(hL:L.length=32*m)(hl:∀i∈l,i<m)(hm:m<=200)(hn:l.length<=1000)(hS:∀k,S k->k<B)(hg:¬S g) :
  ∃a cap,v=.slice a l.length cap/\qz w S a cap (l.map fun i:Nat=>((i:Int),prt L i)):=by
 have hblk:=h.block;obtain⟨a,cap,rfl,hs⟩:=h.uM (zgt g o c) Sg;refine⟨a,cap,rfl,by rw[zLm];exact hs.1,by rw[zLm];omega,fun aG=>?_⟩;obtain⟨b,off,rfl,hc⟩:=hs.2.2.2 (fun e=>aG (by rw[e];rfl));refine⟨b,off,rfl,fun aK=>by have h1:=hS b aK;have h2:=hblk b rfl;omega,fun i hi=>?_⟩;rw[zLm]at hi;have e:=zLg hi;have eg:(l.map fun i:Nat=>((i:Int),prt L i)).getD i (0,[])=((l[i]:Int),prt L l[i]):=zdQ;have aB:=hl _ (qAf hi);rw[eg];dsimp only;have c0:=hc i _ e 0 _ rfl;have c1:=hc i _ e 1 _ rfl;rw[oU hL aB];refine⟨by rw[qAq]at c0;exact c0,some ⟨g,o+32*l[i],none⟩,c-32*l[i],by rw[qBq]at c1;exact c1,zeF hb hL aB,fun _ x hx=>?_,Sg,Sg⟩;obtain rfl:=zOi hx;exact hg
theorem zfR{t:TypeId}(hu:P.underlying t=some (.slice 5))(bW:(P.info? 5).map (·.size)=some 1) g o c N x(hn:N<=c)(aB:x<N) w' :
  (Instr.slice t (.slice (some (zw g o)) N c) (some (zi x)) none none).run P w'=.ok (.slice (some ⟨g,o+x,none⟩) (N-x) (c-x)) w':=by
 have he:=kG hu;rw[qDT (P:=P) (w:=w') t (some (zw g o)) N c UW .i64 x Sg Sg,he,eR w' bW];have t1:=zTn x;simp only[Result.andThen,sliced,t1];rw[zn Sg];simp[Addr.add]
theorem zfS{t:TypeId}(hu:P.underlying t=some (.slice 5))(bW:(P.info? 5).map (·.size)=some 1) g c N x(hn:32<=c) w' :
  (Instr.slice t (.slice (some (zw g x)) N c) none (some (zi 32)) none).run P w'=.ok (.slice (some (zw g x)) 32 c) w':=by
 have he:=kG hu;rw[run_slice_h (P:=P) (w:=w') t (some (zw g x)) N c UW .i64 32 Sg Sg,he,eR w' bW];exact zmg
theorem wX(h:w.ownsRow B 3 1 v l.length ((l.map (fun i:Nat=>(i:Int))).map encZ)):∃a c,v=.slice a l.length c/\l.length<=c/\∀ (j i:Nat),l[j]?=some i->∃g,a=some (zp g)/\w.cell? (zw g j)=some (zi (i:Int)):=by
 rcases h.2 with ⟨rfl,h0⟩|⟨g,cap,cur,rfl,hB,hc,h3,h4,h5,h6⟩
 ·refine⟨none,0,by rw[h0],Sg,fun j i hj=>?_⟩;have oz:=qAp h0;subst oz;simp at hj
 ·refine⟨some (zp g),cap,rfl,h3,fun j i hj=>⟨g,rfl,?_⟩⟩;have aB:=(zLs hj).1;have q:((l.map (fun i:Nat=>(i:Int))).map encZ)[j]?=some (zi (i:Int)):=by simp[hj,encZ]
  rw[<-h6,qAi,zy Sg]at q;rw[qAD _ _ _ _ _ _ hc];simpa using q
section
variable {w0 w:World} {p q:Nat} {S:Nat->Prop} {D:DS} {s:Int} {m:Nat}
theorem zg(h:Live w0 w p S D)(hq:eE w q p s)(Rk:¬S q)(AT:w0.heap.size<=q)(hc:eo D.secs.length=m)(hm:m<=200)(h0:0<=s)(h1:s<4294967295){a}{ca N}(hk:Bs w a ca K)(hN:N=32*m)(hK:K.length=N)(hl:Bs w (some (zw g o)) cn L)(hL:L.length=N)(hg:¬S g) :
  zC 151 #[zq q,.slice a N ca,.slice (some (zw g o)) N cn] w (zr (bc (aj D s m (dQ K L m)).2.2) fun w'=>∃S',Live w0 w' p S' (aj D s m (dQ K L m)).1/\eE w' q p (aj D s m (dQ K L m)).2.1/\¬S' q/\au (plus S q) (plus S' q) w w'):=by
 have Vd:=ae (xO a (some (zw g o)) ca cn m N K L w hk hl hN hK hL hm);have hLN:L.length=32*m:=Sg;have ma:N<=cn:=by have:=hl.2.1;omega
 have aB:∀i∈cu K L m,i<m:=fun i hi=>(r6.1 hi).1
 have zkJ:(cu K L m).length<=200:=by exact IS
 have U8:=ae aB;have HC:Hid (∀ (W:World) (a2:OA) (c2:Nat),zB w W->qz W S a2 c2 (dQ K L m)->zC 204 #[zq q,.slice a2 (cu K L m).length c2] W (zr (bc (aj D s m (dQ K L m)).2.2) fun w'=>∃S',Live w0 w' p S' (aj D s m (dQ K L m)).1/\eE w' q p (aj D s m (dQ K L m)).2.1/\¬S' q/\au (plus S q) (plus S' q) w w')):=ae (fun W a2 c2 hb hp=>by have:=UH (h.below hb) (hq.below hb) Rk AT a2 c2 (dQ K L m) hp hc h0 h1;rw[mb]at this;refine this.mono ?_;rintro e w' ⟨he,S',h2,h3,h4,ht⟩;exact⟨he,S',h2,h3,h4,(au.aI hb).trans ht⟩);have HPO:Hid (∀ (W:World) (B:Nat) (v:Value),zB w W->w.heap.size<=B->cX (VJ g o cn) 2 82 W B v (cu K L m)->∃a2 c2,v=.slice a2 (cu K L m).length c2/\qz W S a2 c2 (dQ K L m)):=ae (fun W B v hb hB hv=>hv.zm0 (hl.below hb) hLN aB hm Sg (fun k hk=>qAL (h.dev.lt k hk) hB) hg);obtain⟨ip,Zw,TX,Zv,hp3⟩:=qAO O5;have Ji:=fun(i:Nat) (hi:i<m)=>zfR (P:=prog) (t:=29) underlying29 aT g o cn N (32*i) ma Sg
 have hhi:=fun(i:Nat) (hi:i<m)=>zfS (P:=prog) (t:=29) underlying29 aT g (cn-32*i) (N-32*i) (o+32*i) Sg
 have HLO:=ae Ji;have HHI:=ae hhi;clear h hq hk hl hK hL hLN aB Ji hhi hN hc;generalize aj D s m (dQ K L m)=X at*;generalize dQ K L m=DP at*;generalize cu K L m=DR at*;go_enter func151,ntmps151
 go_wp2_with fail
 refine Vd.mono ?_;rintro e w1 ⟨v,rfl,bK,ay⟩;obtain⟨an,cn2,rfl,ziL,bf⟩:=wX bK;have MG:=ae bf;have aQ:=ae ay;clear bK bf ay Vd;generalize hn:DR.length=n at*;have HN:=ae hn;clear hn;go_wp2_with fail
 go_loopw [9,23] (fun xv kv wr=>∃k:Nat,k<=n/\kv=zi k/\cX (VJ g o cn) 2 82 wr w1.heap.size xv (DR.take k)/\zB w1 wr) (fun _ kv _=>n-(intOf kv).toNat)
 case atStart=>exact Yq
 case round =>
  obtain⟨k,hk,rfl,C0,ai⟩:=hrel;by_cases aB:k<n
  ·have tP:k<DR.length:=by rw[aa HN];exact aB
   obtain⟨i,hi⟩:∃i,DR[k]?=some i:=⟨_,zLg tP⟩;obtain⟨gd,rfl,Gy⟩:=MG k i hi;have c0:=(ai.cell (p:=⟨gd,k,none⟩) (qAA Gy)).trans Gy;have him:=U8 i (qAs hi);have fQ:=HLO i him;have gN:=HHI i him;rw[show((32*i:Nat):Int)=(i:Int)*32 by omega]at fQ;have ziq:DR.take (k+1)=DR.take k++[i]:=by rw[qAv,hi];rfl
   have hBr:=ai.size;have HO:=ae (C0.below ((Below.refl _ wr).alloc zNr (.cells (VJ g o cn i).toArray 82)));have kq:Hid ((wr.alloc (.cells (VJ g o cn i).toArray 82)).heap[wr.heap.size]?=some (.cells (VJ g o cn i).toArray 82 (0,0))):=ae (qAB wr _);have oF:=ae ((ai).alloc hBr (.cells (VJ g o cn i).toArray 82));have ziV:=ae ziq;have htl:Hid ((DR.take k).length<=200):=ae VW;have e0:(k:Int)<(n:Int):=Sg;have e1:(0:Int)<=(k:Int):=Sg;have e2:(i:Int)<200:=Sg;go_wp2_with (at_builtin;refine aS rfl _ _ 80 rfl w1.heap.size ip (.agg #[zi 0,.slice none 0 0]) 32 underlying80 Zw TX Zv hp3 rfl Si Si _ _ rfl HO wr.heap.size i rfl kq rfl (VI _ _ _ _) (qAF htl Sg) Tb ?_)
   intro v9 w9 AV ji;rw[<-aa ziV]at AV;have RD:=ae AV;have kE:=ae (oF.trans ji);go_wp2;go_roundw
   case rel=>exact⟨k+1,Sg,Tc,RD,kE⟩
   case measure=>exact Te
  ·obtain rfl:k=n:=by omega
   rw[<-aa HN,qAk]at C0;have rH:=zTs aQ ai;obtain⟨a2,c2,rfl,hpo⟩:=HPO wr w1.heap.size _ rH aQ.size C0;have Rr:=HC wr a2 c2 rH hpo;have Hz:=ae Rr;go_wp2_with fail
   refine Hz.m ?_;intro w3 Co;have HR:=ae Co;go_wp2;go_ret;exact⟨rfl,HR⟩
end
end
theorem ES(K:LI):∀ {n:Nat},K.length=n->(List.range n).map (fun j=>K.getD j 0)=K:=by
 intro n hn;apply cr
 ·simp[hn]
 ·intro i hi;simp at hi;rw[qAC,qBN,qCv hi];rfl
theorem DO(hK:K.length=32*m)(h:∀i,i<m->D.rd (48+i)=prt K i):fW (kN D m) [] 0 (32*m)=K:=by
 rw[<-ES K hK];unfold fW;apply qCw;intro j hj;have hj':=qAw.1 hj;unfold qm Mp;rw[qAl]
 show((none:Option (LI)).getD ((kN D m).getD (j / 32) [])).getD (j%32) 0=K.getD j 0
 rw[Option.getD_none,O1 D Sg,h _ Sg,rS (Nat.mod_lt _ Si),show 32*(j / 32)+j%32=j by omega]
section
variable {w0 w:World} {p q:Nat} {S:Nat->Prop} {D:DS} {s:Int} {m:Nat}
theorem Cb(h:td w p S D)(hq:eE w q p s)(hc:eo D.secs.length=m)(hm:m<=200)(hl:48+m<=D.secs.length)(hd:D.down=false) :
  zC 119 #[zq q] w fun e w'=>∃g,e=zt #[.slice (zo g) (32*m) (32*m),.nilIface]/\w.heap.size<=g/\gz w' g (fW (kN D m) [] 0 (32*m))/\zB w w':=by
 have HN:=ae (za0 h hq hc hm hl hd);have tP:=ks D m;generalize kN D m=KP at*;obtain⟨N,hN⟩:∃N,32*m=N:=⟨_,rfl⟩;rw[hN];have Hx:=ae hN;have HKL:=ae tP;go_enter func119,ntmps119
 go_wp2_with fail
 refine HN.mono ?_;rintro e w1 ⟨v,gk,gm,rfl,hv,_,_,_,ay⟩;have jE:=MP hv;have qx:=Xo hv 0 N (by rw[aa HKL,aa Hx];omega);rw[aa HKL,aa Hx]at jE;have HL:=ae jE;have HR:=ae qx;have aQ:=ae ay;go_wp2_with fail
 refine HL.m ?_;rintro w2 rfl;go_wp2_with fail
 refine HR.mono ?_;rintro e w2 ⟨g,rfl,hg,hblk,aK⟩;have GD:=ae hblk;have bz:=zTr aQ aK;have bW:=aQ.size;go_wp2;go_ret2;exact⟨g,rfl,Sg,GD,bz⟩
theorem fO.made(h:Live w0 w p S D)(hq:eE w q p s)(Rk:¬S q)(AT:w0.heap.size<=q)(hc:eo D.secs.length=m)(hK:K.length=32*m)(iF:bZ K)(hf:aD K){gk x:Nat}(hg:w.heap.size<=gk)(hblk:gz w1 gk K)(ay:zB w w1)(hh:Hp w2 w1.heap.size x g c K)(aK:zB w1 w2) :
  fO w0 (w2.alloc (.cells #[zq p,zq q,zq x,.slice (zo gk) (32*m) (32*m),.bool false] 216)) w2.heap.size p q S D s m x g c K gk (32*m) K false:=by
 have TT:=h.F7.size;have Ac:=ay.size;have Fc:=aK.size;have tP:=hblk.lt;have Ag:=ay.trans (aK.mono Ac);have jz:zB w2 (w2.alloc (.cells #[zq p,zq q,zq x,.slice (zo gk) (32*m) (32*m),.bool false] 216)):=zBr.alloc zNr _;have bD:=Ag.trans (jz.mono Ag.size);have hxp:=hh.Ob;have hxg:=hh.glt;have hbp:=hh.bp;have hbg:=hh.bg;have l7:=h.below bD;have zqF:=fun k hk=>h.dev.lt k hk
 have znt:=hq.lt;have znw:∀k,plus S q k->k<w.heap.size:=fun k hk=>by
  rcases hk with hk|rfl
  ·exact zqF k hk
  ·exact znt
 have zdz:∀k,An w2.heap.size gk x g k->w.heap.size<=k/\k<w2.heap.size+1:=fun k hk=>by rcases hk with rfl | rfl | rfl | rfl <;> omega
 refine⟨by rw[hK];exact qAB w2 _,⟨l7,hq.below bD,Rk,AT,fun k hk hs=>?_,fun k hk=>?_,fun k hk=>?_⟩,?_,?_,iF,hf,hc,hK,hK,Sg,?_,?_⟩
 ·have h1:=znw k hs;have h2:=(zdz k hk).1;omega
 ·have:=(zdz k hk).2;exact V0
 ·have:=(zdz k hk).1;omega
 ·obtain⟨cur,hr⟩:=hh.row;have hh2:=hh.below jz;obtain⟨cur2,ui⟩:=hh2.row;exact⟨Sg,hh2.ne,hh2.qq,⟨cur2,ui.low Sg⟩,hh2.B2,hh2.bC⟩
 ·have hr:=(hblk.row (B:=w0.heap.size) Sg).below (aK.trans (jz.mono aK.size));rw[hK]at hr;exact⟨_,hr⟩
 ·rintro (e|e) <;> omega
 ·rintro (e|e) <;> omega
theorem pV(h:Live w0 w p S D)(hq:eE w q p s)(Rk:¬S q)(AT:w0.heap.size<=q)(hc:eo D.secs.length=m)(hm:m<=200)(hl:48+m<=D.secs.length)(hd:D.down=false)(hK:K.length=32*m)(qx:∀i,i<m->D.rd (48+i)=prt K i)(iF:bZ K)(hf:aD K) :
  zC 75 #[zq p,zq q] w fun e w'=>∃t x g c gk,e=zt #[zq t,.nilIface]/\fO w0 w' t p q S D s m x g c K gk (32*m) K false/\(∀k,An t gk x g k->w.heap.size<=k)/\zB w w':=by
 have Ud:=Cb h.dev hq hc hm hl hd;rw[DO hK qx]at Ud;have iE:=ae Ud;have W8:Hid (∀ (w1 w2:World) (gk x g c:Nat),w.heap.size<=gk->gz w1 gk K->zB w w1->Hp w2 w1.heap.size x g c K->zB w1 w2->fO w0 (w2.alloc (.cells #[zq p,zq q,zq x,.slice (zo gk) (32*m) (32*m),.bool false] 216)) w2.heap.size p q S D s m x g c K gk (32*m) K false) :=ae (fun w1 w2 gk x g c h1 h2 h3 h4 h5=>fO.made h hq Rk AT hc hK iF hf h1 h2 h3 h4 h5);have U9:Hid (∀ (W:World) (gk:Nat),gz W gk K->zC 120 #[.slice (zo gk) (32*m) (32*m)] W fun e w'=>∃p g c,e=zt #[zq p,.nilIface]/\Hp w' W.heap.size p g c K/\zB W w'):=ae (fun W gk hb=>by have:=JC (zo gk) K.length K W (hb.bs iF Sg) hf;rw[hK]at this;exact this);clear h hq Ud qx hf iF hK;generalize 32*m=N at*;go_enter func75,ntmps75
 go_wp2_with fail
 refine iE.mono ?_;rintro e w1 ⟨gk,rfl,hgk,hblk,ay⟩;have Gl:=ae (U9 w1 gk hblk);have GD:=ae hblk;have aQ:=ae ay;go_wp2_with fail
 refine Gl.mono ?_;rintro e w2 ⟨x,g,c,rfl,hh,aK⟩;have HG:Hid (∀k,An w2.heap.size gk x g k->w.heap.size<=k):=ae (fun k hk=>by have h1:=hh.bp;have h2:=hh.bg;have h3:=aQ.size;have h4:=aK.size;rcases hk with rfl | rfl | rfl | rfl <;> omega);have HS:=ae (W8 w1 w2 gk x g c hgk GD aQ hh aK);have bz:=ae ((zTs aQ aK).alloc (qAF aQ.size aK.size) (.cells #[zq p,zq q,zq x,.slice (zo gk) N N,.bool false] 216));clear hh aK Gl W8 GD aQ;go_wp2;go_ret2;exact⟨w2.heap.size,x,g,c,gk,rfl,HS,HG,bz⟩
end
def zW(D:DS)(k:Nat):DS×Int:=iY (D,0) (fun i=>(48+(i:Int),af 32)) k
theorem ye D m:fH D m=di (zW D m):=rfl
theorem zft(h:(zW D k).2=0):zW D (k+1)=((zW D k).1.write (48+(k:Int)) (af 32),(zW D k).1.bN (48+(k:Int)) (af 32)):=me h _ _
theorem zfu(h:(zW D k).2≠0)(hk:k<=m):fH D m=zW D k:=by rw[ye];have:zW D m=zW D k:=uY h m hk;rw[this,eO h]
section
variable {w0 w:World} {p q:Nat} {S:Nat->Prop} {D:DS} {s:Int} {m:Nat}
theorem M5(h:Live w0 w p S D)(m:Nat)(hm:m<=200) :
  zC 73 #[zq p,zi m] w (zr (bc (fH D m).2) fun w'=>∃S',Live w0 w' p S' (fH D m).1/\au S S' w w'):=by
 have H:=ae h;obtain⟨i0,dU,cO,cU,cV⟩:=qAO dw;go_enter func73,ntmps73
 go_wp2_with fail
 go_loopw [8] (fun kv wr=>∃ (k:Nat) (S1:Nat->Prop),k<=m/\kv=zi k/\(zW D k).2=0/\Live w0 wr p S1 (zW D k).1/\au S S1 w wr) (fun kv _=>m-(intOf kv).toNat)
 case atStart=>exact⟨0,S,qAH _,rfl,rfl,H,au.refl _ _⟩
 case round =>
  obtain⟨k,S1,hk,rfl,hz,hl,ht⟩:=hrel;by_cases aB:k<m
  ·have HZ:=ae (zft hz);have HL:=ae hl;have HT:=ae ht;have e1:(0:Int)<=(k:Int):=Sg;have e2:(k:Int)<=200:=Sg;go_wp2_with (at_make;refine bV rfl _ _ 29 rfl i0 underlying29 dU cO cU cV _ _ _ _ 32 rfl rfl rfl rfl Sg ?_)
   intro w2 fR gN aK;have hnS:∀x:Addr,some ((zp wr.heap.size):Addr)=some x->¬S1 x.block:=fun x hx hs=>by obtain rfl:=zOi hx;exact qBd _ (HL.dev.lt _ hs)
   have ku:=(HL.below aK).write (48+(k:Int)) (a:=some (zp wr.heap.size)) (cap:=(af 32).length) (l:=af 32) ⟨fR.bs (cI 32) YG,fun _=>hnS⟩;rw[ag]at ku;have HTB:=ae (HT.trans (au.aI aK));clear fR gN aK hnS;by_cases hE:(zW D k).1.bN (48+(k:Int)) (af 32)=0
   ·rw[hE,aC]at ku;have HW:=ae ku;have HZ2:Hid ((zW D (k+1)).2=0):=ae (by rw[aa HZ];exact hE);clear ku hE;go_wp2_with fail
    refine HW.m ?_;rintro w3 ⟨S2,l7,rp⟩;have Gk:Hid (Live w0 w3 p S2 (zW D (k+1)).1):=ae (by rw[aa HZ];exact l7);have MD:=ae (HTB.trans rp);clear l7 rp HW;go_wp2;go_roundw
    case rel=>exact⟨k+1,S2,Sg,Tc,HZ2,Gk,MD⟩
    case measure=>exact Te
   ·have hZ2:(zW D (k+1)).2≠0:=by rw[aa HZ];exact hE
    have vN:=zfu (m:=m) hZ2 Sg;have e2:(fH D m).2=(zW D k).1.bN (48+(k:Int)) (af 32):=by rw[vN,aa HZ]
    have e1:(fH D m).1=(zW D k).1.write (48+(k:Int)) (af 32):=by rw[vN,aa HZ]
    rw[<-e1,<-e2]at ku;rw[<-e2]at hE;rw[aF _ hE]at ku;have HW:=ae ku;have HE:=ae hE;clear ku hE e1 e2 vN hZ2 HZ;go_wp2_with fail
    refine HW.m ?_;rintro w3 ⟨S2,l7,rp⟩;have Gk:=ae l7;have MD:=ae (HTB.trans rp);clear l7 rp HW;go_wp2;go_ret;exact⟨by rw[aF _ HE];rfl,S2,Gk,MD⟩
  ·obtain rfl:k=m:=by omega
   have lF:=hl.flush;have e2:(fH D k).2=(zW D k).1.cG:=by rw[ye,pq hz]
   have e1:(fH D k).1=(zW D k).1.ba:=by rw[ye,pq hz]
   rw[<-e1,<-e2]at lF;have HF:=ae lF;have HT:=ae ht;clear hl ht hz lF e1 e2;go_wp2_with fail
   refine HF.m ?_;rintro w3 ⟨S2,l7,rp⟩;have Gk:=ae l7;have MD:=ae (HT.trans rp);clear l7 rp HF;go_wp2;go_ret;exact⟨rfl,S2,Gk,MD⟩
theorem Yr(hi:i<m):prt (af (32*m)) i=af 32:=by unfold prt af;rw[List.drop_replicate,List.take_replicate,qBr Sg]
theorem jo.zmx(h:jo D m s (fun _=>af 32) a []):jo D m s (prt (af (32*m))) a [] :=⟨h.ok,h.mem,h.down,h.len,h.lt,h.two,h.even,h.s1,h.s2,h.Cw,fun k hk=>(by cases hk),fun i hi=>by rw[Yr hi];exact h.eH i hi,h.other,h.Av,h.less⟩
theorem jo.rds{nl}(h:jo D m s (prt K) a nl):∀i,i<m->D.rd (48+i)=prt K i:=fun i hi=>by rw[kK h.mem];exact h.eH i hi
def crD(n m:Nat):DS:=(fH (bG (DS.new n)).1 m).1
theorem Qg(h1:57<=n)(h2:n<=300)(hm:48+m<=n)(kz:m<=200):(fH (bG (DS.new n)).1 m).2=0/\jo (crD n m) m 2 (prt (af (32*m))) 0 []/\(crD n m).left<0/\(crD n m).secs.length=n:=by obtain⟨f1,f2,f3⟩:=qi n Sg h2 m hm kz;obtain⟨z1,z2,z3,z4⟩:=Xf f2 (vX n);exact⟨z1,z2.zmx,z4,z3.trans f3⟩
theorem ZY{w0:World}{p}(h:Live w0 w p S (DS.new n))(h1:57<=n)(h2:n<=300)(hm:eo n=m)(BJ:1<=m)(Pr:m<=200)(T4:48+m<=n) :
  zC 72 #[zq p] w fun e w'=>∃q,e=zt #[zq q,.nilIface]/\∃S',Live w0 w' p S' (bG (DS.new n)).1/\eE w' q p 2/\¬S' q/\w0.heap.size<=q:=by
 obtain⟨Fl,hf2,ZE⟩:=qi n Sg h2 m T4 Pr;refine(Fx h (by rw[show(DS.new n).secs.length=n by simp[DS.new],hm];omega)).mono ?_;rintro e w' ⟨v,S',rfl,hl,_,Aa,_⟩;obtain⟨q,rfl,sl,hq,l5⟩:=Aa Fl;have bW:=h.F7.size;exact⟨q,by rw[Fl];rfl,S',hl,sl,l5,Sg⟩
theorem Km(h:Live w0 w p S (DS.new n))(h1:57<=n)(h2:n<=300)(hm:eo n=m) :
  zC 44 #[zq p] w fun e w'=>∃t x,e=zt #[zq t,.nilIface]/\∃q S' g c gk,fO w0 w' t p q S' (crD n m) 2 m x g c (af (32*m)) gk (32*m) (af (32*m)) false:=by
 have kz:9<=m/\m<=200/\48+m<=n:=zpo;obtain⟨z1,z2,z4,z3⟩:=Qg (m:=m) h1 h2 kz.2.2 kz.2.1;have lF:(bG (DS.new n)).1.secs.length=n:=(qi n Sg h2 m kz.2.2 kz.2.1).2.2;have jE:=Ld h.dev;rw[show(DS.new n).secs.length=n by simp[DS.new]]at jE;have jD:=ae jE;have HF:=ae (ZY h h1 h2 hm Sg kz.2.1 kz.2.2);have U9:Hid (∀ (W:World) (q:Nat) (S1:Nat->Prop),Live w0 W p S1 (crD n m)->eE W q p 2->¬S1 q->w0.heap.size<=q->zC 75 #[zq p,zq q] W fun e w'=>∃t x g c gk,e=zt #[zq t,.nilIface]/\fO w0 w' t p q S1 (crD n m) 2 m x g c (af (32*m)) gk (32*m) (af (32*m)) false/\(∀k,An t gk x g k->W.heap.size<=k)/\zB W w') :=ae (fun W q S1 g1 g2 g3 g4=>pV g1 g2 g3 g4 (by rw[z3];exact hm) kz.2.1 (by rw[z3];exact kz.2.2) z2.down (ag _) z2.rds (cI _) (jG (n:=32*m) Sg Sg).1);have yZ:Hid (∀ (W:World) (q:Nat) (S1:Nat->Prop),Live w0 W p S1 (bG (DS.new n)).1->eE W q p 2->zC 74 #[zq q] W (zr (zi m) fun w'=>W=w')) :=ae (fun W q S1 g1 g2=>by have:=EB g1.dev g2;rw[lF,hm]at this;exact this);have HZR:Hid (∀ (W:World) (S1:Nat->Prop),Live w0 W p S1 (bG (DS.new n)).1->zC 73 #[zq p,zi m] W (zr .nilIface fun w'=>∃S',Live w0 w' p S' (crD n m)/\au S1 S' W w')) :=ae (fun W S1 g1=>by have:=M5 g1 m kz.2.1;rw[z1,aC]at this;exact this);have e1:(57:Int)<=(n:Int):=Sg;have e2:(n:Int)<=300:=Sg;generalize crD n m=CD,(bG (DS.new n)).1=FD,af (32*m)=Z at*;go_enter func44,ntmps44
 go_wp2_with fail
 refine jD.m ?_;rintro w1 rfl;go_wp2_with fail
 refine HF.mono ?_;rintro e w1 ⟨q,rfl,S1,jC,zku,ziz,AT⟩;have nh:=ae (yZ w1 q S1 jC zku);have HZ:=ae (HZR w1 S1 jC);have HPG:=ae zku;have zoM:=ae ziz;go_wp2_with fail
 refine nh.m ?_;rintro w2 rfl;go_wp2_with fail
 refine HZ.m ?_;rintro w3 ⟨S2,l7,rp⟩;obtain⟨znx,ziy⟩:=HPG.cQ rp zoM;have HL:=ae (U9 w3 q S2 l7 znx ziy AT);go_wp2_with fail
 refine HL.mono ?_;rintro e w4 ⟨t,x,g,c,gk,rfl,hs,_,hb⟩;have HS:=ae hs;go_wp2;go_ret2;exact⟨t,x,rfl,q,S2,g,c,gk,HS⟩
end
section
variable {w0 w:World} {t p q:Nat} {S:Nat->Prop} {D:DS} {s:Int} {m x g c:Nat} {L:LI} {gk ck:Nat} {K:LI} {cut:Bool}
theorem yl(h:fO w0 w t p q S D s m x g c L gk ck K cut):zC 87 #[zq t] w (zr (zq x) fun w'=>w=w'):=by
 have c2:=h.c2;go_enter func87,ntmps87
 exact Tt
end
section
open Go.Maps
open Go.Sort
open Go.Shelf
def ib(S:Nat->Prop)(q t gk x g:Nat)(k:Nat):Prop:=plus S q k\/An t gk x g k
section
variable {w0 w w':World} {t p q:Nat} {S:Nat->Prop} {D:DS} {s:Int} {m x g c g':Nat} {L:LI} {gk ck:Nat} {K:LI} {cut:Bool}
theorem DT(h:au (bA x g) (bA x g') w w') S q t gk:au (ib S q t gk x g) (ib S q t gk x g') w w' :=
 ⟨h.os,h.tape,h.output,h.size,fun k hk hn=>h.block k hk (fun hf=>hn (.inr (.inr (.inr hf)))),fun k hk hf=>by
  rcases hf with hf|hf|hf|hf
  ·exact .inl hf
  ·exact .inr (.inl hf)
  ·exact .inr (.inr (.inl hf))
  ·exact .inr (.inr (.inr (h.bA k hk hf)))⟩
theorem fO.Am(h:fO w0 w t p q S D s m x g c L gk ck K cut):∀k,ib S q t gk x g k->k<w.heap.size:=fun k hk=>by
 rcases hk with hk|hk
 ·exact h.lH.Ob k hk
 ·exact h.lH.Gu k hk
theorem nK(h:fO w0 w t p q S D s m x g c L gk ck K cut) :
  zC 148 #[zq t] w fun e w'=>∃v,e=.returned v/\w'.ownsRow w.heap.size 3 1 v (cu K L m).length (((cu K L m).map (fun i:Nat=>(i:Int))).map encZ)/\zB w w':=by
 have hm:=h.TD;have c2:=h.c2;have c3:=h.c3;rw[h.uA]at c3;have iE:Hid (zC 141 #[zq x] w.drew fun e w'=>∃a' c',e=.returned (.slice a' (32*m) c')/\w'.cell? (zw t 2)=some (zq x)/\w'.cell? (zw t 3)=some (.slice (zo gk) (32*m) ck) /\
   Hid (zC 202 #[.slice (zo gk) (32*m) ck,.slice a' (32*m) c'] w' fun e w2=>∃v,e=zt #[v,.nilIface]/\w2.cell? (zw t 2)=some (zq x)/\w2.cell? (zw t 3)=some (.slice (zo gk) (32*m) ck) /\
    Hid (w2.ownsRow w.heap.size 3 1 v (cu K L m).length (((cu K L m).map (fun i:Nat=>(i:Int))).map encZ)/\zB w w2))):=ae (by
  have hd:zB w w.drew:=bF zBr;have hb:=ei x g c w0.heap.size L w.drew (h.below hd).hp;rw[h.len]at hb;refine hb.mono ?_;rintro e w1 ⟨a',c',rfl,ho,ay⟩;have ia:=hd.trans (ay.mono hd.size);have h1:=h.below ia;obtain⟨a2,c2',e2,aH⟩:=ho.bs h.hp.B2 (by have:=h.hp.bC.len;omega);rw[h.len]at e2;simp only[qAS,qBL]at e2;obtain⟨rfl,rfl⟩:=e2;have d3:=h1.c3;rw[h.uA]at d3;refine⟨a',c',rfl,h1.c2,d3,ae ((xO (zo gk) a' ck c' m (32*m) K L w1 h1.kbs aH rfl h.uA h.len hm.2.1).mono ?_)⟩;rintro e w2 ⟨v,rfl,hr,aK⟩;have h2:=h1.below aK;have f3:=h2.c3;rw[h.uA]at f3;exact⟨v,rfl,h2.c2,f3,ae ⟨ownsRow_base_a hr ia.size,ia.trans (aK.mono ia.size)⟩⟩)
 generalize 32*m=N,cu K L m=DR at*;go_enter func148,ntmps148
 go_wp2_with fail
 go_region_held3 (fun w'=>w'.cell? (zw t 2)=some (zq x)/\w'.cell? (zw t 3)=some (.slice (zo gk) N ck)) (first | go_keep | (go_split_ands;refine⟨?_,?_⟩ <;> go_keep))
  (first|(go_at_call 141;refine iE.mono ?_;rintro e w1 ⟨a',c',rfl,r0,r1,nh⟩)|(go_at_call 202;refine nh.mono ?_;rintro e w2 ⟨v,rfl,s0,s1,W4⟩))
 go_wp2;go_ret;exact⟨v,rfl,W4.1,W4.2⟩
theorem fO.done(h:fO w0 w t p q S D s m x g c L gk ck K cut){S'}{D'}{s'}(ay:zB w w1)(hn:w.heap.size<=gn)(hr:Row w1 w.heap.size gn cn cur L)(hl:Live w0 w2 p S' D')(hp:eE w2 q p s')(ho:¬S' q)(ht:au (plus S q) (plus S' q) w1 w2)(hc:D'.secs.length=D.secs.length) :
  fO w0 (w2.setCell (zw t 3) (.slice (zo gn) L.length cn)) t p q S' D' s' m x g c L gn cn L cut/\au (ib S q t gk x g) (ib S' q t gn x g) w (w2.setCell (zw t 3) (.slice (zo gn) L.length cn)):=by
 have h1:=h.below ay;have h2:=h1.eH hl hp ho ht hc;have aB:=hr.lt;have hnf:∀k,ib S q t gk x g k->k≠gn:=fun k hk e=>by have:=h.Am k hk;omega
 have hnp:=fun hk=>hnf gn (.inl hk) rfl
 have ui:=(hr.low h.size).same (ht.block gn aB hnp);have zqb:=fun hk=>hnp (ht.bA gn aB hk)
 refine⟨h2.keep ui h.hp.B2 h.hp.bC h.len zqb (fun e=>hnf t (.inr (.inl rfl)) e.symm) (fun hf=>hnf gn (.inr (.inr (.inr hf))) rfl),?_⟩;have fQ:=ay.size;have gN:=ht.size;refine⟨?_,?_,?_,Tb,fun k hk xj=>?_,fun k hk hf=>?_⟩
 ·show w2.os=w.os
  rw[ht.os,ay.os]
 ·show w2.tape=w.tape
  rw[ht.tape,ay.tape]
 ·show w2.output=w.output
  rw[ht.output,ay.output]
 ·exact zom
 ·rcases hf with hf|hf|hf|hf
  ·exact .inl (ht.bA k Sg hf)
  ·exact .inr (.inl hf)
  ·omega
  ·exact .inr (.inr (.inr hf))
theorem Kn(h:fO w0 w t p q S D s m x g c L gk ck K false)(h0:0<=s)(h1:s<4294967295)(hX:(aj D s m (dQ K L m)).2.2=0) :
  zC 98 #[zq t] w (zr .nilIface fun w'=>∃S' gn cn,fO w0 w' t p q S' (aj D s m (dQ K L m)).1 (aj D s m (dQ K L m)).2.1 m x g c L gn cn L false/\au (ib S q t gk x g) (ib S' q t gn x g) w w'):=by
 have hm:=h.TD;have Wh:=h.len;have hlK:=h.uA;have c2:=h.c2;have iF:=ei x g c w0.heap.size L w h.hp;rw[Wh]at iF;have iE:=ae iF;have H:=ae h;have Hi:=nb D s m (dQ K L m);have HXL:=ae Hi;have Hz:Hid (∀ (W:World) (gn cn:Nat),zB w W->w.heap.size<=gn->Bs W (zo gn) cn L->zC 151 #[zq q,.slice (zo gk) (32*m) ck,.slice (zo gn) (32*m) cn] W (zr .nilIface fun w'=>∃S',Live w0 w' p S' (aj D s m (dQ K L m)).1/\eE w' q p (aj D s m (dQ K L m)).2.1/\¬S' q/\au (plus S q) (plus S' q) W w')):=ae (fun W gn cn hb hg aH=>by have hw:=h.below hb;have:=zg hw.lH.live hw.lH.pg hw.lH.out hw.lH.base h.cnt hm.2.1 h0 h1 hw.kbs rfl hlK aH Wh (fun hs=>by have:=h.lH.Ob gn (.inl hs);omega);rw[hX,aC]at this;exact this);clear h iF hX Hi;generalize aj D s m (dQ K L m)=X at*;have Mk:=ae Wh;obtain⟨N,hN⟩:∃N,32*m=N:=⟨_,rfl⟩;rw[hN]at iE Hz Mk hlK;have QZ:=ae hlK;clear Wh hlK hN;go_enter func98,ntmps98
 go_wp2_with fail
 refine iE.mono ?_;rintro e w1 ⟨a1,kc,rfl,ho,ay⟩;obtain⟨gn,cur,rfl,bK⟩:∃gn cur,a1=some (zp gn)/\Row w1 w.heap.size gn kc cur L:=zmv;have uJ:=ae bK;have aQ:=ae ay;have Lj:=H.below ay;have HD:=ae (nK Lj);clear ho bK ay Lj iE c2;go_wp2_with fail
 refine HD.mono ?_;rintro e w2 ⟨v,rfl,ui,aK⟩;obtain⟨an,cn2,rfl,_,_⟩:=wX ui;have Ag:=zTs aQ aK;have xE:=H.below Ag;have c0:=xE.c0;have c4:=xE.c4;have c1:=xE.c1;have c3:=xE.c3;rw[aa QZ]at c3;have HDN:=ae xE.lH.live.down;have xU:(cu K L m).length<=200:=by exact IS
 have hgn:=uJ.1;have LB:zB w w2.drew:=bF Ag;have xR:=uJ.below (bF aK);have gy:Bs w2.drew (zo gn) kc L:=xR.bs H.hp.B2 (by have:=H.hp.bC.len;omega);have qt:Hid (zC 151 #[zq q,.slice (zo gk) N ck,.slice (zo gn) N kc] w2.drew (zr .nilIface fun w'=>w'.cell? (zw t 1)=some (zq q)/\w'.cell? (zw t 3)=some (.slice (zo gk) N ck)/\w'.frozen? (zw t 3)=false /\
   Hid (∃S',fO w0 (w'.setCell (zw t 3) (.slice (zo gn) N kc)) t p q S' X.1 X.2.1 m x g c L gn kc L false/\au (ib S q t gk x g) (ib S' q t gn x g) w (w'.setCell (zw t 3) (.slice (zo gn) N kc))))):=ae (by
  refine(Hz w2.drew gn kc LB hgn gy).m ?_;rintro w4 ⟨S',hl,hp,ho,ht⟩;have Li:=(H.below LB).eH hl hp ho ht HXL;have d3:=Li.c3;rw[aa QZ]at d3;have Wk:=H.done LB hgn xR hl hp ho ht HXL;have hLN:=aa Mk;rw[hLN]at Wk;exact⟨rfl,Li.c1,d3,Li.fr 3,ae ⟨S',Wk⟩⟩)
 generalize (cu K L m).length=n at*;go_wp2_with fail
 refine HDN.m ?_;intro w3 qw;subst qw;go_wp2_with fail
 go_region_held3 (fun w'=>w'.cell? (zw t 1)=some (zq q)/\w'.cell? (zw t 3)=some (.slice (zo gk) N ck)) (first | go_keep | (go_split_ands;refine⟨?_,?_⟩ <;> go_keep))
  ((go_at_call 151;refine qt.m ?_;rintro w4 ⟨r0,r1,r2,HX⟩))
 go_wp2;go_ret;obtain⟨S',hs,ht⟩:=HX;exact⟨rfl,S',gn,kc,hs,ht⟩
