/-
  Parts of the proofs.
-/
import Derived.Test.YtcimhnnendlblaaGreatJDfp
import Derived.Test.YtcimhnnendlblaaGreatJVw
import Derived.Test.YtcimhnnendlblaaGreatJRh
import Derived.Test.YtcimhnnendlblaaGreatJMv
set_option maxRecDepth 100000
set_option maxHeartbeats 16000000
set_option linter.all false
namespace Go.Proofs.YtcimhnnendlblaaGreat
open Go.RowKit
section
open Go.Maps
open Go.Sort
open Go.Shelf
theorem sq(a a':Option Addr)(c c' m N:Nat)(K L:List Int)(w:World)(hb:Bs w a c K)(tp:Bs w a' c' L)(hN:N=32 * m)(hK:K.length=N)(hL:L.length=N)(hm:m<=200) :
  Calls Tryz.prog 141 #[.slice a N c,.slice a' N c'] w fun e w'=>∃ v,e=.returned (.tuple #[v,.nilIface])/\w'.ownsRow w.heap.size 3 1 v (ff K L m).length (((ff K L m).map (fun i:Nat=>(i:Int))).map encZ)/\Below w.heap.size w w':=by
 have K3:K.length=L.length:=hK.trans hL.symm;have hdy:=A9 a a' c c' K L w hb tp K3 (by omega);obtain⟨h0,h1⟩:=QR (K:=K) (L:=L) (m:=m) (by omega) (by omega) hm;have zbH:=wY K3 K.length zNr;rw [aA,hK] at hdy;rw [hK] at h0 h1 zbH;have HD:=af hdy;have HP:Hid (∀ (W:World) (al:Option Addr) (cl:Nat),Qz W al cl (ir K L N)->Calls Tryz.prog 201 #[.slice al (ir K L N).length cl] W fun e w'=>∃ v,e=.returned (.tuple #[v,.nilIface])/\w'.ownsRow W.heap.size 3 1 v (ff K L m).length (((ff K L m).map (fun i:Nat=>(i:Int))).map encZ)/\Below W.heap.size W w'):=af (fun W al cl hl=>by have:=Dc al cl (ir K L N) W hl h0 (by omega);rw [h1,zLm] at this;exact this);have pN:(ir K L N).length<=6400:=by omega
 clear hb tp hdy h0 h1 zbH hK hL K3 hN hm;generalize ff K L m=DR at *;generalize ir K L N=DL at *;go_enter Tryz.func141,Tryz.ntmps141
 go_wp2_with fail
 refine(ae HD).mono ?_;rintro e w1 ⟨v,rfl,wL,ay⟩;obtain⟨al,cl,rfl,jS⟩:=wL.chs (by omega);have lK:=af (ae HP w1 al cl jS);have aL:=af ay;clear wL jS ay HD HP;generalize DL.length=n at *;go_wp2_with fail
 refine(ae lK).mono ?_;rintro e w2 ⟨v2,rfl,bn,aK⟩;have HR:=af (ownsRow_base_a (base':=w.heap.size) bn (ae aL).size);have br:=zTr aL aK;clear bn aK lK;go_wp2;go_ret2;exact⟨v2,rfl,ae HR,ae br⟩
def ZV(g c:Nat)(i:Nat):List Value:=[.int .i64 (i:Int),.slice (some ⟨g,32 * i,none⟩) 32 (c-32 * i)]
theorem zaS(g c i:Nat):(ZV g c i).length=2:=rfl
theorem zaR(g c i:Nat):∀ u∈ZV g c i,u.oneCell'=true:=by
 intro u hu;unfold ZV at hu;rcases zMc hu with rfl | hu
 ·rfl
 rw [zMs hu];rfl
theorem WQ:(Tryz.prog.info? 223).map (fun i=>(i.zero,i.size,i.bytes))=some (some (.agg #[.int .i64 0,.slice none 0 0]),2,32):=by kernel_rfl
theorem zfn{w:World}{g c:Nat}{L:List Int}{m i:Nat}(hb:Bs w (some ⟨g,0,none⟩) c L)(hL:L.length=32 * m)(hi:i<m):Bs w (some ⟨g,32 * i,none⟩) (c-32 * i) (prt L i):=by have hlen:=FF hL hi;obtain⟨h1,h2,h3,h4,h5⟩:=hb;refine⟨Pa h1 i,by omega,by omega,fun e=>(by cases e),fun _=>⟨g,32 * i,rfl,fun j hj=>?_⟩⟩;obtain⟨b,off,e,hc⟩:=h5 (by intro e;rw [e] at hL;simp at hL;omega);simp only [Option.some.injEq,Addr.mk.injEq,and_true] at e;obtain⟨rfl,rfl⟩:=e;have:=hc (32 * i+j) (by omega);rw [Nat.zero_add] at this;rw [this,IK (by omega)]
theorem bT.zkB{w:World}{B:Nat}{v:Value}{g c m:Nat}{L:List Int}{l:List Nat}{S:Nat->Prop}(h:bT (ZV g c) 2 223 w B v l)(hb:Bs w (some ⟨g,0,none⟩) c L)(hL:L.length=32 * m)(hl:∀ i∈l,i<m)(hm:m<=200)(hn:l.length<=1000)(hS:∀ k,S k->k<B)(hg:¬ S g) :
  ∃ a cap,v=.slice a l.length cap/\qa w S a cap (l.map fun i:Nat=>((i:Int),prt L i)):=by
 have hblk:=h.block;obtain⟨a,cap,rfl,hs⟩:=h.kk (zaS g c) (by omega);refine⟨a,cap,rfl,by rw [zLm];exact hs.1,by rw [zLm];omega,fun aO=>?_⟩;obtain⟨b,off,rfl,hc⟩:=hs.2.2.2 (fun e=>aO (by rw [e];rfl));refine⟨b,off,rfl,fun aK=>by have h1:=hS b aK;have h2:=hblk b rfl;omega,fun i hi=>?_⟩;rw [zLm] at hi;have e:l[i]?=some l[i]:=zLg hi;have eg:(l.map fun i:Nat=>((i:Int),prt L i)).getD i (0,[])=((l[i]:Int),prt L l[i]):=by simp [List.getD,hi]
 have aM:=hl _ (List.getElem_mem hi);rw [eg];dsimp only;have c0:=hc i _ e 0 _ rfl;have c1:=hc i _ e 1 _ rfl;rw [FF hL aM];refine⟨by rw [Nat.add_zero] at c0;exact c0,some ⟨g,32 * l[i],none⟩,c-32 * l[i],by rw [Nat.add_assoc] at c1;exact c1,zfn hb hL aM,fun _ x hx=>?_,by omega,by omega⟩;obtain rfl:=zOi hx;exact hg
theorem zay{P:Program}{t:TypeId}(hu:P.underlying t=some (.slice 5))(cL:(P.info? 5).map (·.size)=some 1)(g c N x:Nat)(hn:N<=c)(aM:x<N)(w':World) :
  (Instr.slice t (.slice (some ⟨g,0,none⟩) N c) (some (.int .i64 x)) none none).run P w'=.ok (.slice (some ⟨g,x,none⟩) (N-x) (c-x)) w':=by
 have he:=kx hu;rw [run_slice_l (P:=P) (w:=w') t (some ⟨g,0,none⟩) N c (by rw [he];exact hu) .i64 x (by omega) (by omega),he,eK w' cL];have t1:(x:Int).toNat=x:=zTn x;simp only [Result.andThen,sliced,t1];rw [if_neg (by omega)];simp [Addr.add];exact fun h=>h.symm
theorem zaz{P:Program}{t:TypeId}(hu:P.underlying t=some (.slice 5))(cL:(P.info? 5).map (·.size)=some 1)(g c N x:Nat)(hn:32<=c)(w':World) :
  (Instr.slice t (.slice (some ⟨g,x,none⟩) N c) none (some (.int .i64 32)) none).run P w'=.ok (.slice (some ⟨g,x,none⟩) 32 c) w':=by
 have he:=kx hu;rw [run_slice_h (P:=P) (w:=w') t (some ⟨g,x,none⟩) N c (by rw [he];exact hu) .i64 32 (by omega) (by omega),he,eK w' cL];simp only [Result.andThen,sliced];rw [if_neg (by omega)];simp [Addr.add]
theorem Dk{w:World}{B:Nat}{v:Value}{l:List Nat}(h:w.ownsRow B 3 1 v l.length ((l.map (fun i:Nat=>(i:Int))).map encZ)):∃ a c,v=.slice a l.length c/\l.length<=c/\∀ (j i:Nat),l[j]?=some i->∃ g,a=some ⟨g,0,none⟩/\w.cell? ⟨g,j,none⟩=some (.int .i64 (i:Int)):=by
 rcases h.2 with ⟨rfl,h0⟩ | ⟨g,cap,cur,rfl,hB,hc,h3,h4,h5,h6⟩
 ·refine⟨none,0,by rw [h0],by omega,fun j i hj=>?_⟩;have tl:=List.eq_nil_of_length_eq_zero h0;subst tl;simp at hj
 ·refine⟨some ⟨g,0,none⟩,cap,rfl,h3,fun j i hj=>⟨g,rfl,?_⟩⟩;have aM:=(zLs hj).1;have q:((l.map (fun i:Nat=>(i:Int))).map encZ)[j]?=some (.int .i64 (i:Int)):=by simp [hj,encZ]
  rw [<- h6,List.getElem?_take,if_pos (by omega)] at q;rw [cell_of_row _ _ _ _ _ _ hc];simpa using q
section
variable {w0 w:World} {p q:Nat} {S:Nat->Prop} {D:DS} {s:Int} {m:Nat}
theorem Fe(h:Live w0 w p S D)(hq:dU w q p s)(Xr:¬ S q)(Cf:w0.heap.size<=q)(hc:e9 D.secs.length=m)(hm:m<=200)(h0:0<=s)(h1:s<4294967295){a:Option Addr}{ca N:Nat}{K:List Int}(hk:Bs w a ca K)(hN:N=32 * m)(hK:K.length=N)
  {g cn:Nat} {L:List Int} (hl:Bs w (some ⟨g,0,none⟩) cn L) (hL:L.length=N) (hg:¬ S g) :
  Calls Tryz.prog 78 #[.pointer (some ⟨q,0,none⟩),.slice a N ca,.slice (some ⟨g,0,none⟩) N cn] w fun e w'=>e=.returned (aR (aG D s m (kd K L m)).2.2)/\∃ S',Live w0 w' p S' (aG D s m (kd K L m)).1/\dU w' q p (aG D s m (kd K L m)).2.1/\¬ S' q/\aE (plus S q) (plus S' q) w w':=by
 have G4:=af (sq a (some ⟨g,0,none⟩) ca cn m N K L w hk hl hN hK hL hm);have hLN:L.length=32 * m:=by omega
 have py:N<=cn:=by have:=hl.2.1;omega
 have aM:∀ i∈ff K L m,i<m:=fun i hi=>(ur.1 hi).1
 have zbH:(ff K L m).length<=200:=by
  have:(ff K L m).length<=m:=by unfold ff;exact Nat.le_trans (List.length_filter_le _ _) (by simp)
  omega
 have Oy:=af aM;have HC:Hid (∀ (W:World) (a2:Option Addr) (c2:Nat),Below w.heap.size w W->qa W S a2 c2 (kd K L m)->Calls Tryz.prog 142 #[.pointer (some ⟨q,0,none⟩),.slice a2 (ff K L m).length c2] W fun e w'=>e=.returned (aR (aG D s m (kd K L m)).2.2)/\∃ S',Live w0 w' p S' (aG D s m (kd K L m)).1/\dU w' q p (aG D s m (kd K L m)).2.1/\¬ S' q/\aE (plus S q) (plus S' q) w w'):=af (fun W a2 c2 hb hp=>by have:=NT (h.below hb) (hq.below hb) Xr Cf a2 c2 (kd K L m) hp hc h0 h1;rw [u9] at this;refine this.mono ?_;rintro e w' ⟨he,S',h2,h3,h4,ht⟩;exact⟨he,S',h2,h3,h4,(aE.aW hb).trans ht⟩);have HPO:Hid (∀ (W:World) (B:Nat) (v:Value),Below w.heap.size w W->w.heap.size<=B->bT (ZV g cn) 2 223 W B v (ff K L m)->∃ a2 c2,v=.slice a2 (ff K L m).length c2/\qa W S a2 c2 (kd K L m)):=af (fun W B v hb hB hv=>hv.zkB (hl.below hb) hLN aM hm (by omega) (fun k hk=>Nat.lt_of_lt_of_le (h.dev.lt k hk) hB) hg);obtain⟨ip,GP,SD,GO,hp3⟩:=info_parts WQ;have BP:=fun(i:Nat) (hi:i<m)=>zay (P:=Tryz.prog) (t:=30) zu30 aN g cn N (32 * i) py (by omega)
 have hhi:=fun(i:Nat) (hi:i<m)=>zaz (P:=Tryz.prog) (t:=30) zu30 aN g (cn-32 * i) (N-32 * i) (32 * i) (by omega)
 have HLO:=af BP;have HHI:=af hhi;clear h hq hk hl hK hL hLN aM BP hhi hN hc;generalize aG D s m (kd K L m)=X at *;generalize kd K L m=DP at *;generalize ff K L m=DR at *;go_enter Tryz.func78,Tryz.ntmps78
 go_wp2_with fail
 refine(ae G4).mono ?_;rintro e w1 ⟨v,rfl,bn,ay⟩;obtain⟨an,cn2,rfl,zit,bk⟩:=Dk bn;have HCL:=af bk;have aL:=af ay;clear bn bk ay G4;generalize hn:DR.length=n at *;have HN:=af hn;clear hn;go_wp2_with fail
 go_loopw [9,23] (fun xv kv wr=>∃ k:Nat,k<=n/\kv=.int .i64 k/\bT (ZV g cn) 2 223 wr w1.heap.size xv (DR.take k)/\Below w1.heap.size w1 wr) (fun _ kv _=>n-(intOf kv).toNat)
 case atStart=>exact⟨0,Nat.zero_le _,rfl,bT.nil _ _,zBr⟩
 case round =>
  obtain⟨k,hk,rfl,Xy,ao⟩:=hrel;by_cases aM:k<n
  ·have BR:k<DR.length:=by rw [ae HN];exact aM
   obtain⟨i,hi⟩:∃ i,DR[k]?=some i:=⟨_,zLg BR⟩;obtain⟨gd,rfl,K6⟩:=ae HCL k i hi;have c0:=(ao.cell (p:=⟨gd,k,none⟩) (block_lt_of_cell K6)).trans K6;have him:=ae Oy i (List.mem_of_getElem? hi);have gP:=ae HLO i him;have gM:=ae HHI i him;rw [show((32 * i:Nat):Int)=(i:Int) * 32 by omega] at gP;have zcN:DR.take (k+1)=DR.take k++[i]:=by rw [List.take_add_one,hi];rfl
   have hBr:=ao.size;have HO:=af (Xy.below ((Below.refl _ wr).alloc zNr (.cells (ZV g cn i).toArray 223)));have jK:Hid ((wr.alloc (.cells (ZV g cn i).toArray 223)).heap[wr.heap.size]?=some (.cells (ZV g cn i).toArray 223 (0,0))):=af (heap_alloc_new wr _);have kj:=af ((ao).alloc hBr (.cells (ZV g cn i).toArray 223));have zda:=af zcN;have mm:Hid ((DR.take k).length<=200):=af (by rw [zLt];omega);have e0:(k:Int)<(n:Int):=by omega
   have e1:(0:Int)<=(k:Int):=by omega
   have e2:(i:Int)<200:=by omega
   have e3:(0:Int)<=(i:Int):=by omega
   clear Xy K6 zcN hi ao;go_wp2_with (at_builtin;refine bM rfl _ _ 221 rfl w1.heap.size ip (.agg #[.int .i64 0,.slice none 0 0]) 32 Tryz.underlying221 GP SD GO hp3 rfl (by decide) (by decide) _ _ rfl (ae HO) wr.heap.size i rfl (ae jK) rfl (zaR _ _ _) (Nat.le_trans (ae mm) (by omega)) (by simp;omega) ?_)
   intro v9 w9 hl9 mr;rw [<- ae zda] at hl9;have HL9:=af hl9;have jI:=af ((ae kj).trans mr);clear hl9 mr HO jK kj zda mm;go_wp2;go_roundw
   case rel=>exact⟨k+1,by omega,by go_num,ae HL9,ae jI⟩
   case measure=>simp [intOf];omega
  ·obtain rfl:k=n:=by omega
   rw [<- ae HN,List.take_length] at Xy;have GU:=zTs aL ao;obtain⟨a2,c2,rfl,hpo⟩:=ae HPO wr w1.heap.size _ GU (ae aL).size Xy;have XR:=ae HC wr a2 c2 GU hpo;have HCM:=af XR;clear Xy ao hpo XR GU;go_wp2_with fail
   refine(ae HCM).mono ?_;rintro e w3 ⟨rfl,JD⟩;have HR:=af JD;clear JD HCM;go_wp2;go_ret;exact⟨rfl,ae HR⟩
end
end
def ye(t gk x g:Nat)(k:Nat):Prop:=k=t\/k=gk\/bA x g k
structure jh (w0 w:World) (t p q:Nat) (S:Nat->Prop) (D:DS) (s:Int) (m:Nat) (x g c:Nat) (L:List Int) (gk ck:Nat) (K:List Int) (cut:Bool):Prop where
 lT:w.heap[t]?=some (.cells #[.pointer (some ⟨p,0,none⟩),.pointer (some ⟨q,0,none⟩),.pointer (some ⟨x,0,none⟩),.slice (some ⟨gk,0,none⟩) K.length ck,.bool cut] 140 (0,0))
 vE:oK w0 w p q S D s (ye t gk x g)
 hp:Hp w w0.heap.size x g c L
 kept:∃ cur,Row w w0.heap.size gk ck cur K
 kb:bj K
 kf:aB K
 GV:e9 D.secs.length=m
 len:L.length=32 * m
 Ar:K.length=32 * m
 n1:t≠gk
 n2:¬ bA x g t
 n3:¬ bA x g gk
section
variable {w0 w w':World} {t p q:Nat} {S S':Nat->Prop} {D D':DS} {s s':Int} {m x g c g' c':Nat} {L L':List Int} {gk ck:Nat} {K:List Int} {cut:Bool}
theorem jh.GJ(h:jh w0 w t p q S D s m x g c L gk ck K cut):t<w.heap.size:=(zAg h.lT).1
theorem jh.klt(h:jh w0 w t p q S D s m x g c L gk ck K cut):gk<w.heap.size:=by obtain⟨cur,hr⟩:=h.kept;exact hr.lt
theorem jh.c0(h:jh w0 w t p q S D s m x g c L gk ck K cut):w.cell? ⟨t,0,none⟩=some (.pointer (some ⟨p,0,none⟩)):=by rw [cell_of_row _ _ _ _ _ _ h.lT];rfl
theorem jh.c1(h:jh w0 w t p q S D s m x g c L gk ck K cut):w.cell? ⟨t,1,none⟩=some (.pointer (some ⟨q,0,none⟩)):=by rw [cell_of_row _ _ _ _ _ _ h.lT];rfl
theorem jh.c2(h:jh w0 w t p q S D s m x g c L gk ck K cut):w.cell? ⟨t,2,none⟩=some (.pointer (some ⟨x,0,none⟩)):=by rw [cell_of_row _ _ _ _ _ _ h.lT];rfl
theorem jh.c3(h:jh w0 w t p q S D s m x g c L gk ck K cut):w.cell? ⟨t,3,none⟩=some (.slice (some ⟨gk,0,none⟩) K.length ck):=by rw [cell_of_row _ _ _ _ _ _ h.lT];rfl
theorem jh.c4(h:jh w0 w t p q S D s m x g c L gk ck K cut):w.cell? ⟨t,4,none⟩=some (.bool cut):=by rw [cell_of_row _ _ _ _ _ _ h.lT];rfl
theorem jh.fr(h:jh w0 w t p q S D s m x g c L gk ck K cut)(i:Nat):w.frozen? ⟨t,i,none⟩=false:=frozen_of_row w t i _ _ h.lT
theorem jh.size(h:jh w0 w t p q S D s m x g c L gk ck K cut):w0.heap.size<=w.heap.size:=h.vE.size
theorem jh.base(h:jh w0 w t p q S D s m x g c L gk ck K cut):Below w0.heap.size w0 w:=h.vE.live.Cv
theorem jh.zed(h:jh w0 w t p q S D s m x g c L gk ck K cut):9<=m/\m<=200/\48+m<=D.secs.length:=by have h1:=h.hp.aV.len;have h2:=h.len;have h3:=h.GV;unfold e9 at h3;split at h3 <;> omega
theorem jh.kbs(h:jh w0 w t p q S D s m x g c L gk ck K cut):Bs w (some ⟨gk,0,none⟩) ck K:=by obtain⟨cur,hr⟩:=h.kept;exact hr.bs h.kb (by have:=h.kf.len;omega)
theorem jh.below(h:jh w0 w t p q S D s m x g c L gk ck K cut)(hb:Below w.heap.size w w'):jh w0 w' t p q S D s m x g c L gk ck K cut :=⟨(hb.block t h.GJ).trans h.lT,h.vE.below hb,h.hp.below hb,(by obtain⟨cur,hr⟩:=h.kept;exact⟨cur,hr.below hb⟩),h.kb,h.kf,h.GV,h.len,h.Ar,h.n1,h.n2,h.n3⟩
theorem Row.same{w w':World}{B g c:Nat}{cur:Array Value}{L:List Int}(h:Row w B g c cur L)(e:w'.heap[g]?=w.heap[g]?):Row w' B g c cur L:=⟨h.1,e.trans h.2.1,h.2.2⟩
theorem jh.heap(h:jh w0 w t p q S D s m x g c L gk ck K cut)(hh:Hp w' w0.heap.size x g' c' L')(ht:aE (bA x g) (bA x g') w w')(hl:L'.length=L.length):jh w0 w' t p q S D s m x g' c' L' gk ck K cut:=by
 refine⟨(ht.block t h.GJ h.n2).trans h.lT,h.vE.other ht (fun k hk=>.inr (.inr hk)) (fun k hk=>⟨?_,fun h1=>?_⟩),hh,?_,h.kb,h.kf,h.GV,hl.trans h.len,h.Ar,h.n1,fun hf=>h.n2 (ht.bA t h.GJ hf),fun hf=>h.n3 (ht.bA gk h.klt hf)⟩
 ·rcases hk with rfl | rfl | rfl | rfl
  ·exact Nat.lt_of_lt_of_le h.GJ ht.size
  ·exact Nat.lt_of_lt_of_le h.klt ht.size
  ·exact hh.BJ
  ·exact hh.Yk
 ·rcases hk with hk | hk | hk
  ·exact .inl hk
  ·exact .inr (.inl hk)
  ·exact .inr (.inr (ht.bA k h1 hk))
 ·obtain⟨cur,hr⟩:=h.kept;exact⟨cur,hr.same (ht.block gk h.klt h.n3)⟩
theorem jh.iy(h:jh w0 w t p q S D s m x g c L gk ck K cut)(hl:Live w0 w' p S' D')(hp:dU w' q p s')(ho:¬ S' q)(ht:aE (plus S q) (plus S' q) w w')(hc:D'.secs.length=D.secs.length):jh w0 w' t p q S' D' s' m x g c L gk ck K cut:=by
 have hk:=fun k hk=>h.vE.keep ht k hk
 refine⟨(hk t (.inl rfl)).trans h.lT,h.vE.iy hl hp ho ht,?_,?_,h.kb,h.kf,by rw [hc];exact h.GV,h.len,h.Ar,h.n1,h.n2,h.n3⟩
 ·obtain⟨cur,hr⟩:=h.hp.row;exact⟨h.hp.bp,h.hp.ne,(hk x (.inr (.inr (.inl rfl)))).trans h.hp.lT,⟨cur,hr.same (hk g (.inr (.inr (.inr rfl))))⟩,h.hp.kV,h.hp.aV⟩
 ·obtain⟨cur,hr⟩:=h.kept;exact⟨cur,hr.same (hk gk (.inr (.inl rfl)))⟩
theorem jh.keep(h:jh w0 w t p q S D s m x g c L gk ck K cut){gn cn:Nat}{cur:Array Value}{M:List Int}(hr:Row w w0.heap.size gn cn cur M)(hb:bj M)(hf:aB M)(hM:M.length=32 * m)(h1:¬ plus S q gn)(h2:gn≠t)(h3:¬ bA x g gn) :
  jh w0 (w.setCell ⟨t,3,none⟩ (.slice (some ⟨gn,0,none⟩) M.length cn)) t p q S D s m x g c L gn cn M cut:=by
 have hs:=heap_setCell_same w t 3 _ _ (.slice (some ⟨gn,0,none⟩) M.length cn) h.lT;have ho:∀ k,k≠t->(w.setCell ⟨t,3,none⟩ (.slice (some ⟨gn,0,none⟩) M.length cn)).heap[k]?=w.heap[k]?:=fun k hk=>heap_setCell_other _ _ _ _ hk
 have hT:aE (fun k=>k=t) (fun k=>k=t) w (w.setCell ⟨t,3,none⟩ (.slice (some ⟨gn,0,none⟩) M.length cn)):=aE.setCell w _ rfl;refine⟨by rw [hs];rfl,?_,?_,⟨cur,hr.same (ho gn h2)⟩,hb,hf,h.GV,h.len,hM,fun e=>h2 e.symm,h.n2,h3⟩
 ·have ay:=h.vE.other (T':=fun k=>k=t\/bA x g k) hT (fun k hk=>.inl hk) (fun k hk=>⟨?_,fun _=>?_⟩)
  ·have cL:=hT.size;refine⟨ay.live,ay.pg,ay.out,ay.base,fun k hk=>?_,fun k hk=>?_,fun k hk=>?_⟩
   ·rcases hk with hk | rfl | hk
    ·exact ay.apart k (.inl hk)
    ·exact h1
    ·exact ay.apart k (.inr hk)
   ·rcases hk with hk | rfl | hk
    ·exact ay.GJ k (.inl hk)
    ·exact Nat.lt_of_lt_of_le hr.lt cL
    ·exact ay.GJ k (.inr hk)
   ·rcases hk with hk | rfl | hk
    ·exact ay.tb k (.inl hk)
    ·exact hr.1
    ·exact ay.tb k (.inr hk)
  ·rcases hk with rfl | rfl | rfl
   ·exact Nat.lt_of_lt_of_le h.GJ hT.size
   ·exact Nat.lt_of_lt_of_le h.hp.BJ hT.size
   ·exact Nat.lt_of_lt_of_le h.hp.Yk hT.size
  ·rcases hk with hk | hk
   ·exact .inl hk
   ·exact .inr (.inr hk)
 ·obtain⟨cur2,vB⟩:=h.hp.row;exact⟨h.hp.bp,h.hp.ne,(ho x (fun e=>h.n2 (.inl e.symm))).trans h.hp.lT,⟨cur2,vB.same (ho g (fun e=>h.n2 (.inr e.symm)))⟩,h.hp.kV,h.hp.aV⟩
end
theorem An(K:List Int):∀ {n:Nat},K.length=n->(List.range n).map (fun j=>K.getD j 0)=K:=by
 intro n hn;apply bQ
 ·simp [hn]
 ·intro i hi;simp at hi;rw [List.getD_eq_getElem?_getD,List.getElem?_map,List.getElem?_range hi];rfl
theorem Lm{D:DS}{m:Nat}{K:List Int}(hK:K.length=32 * m)(h:∀ i,i<m->D.rd (48+i)=prt K i):eR (iO D m) [] 0 (32 * m)=K:=by
 rw [<- An K hK];unfold eR;apply List.map_congr_left;intro j hj;have hj':=List.mem_range.1 hj;unfold mz GI;rw [Nat.zero_add]
 show((none:Option (List Int)).getD ((iO D m).getD (j / 32) [])).getD (j % 32) 0=K.getD j 0
 rw [Option.getD_none,Jm D (by omega),h _ (by omega),IK (Nat.mod_lt _ (by decide)),show 32 * (j / 32)+j % 32=j by omega]
section
variable {w0 w:World} {p q:Nat} {S:Nat->Prop} {D:DS} {s:Int} {m:Nat}
theorem HJ(h:pT w p S D)(hq:dU w q p s)(hc:e9 D.secs.length=m)(hm:m<=200)(hl:48+m<=D.secs.length)(hd:D.down=false) :
  Calls Tryz.prog 136 #[.pointer (some ⟨q,0,none⟩)] w fun e w'=>∃ g,e=.returned (.tuple #[.slice (some ⟨g,0,none⟩) (32 * m) (32 * m),.nilIface])/\w.heap.size<=g/\fH w' g (eR (iO D m) [] 0 (32 * m))/\Below w.heap.size w w':=by
 have HN:=af (UO h hq hc hm hl hd);have BR:=iz D m;clear h hq;generalize iO D m=KP at *;obtain⟨N,hN⟩:∃ N,32 * m=N:=⟨_,rfl⟩;rw [hN];have G0:=af hN;have HKL:=af BR;clear hN BR hc;go_enter Tryz.func136,Tryz.ntmps136
 go_wp2_with fail
 refine(ae HN).mono ?_;rintro e w1 ⟨v,gk,gm,rfl,hv,_,_,_,ay⟩;have nJ:=Hg hv;have sw:=QL hv 0 N (by rw [ae HKL,ae G0];omega);rw [ae HKL,ae G0] at nJ;have HL:=af nJ;have HR:=af sw;have aL:=af ay;clear hv nJ sw ay HN;go_wp2_with fail
 refine(ae HL).mono ?_;rintro e w2 ⟨rfl,rfl⟩;go_wp2_with fail
 refine(ae HR).mono ?_;rintro e w2 ⟨g,rfl,hg,hblk,aK⟩;have KW:=af hblk;have br:=zTr aL aK;have cL:=(ae aL).size;clear hblk aK HL HR;go_wp2;go_ret2;exact⟨g,rfl,by omega,ae KW,ae br⟩
theorem jh.made{w1 w2:World}(h:Live w0 w p S D)(hq:dU w q p s)(Xr:¬ S q)(Cf:w0.heap.size<=q)(hc:e9 D.secs.length=m){K:List Int}(hK:K.length=32 * m)(ik:bj K)(hf:aB K){gk x g c:Nat}
  (hg:w.heap.size<=gk) (hblk:fH w1 gk K) (ay:Below w.heap.size w w1) (hh:Hp w2 w1.heap.size x g c K) (aK:Below w1.heap.size w1 w2) :
  jh w0 (w2.alloc (.cells #[.pointer (some ⟨p,0,none⟩),.pointer (some ⟨q,0,none⟩),.pointer (some ⟨x,0,none⟩),.slice (some ⟨gk,0,none⟩) (32 * m) (32 * m),.bool false] 140)) w2.heap.size p q S D s m x g c K gk (32 * m) K false:=by
 have Sx:=h.Cv.size;have nF:=ay.size;have M6:=aK.size;have BR:gk<w1.heap.size:=hblk.lt;have Co:Below w.heap.size w w2:=ay.trans (aK.mono nF);have fp:Below w2.heap.size w2 (w2.alloc (.cells #[.pointer (some ⟨p,0,none⟩),.pointer (some ⟨q,0,none⟩),.pointer (some ⟨x,0,none⟩),.slice (some ⟨gk,0,none⟩) (32 * m) (32 * m),.bool false] 140)):=zBr.alloc zNr _;have bR:=Co.trans (fp.mono Co.size);have hxp:=hh.BJ;have hxg:=hh.Yk;have hbp:=hh.bp;have hbg:=hh.bg;have lQ:=h.below bR;have zlz:=fun k hk=>h.dev.lt k hk
 have zk1:=hq.lt;have zhT:∀ k,plus S q k->k<w.heap.size:=fun k hk=>by
  rcases hk with hk | rfl
  ·exact zlz k hk
  ·exact zk1
 have XJ:∀ k,ye w2.heap.size gk x g k->w.heap.size<=k/\k<w2.heap.size+1:=fun k hk=>by rcases hk with rfl | rfl | rfl | rfl <;> omega
 refine⟨by rw [hK];exact heap_alloc_new w2 _,⟨lQ,hq.below bR,Xr,Cf,fun k hk hs=>?_,fun k hk=>?_,fun k hk=>?_⟩,?_,?_,ik,hf,hc,hK,hK,by omega,?_,?_⟩
 ·have h1:=zhT k hs;have h2:=(XJ k hk).1;omega
 ·have:=(XJ k hk).2;simpa using this
 ·have:=(XJ k hk).1;omega
 ·obtain⟨cur,hr⟩:=hh.row;have JM:=hh.below fp;obtain⟨cur2,vB⟩:=JM.row;exact⟨by omega,JM.ne,JM.lT,⟨cur2,vB.low (by omega)⟩,JM.kV,JM.aV⟩
 ·have hr:=(hblk.row (B:=w0.heap.size) (by omega)).below (aK.trans (fp.mono aK.size));rw [hK] at hr;exact⟨_,hr⟩
 ·rintro (e | e) <;> omega
 ·rintro (e | e) <;> omega
theorem zE(h:Live w0 w p S D)(hq:dU w q p s)(Xr:¬ S q)(Cf:w0.heap.size<=q)(hc:e9 D.secs.length=m)(hm:m<=200)(hl:48+m<=D.secs.length)(hd:D.down=false){K:List Int}(hK:K.length=32 * m)(sw:∀ i,i<m->D.rd (48+i)=prt K i)(ik:bj K)(hf:aB K) :
  Calls Tryz.prog 69 #[.pointer (some ⟨p,0,none⟩),.pointer (some ⟨q,0,none⟩)] w fun e w'=>∃ t x g c gk,e=.returned (.tuple #[.pointer (some ⟨t,0,none⟩),.nilIface])/\jh w0 w' t p q S D s m x g c K gk (32 * m) K false/\(∀ k,ye t gk x g k->w.heap.size<=k)/\Below w.heap.size w w':=by
 have zeU:=HJ h.dev hq hc hm hl hd;rw [Lm hK sw] at zeU;have ic:=af zeU;have HMK:Hid (∀ (w1 w2:World) (gk x g c:Nat),w.heap.size<=gk->fH w1 gk K->Below w.heap.size w w1->Hp w2 w1.heap.size x g c K->Below w1.heap.size w1 w2->jh w0 (w2.alloc (.cells #[.pointer (some ⟨p,0,none⟩),.pointer (some ⟨q,0,none⟩),.pointer (some ⟨x,0,none⟩),.slice (some ⟨gk,0,none⟩) (32 * m) (32 * m),.bool false] 140)) w2.heap.size p q S D s m x g c K gk (32 * m) K false) :=af (fun w1 w2 gk x g c h1 h2 h3 h4 h5=>jh.made h hq Xr Cf hc hK ik hf h1 h2 h3 h4 h5);have Oz:Hid (∀ (W:World) (gk:Nat),fH W gk K->Calls Tryz.prog 18 #[.slice (some ⟨gk,0,none⟩) (32 * m) (32 * m)] W fun e w'=>∃ p g c,e=.returned (.tuple #[.pointer (some ⟨p,0,none⟩),.nilIface])/\Hp w' W.heap.size p g c K/\Below W.heap.size W w'):=af (fun W gk hb=>by have:=wP (some ⟨gk,0,none⟩) K.length K W (hb.bs ik (by omega)) hf;rw [hK] at this;exact this);clear h hq zeU sw hf ik hK;generalize 32 * m=N at *;go_enter Tryz.func69,Tryz.ntmps69
 go_wp2_with fail
 refine(ae ic).mono ?_;rintro e w1 ⟨gk,rfl,hgk,hblk,ay⟩;have BY:=af (ae Oz w1 gk hblk);have KW:=af hblk;have aL:=af ay;clear hblk ay ic Oz;go_wp2_with fail
 refine(ae BY).mono ?_;rintro e w2 ⟨x,g,c,rfl,hh,aK⟩;have HG:Hid (∀ k,ye w2.heap.size gk x g k->w.heap.size<=k):=af (fun k hk=>by have h1:=hh.bp;have h2:=hh.bg;have h3:=(ae aL).size;have h4:=aK.size;rcases hk with rfl | rfl | rfl | rfl <;> omega);have HS:=af (ae HMK w1 w2 gk x g c hgk (ae KW) (ae aL) hh aK);have br:=af ((zTs aL aK).alloc (Nat.le_trans (ae aL).size aK.size) (.cells #[.pointer (some ⟨p,0,none⟩),.pointer (some ⟨q,0,none⟩),.pointer (some ⟨x,0,none⟩),.slice (some ⟨gk,0,none⟩) N N,.bool false] 140));clear hh aK BY HMK KW aL;go_wp2;go_ret2;exact⟨w2.heap.size,x,g,c,gk,rfl,ae HS,ae HG,ae br⟩
end
def zW(D:DS)(k:Nat):DS×Int:=kT (D,0) (fun i=>(48+(i:Int),ag 32)) k
theorem sN(D:DS)(m:Nat):eG D m=eD (zW D m):=rfl
theorem zad{D:DS}{k:Nat}(h:(zW D k).2=0):zW D (k+1)=((zW D k).1.write (48+(k:Int)) (ag 32),(zW D k).1.cX (48+(k:Int)) (ag 32)):=zg h _ _
theorem zae{D:DS}{k m:Nat}(h:(zW D k).2≠0)(hk:k<=m):eG D m=zW D k:=by rw [sN];have:zW D m=zW D k:=qk h m hk;rw [this,ib h]
section
variable {w0 w:World} {p q:Nat} {S:Nat->Prop} {D:DS} {s:Int} {m:Nat}
theorem Hw(h:Live w0 w p S D)(m:Nat)(hm:m<=200) :
  Calls Tryz.prog 67 #[.pointer (some ⟨p,0,none⟩),.int .i64 m] w fun e w'=>e=.returned (aR (eG D m).2)/\∃ S',Live w0 w' p S' (eG D m).1/\aE S S' w w':=by
 have H:=af h;obtain⟨i0,eP,cY,dw,dz⟩:=info_parts dQ;clear h;go_enter Tryz.func67,Tryz.ntmps67
 go_wp2_with fail
 go_loopw [8] (fun kv wr=>∃ (k:Nat) (S1:Nat->Prop),k<=m/\kv=.int .i64 k/\(zW D k).2=0/\Live w0 wr p S1 (zW D k).1/\aE S S1 w wr) (fun kv _=>m-(intOf kv).toNat)
 case atStart=>exact⟨0,S,Nat.zero_le _,rfl,rfl,ae H,aE.refl _ _⟩
 case round =>
  obtain⟨k,S1,hk,rfl,hz,hl,ht⟩:=hrel;by_cases aM:k<m
  ·have HZ:=af (zad hz);have HL:=af hl;have HT:=af ht;have e0:(k:Int)<(m:Int):=by omega
   have e1:(0:Int)<=(k:Int):=by omega
   have e2:(k:Int)<=200:=by omega
   clear hl ht hz;go_wp2_with (at_make;refine bE rfl _ _ 30 rfl i0 zu30 eP cY dw dz _ _ _ _ 32 rfl rfl rfl rfl (by omega) ?_)
   intro w2 gO gM aK;have hnS:∀ x:Addr,some (⟨wr.heap.size,0,none⟩:Addr)=some x->¬ S1 x.block:=fun x hx hs=>by obtain rfl:=zOi hx;exact Nat.lt_irrefl _ ((ae HL).dev.lt _ hs)
   have qM:=((ae HL).below aK).write (48+(k:Int)) (a:=some ⟨wr.heap.size,0,none⟩) (cap:=(ag 32).length) (l:=ag 32) ⟨gO.bs (bW 32) (by rw [aj];decide),fun _=>hnS⟩;rw [aj] at qM;have HTB:=af ((ae HT).trans (aE.aW aK));clear gO gM aK hnS;by_cases hE:(zW D k).1.cX (48+(k:Int)) (ag 32)=0
   ·rw [hE,aA] at qM;have HW:=af qM;have HZ2:Hid ((zW D (k+1)).2=0):=af (by rw [ae HZ];exact hE);clear qM hE;go_wp2_with fail
    refine(ae HW).mono ?_;rintro e w3 ⟨rfl,S2,lQ,tD⟩;have tz:Hid (Live w0 w3 p S2 (zW D (k+1)).1):=af (by rw [ae HZ];exact lQ);have Ux:=af ((ae HTB).trans tD);clear lQ tD HW;go_wp2;go_roundw
    case rel=>exact⟨k+1,S2,by omega,by go_num,ae HZ2,ae tz,ae Ux⟩
    case measure=>simp [intOf];omega
   ·have hZ2:(zW D (k+1)).2≠0:=by rw [ae HZ];exact hE
    have AI:=zae (m:=m) hZ2 (by omega);have e2:(eG D m).2=(zW D k).1.cX (48+(k:Int)) (ag 32):=by rw [AI,ae HZ]
    have e1:(eG D m).1=(zW D k).1.write (48+(k:Int)) (ag 32):=by rw [AI,ae HZ]
    rw [<- e1,<- e2] at qM;rw [<- e2] at hE;rw [aC _ hE] at qM;have HW:=af qM;have HE:=af hE;clear qM hE e1 e2 AI hZ2 HZ;go_wp2_with fail
    refine(ae HW).mono ?_;rintro e w3 ⟨rfl,S2,lQ,tD⟩;have tz:=af lQ;have Ux:=af ((ae HTB).trans tD);clear lQ tD HW;go_wp2;go_ret;exact⟨by rw [aC _ (ae HE)];rfl,S2,ae tz,ae Ux⟩
  ·obtain rfl:k=m:=by omega
   have pN:=hl.flush;have e2:(eG D k).2=(zW D k).1.dP:=by rw [sN,zh hz]
   have e1:(eG D k).1=(zW D k).1.bI:=by rw [sN,zh hz]
   rw [<- e1,<- e2] at pN;have HF:=af pN;have HT:=af ht;clear hl ht hz pN e1 e2;go_wp2_with fail
   refine(ae HF).mono ?_;rintro e w3 ⟨rfl,S2,lQ,tD⟩;have tz:=af lQ;have Ux:=af ((ae HT).trans tD);clear lQ tD HF;go_wp2;go_ret;exact⟨rfl,S2,ae tz,ae Ux⟩
theorem Rr{m i:Nat}(hi:i<m):prt (ag (32 * m)) i=ag 32:=by unfold prt ag;rw [List.drop_replicate,List.take_replicate,Nat.min_eq_left (by omega)]
theorem fW.zgB{a:Nat}(h:fW D m s (fun _=>ag 32) a []):fW D m s (prt (ag (32 * m))) a [] :=⟨h.ok,h.mem,h.down,h.len,h.lt,h.two,h.even,h.s1,h.s2,h.Th,fun k hk=>(by cases hk),fun i hi=>by rw [Rr hi];exact h.iy i hi,h.other,h.u7,h.less⟩
theorem fW.rds{K:List Int}{a:Nat}{nl:List Int}(h:fW D m s (prt K) a nl):∀ i,i<m->D.rd (48+i)=prt K i:=fun i hi=>by rw [s8 h.mem];exact h.iy i hi
def crD(n m:Nat):DS:=(eG (cI (DS.new n)).1 m).1
theorem Kf{n:Nat}(h1:57<=n)(h2:n<=300)(hm:48+m<=n)(iP:m<=200):(eG (cI (DS.new n)).1 m).2=0/\fW (crD n m) m 2 (prt (ag (32 * m))) 0 []/\(crD n m).left<0/\(crD n m).secs.length=n:=by obtain⟨f1,f2,f3⟩:=pC n (by omega) h2 m hm iP;obtain⟨z1,z2,z3,z4⟩:=QA f2 (yb n);exact⟨z1,z2.zgB,z4,z3.trans f3⟩
theorem Tp{w0 w:World}{p:Nat}{S:Nat->Prop}{n:Nat}(h:Live w0 w p S (DS.new n))(h1:57<=n)(h2:n<=300)(hm:e9 n=m)(uO:1<=m)(qO:m<=200)(Nd:48+m<=n) :
  Calls Tryz.prog 66 #[.pointer (some ⟨p,0,none⟩)] w fun e w'=>∃ q,e=.returned (.tuple #[.pointer (some ⟨q,0,none⟩),.nilIface])/\∃ S',Live w0 w' p S' (cI (DS.new n)).1/\dU w' q p 2/\¬ S' q/\w0.heap.size<=q:=by
 obtain⟨K4,hf2,hf3⟩:=pC n (by omega) h2 m Nd qO;refine(AY h (by rw [show(DS.new n).secs.length=n by simp [DS.new],hm];omega)).mono ?_;rintro e w' ⟨v,S',rfl,hl,_,Su,_⟩;obtain⟨q,rfl,JG,hq,iA⟩:=Su K4;have cL:=h.Cv.size;exact⟨q,by rw [K4];rfl,S',hl,JG,iA,by omega⟩
theorem E9{n:Nat}(h:Live w0 w p S (DS.new n))(h1:57<=n)(h2:n<=300)(hm:e9 n=m) :
  Calls Tryz.prog 21 #[.pointer (some ⟨p,0,none⟩)] w fun e w'=>∃ t x,e=.returned (.tuple #[.pointer (some ⟨t,0,none⟩),.nilIface])/\∃ q S' g c gk,jh w0 w' t p q S' (crD n m) 2 m x g c (ag (32 * m)) gk (32 * m) (ag (32 * m)) false:=by
 have iP:9<=m/\m<=200/\48+m<=n:=by unfold e9 at hm;split at hm <;> omega
 obtain⟨z1,z2,z4,z3⟩:=Kf (m:=m) h1 h2 iP.2.2 iP.2.1;have pN:(cI (DS.new n)).1.secs.length=n:=(pC n (by omega) h2 m iP.2.2 iP.2.1).2.2;have nJ:=Ps h.dev;rw [show(DS.new n).secs.length=n by simp [DS.new]] at nJ;have vG:=af nJ;have HF:=af (Tp h h1 h2 hm (by omega) iP.2.1 iP.2.2);have Oz:Hid (∀ (W:World) (q:Nat) (S1:Nat->Prop),Live w0 W p S1 (crD n m)->dU W q p 2->¬ S1 q->w0.heap.size<=q->Calls Tryz.prog 69 #[.pointer (some ⟨p,0,none⟩),.pointer (some ⟨q,0,none⟩)] W fun e w'=>∃ t x g c gk,e=.returned (.tuple #[.pointer (some ⟨t,0,none⟩),.nilIface])/\jh w0 w' t p q S1 (crD n m) 2 m x g c (ag (32 * m)) gk (32 * m) (ag (32 * m)) false/\(∀ k,ye t gk x g k->W.heap.size<=k)/\Below W.heap.size W w') :=af (fun W q S1 g1 g2 g3 g4=>zE g1 g2 g3 g4 (by rw [z3];exact hm) iP.2.1 (by rw [z3];exact iP.2.2) z2.down (aj _) z2.rds (bW _) (dV (n:=32 * m) (by omega) (by omega)).1);have yw:Hid (∀ (W:World) (q:Nat) (S1:Nat->Prop),Live w0 W p S1 (cI (DS.new n)).1->dU W q p 2->Calls Tryz.prog 68 #[.pointer (some ⟨q,0,none⟩)] W fun e w'=>e=.returned (.int .i64 m)/\W=w') :=af (fun W q S1 g1 g2=>by have:=z7 g1.dev g2;rw [pN,hm] at this;exact this);have HZR:Hid (∀ (W:World) (S1:Nat->Prop),Live w0 W p S1 (cI (DS.new n)).1->Calls Tryz.prog 67 #[.pointer (some ⟨p,0,none⟩),.int .i64 m] W fun e w'=>e=.returned .nilIface/\∃ S',Live w0 w' p S' (crD n m)/\aE S1 S' W w') :=af (fun W S1 g1=>by have:=Hw g1 m iP.2.1;rw [z1,aA] at this;exact this);have e1:(57:Int)<=(n:Int):=by omega
 have e2:(n:Int)<=300:=by omega
 clear h nJ hm z1 z2 z3 z4 pN iP;generalize crD n m=CD at *;generalize (cI (DS.new n)).1=FD at *;generalize ag (32 * m)=Z at *;go_enter Tryz.func21,Tryz.ntmps21
 go_wp2_with fail
 refine(ae vG).mono ?_;rintro e w1 ⟨rfl,rfl⟩;go_wp2_with fail
 refine(ae HF).mono ?_;rintro e w1 ⟨q,rfl,S1,kU,zew,DW,Cf⟩;have lK:=af (ae yw w1 q S1 kU zew);have HZ:=af (ae HZR w1 S1 kU);have HPG:=af zew;have zjs:=af DW;clear kU zew DW HF yw vG HZR;go_wp2_with fail
 refine(ae lK).mono ?_;rintro e w2 ⟨rfl,rfl⟩;go_wp2_with fail
 refine(ae HZ).mono ?_;rintro e w3 ⟨rfl,S2,lQ,tD⟩;obtain⟨zhV,zcS⟩:=(ae HPG).dZ tD (ae zjs);have HL:=af (ae Oz w3 q S2 lQ zhV zcS Cf);clear lQ tD zhV zcS HZ lK Oz HPG zjs;go_wp2_with fail
 refine(ae HL).mono ?_;rintro e w4 ⟨t,x,g,c,gk,rfl,hs,_,hb⟩;have HS:=af hs;clear hs hb HL;go_wp2;go_ret2;exact⟨t,x,rfl,q,S2,g,c,gk,ae HS⟩
theorem E8{K:List Int}(h:Live w0 w p S D)(hc:e9 D.secs.length=m)(uO:1<=m)(iP:m<=200)(hr:lz D m s (prt K))(hK:K.length=32 * m)(ik:bj K)(hf:aB K)(hlf:D.left<0) :
  Calls Tryz.prog 27 #[.pointer (some ⟨p,0,none⟩)] w fun e w'=>∃ t x,e=.returned (.tuple #[.pointer (some ⟨t,0,none⟩),.nilIface])/\∃ q S' D' g c gk,jh w0 w' t p q S' D' s m x g c K gk (32 * m) K false/\tw D D' m (prt K)/\lz D' m s (prt K)/\D'.left<0/\aE S S' w w'/\∀ k,plus (ye t gk x g) q k->w.heap.size<=k:=by
 obtain⟨r1,r2,r3,r4,r5⟩:(fO D m).2.2=0/\(fO D m).2.1=s/\tw D (fO D m).1 m (prt K)/\lz (fO D m).1 m s (prt K)/\(D.left<0->(fO D m).1.left<0):=by
  rcases Mj hr with r | r
  ·exact r
  ·exact absurd hlf r.2.1
 have PF:=zaY h hc uO hr.down;rw [r1,r2,aA] at PF;generalize (fO D m).1=E at *;have HOP:=af PF;have HR:=af (And.intro r3 (And.intro r4 (r5 hlf)));have cL:=h.Cv.size;have Oz:Hid (∀ (W:World) (q:Nat) (S1:Nat->Prop),Live w0 W p S1 E->dU W q p s->¬ S1 q->w0.heap.size<=q->Calls Tryz.prog 69 #[.pointer (some ⟨p,0,none⟩),.pointer (some ⟨q,0,none⟩)] W fun e w'=>∃ t x g c gk,e=.returned (.tuple #[.pointer (some ⟨t,0,none⟩),.nilIface])/\jh w0 w' t p q S1 E s m x g c K gk (32 * m) K false/\(∀ k,ye t gk x g k->W.heap.size<=k)/\Below W.heap.size W w') :=af (fun W q S1 g1 g2 g3 g4=>zE g1 g2 g3 g4 (by rw [r3.len];exact hc) iP (by rw [r3.len];exact hr.len) r4.down hK (fun i hi=>by rw [s8 r3.mem];exact r3.iy i hi) ik hf);clear h PF r1 r2 r3 r4 r5 hc hr hK ik hf;go_enter Tryz.func27,Tryz.ntmps27
 go_wp2_with fail
 refine(ae HOP).mono ?_;rintro e w1 ⟨v,rfl,S1,kU,GL,Su,_⟩;obtain⟨q,rfl,JG,hq,iA⟩:=Su (by trivial);have HL:=af (ae Oz w1 q S1 kU JG iA (by omega));have HT:=af GL;have nF:=GL.size;clear kU GL Su JG iA HOP Oz;go_wp2_with fail
 refine(ae HL).mono ?_;rintro e w2 ⟨t,x,g,c,gk,rfl,hs,tJ,hb⟩;have HS:=af hs;have HG:=af tJ;have BA:=af ((ae HT).trans (aE.aW hb));clear hs hb tJ HL;go_wp2;go_ret2;refine⟨t,x,rfl,q,S1,E,g,c,gk,ae HS,(ae HR).1,(ae HR).2.1,(ae HR).2.2,ae BA,fun k hk=>?_⟩;rcases hk with hk | rfl
 ·exact Nat.le_trans nF (ae HG k hk)
 ·exact hq
end
section
variable {w0 w:World} {t p q:Nat} {S:Nat->Prop} {D:DS} {s:Int} {m x g c:Nat} {L:List Int} {gk ck:Nat} {K:List Int} {cut:Bool}
theorem LD(h:jh w0 w t p q S D s m x g c L gk ck K cut):Calls Tryz.prog 22 #[.pointer (some ⟨t,0,none⟩)] w fun e w'=>e=.returned (.pointer (some ⟨x,0,none⟩))/\w=w':=by
 have c2:=h.c2;clear h;go_enter Tryz.func22,Tryz.ntmps22
 go_wp2;go_ret;exact⟨rfl,rfl⟩
end
section
open Go.Maps
open Go.Sort
open Go.Shelf
def mv(S:Nat->Prop)(q t gk x g:Nat)(k:Nat):Prop:=plus S q k\/ye t gk x g k
section
variable {w0 w w':World} {t p q:Nat} {S:Nat->Prop} {D:DS} {s:Int} {m x g c g':Nat} {L:List Int} {gk ck:Nat} {K:List Int} {cut:Bool}
theorem Ls(h:aE (bA x g) (bA x g') w w')(S:Nat->Prop)(q t gk:Nat):aE (mv S q t gk x g) (mv S q t gk x g') w w' :=
 ⟨h.os,h.tape,h.output,h.size,fun k hk hn=>h.block k hk (fun hf=>hn (.inr (.inr (.inr hf)))),fun k hk hf=>by
  rcases hf with hf | hf | hf | hf
  ·exact .inl hf
  ·exact .inr (.inl hf)
  ·exact .inr (.inr (.inl hf))
  ·exact .inr (.inr (.inr (h.bA k hk hf)))⟩
theorem jh.Gm(h:jh w0 w t p q S D s m x g c L gk ck K cut):∀ k,mv S q t gk x g k->k<w.heap.size:=fun k hk=>by
 rcases hk with hk | hk
 ·exact h.vE.BJ k hk
 ·exact h.vE.GJ k hk
theorem Hz(h:jh w0 w t p q S D s m x g c L gk ck K cut) :
  Calls Tryz.prog 75 #[.pointer (some ⟨t,0,none⟩)] w fun e w'=>∃ v,e=.returned v/\w'.ownsRow w.heap.size 3 1 v (ff K L m).length (((ff K L m).map (fun i:Nat=>(i:Int))).map encZ)/\Below w.heap.size w w':=by
 have hm:=h.zed;have c2:=h.c2;have c3:=h.c3;rw [h.Ar] at c3;have ic:Hid (Calls Tryz.prog 9 #[.pointer (some ⟨x,0,none⟩)] w.drew fun e w'=>∃ a' c',e=.returned (.slice a' (32 * m) c')/\w'.cell? ⟨t,2,none⟩=some (.pointer (some ⟨x,0,none⟩))/\w'.cell? ⟨t,3,none⟩=some (.slice (some ⟨gk,0,none⟩) (32 * m) ck) /\
   Hid (Calls Tryz.prog 141 #[.slice (some ⟨gk,0,none⟩) (32 * m) ck,.slice a' (32 * m) c'] w' fun e w2=>∃ v,e=.returned (.tuple #[v,.nilIface])/\w2.cell? ⟨t,2,none⟩=some (.pointer (some ⟨x,0,none⟩))/\w2.cell? ⟨t,3,none⟩=some (.slice (some ⟨gk,0,none⟩) (32 * m) ck) /\
    Hid (w2.ownsRow w.heap.size 3 1 v (ff K L m).length (((ff K L m).map (fun i:Nat=>(i:Int))).map encZ)/\Below w.heap.size w w2))):=af (by
  have hd:Below w.heap.size w w.drew:=bq zBr;have hb:=cZ x g c w0.heap.size L w.drew (h.below hd).hp;rw [h.len] at hb;refine hb.mono ?_;rintro e w1 ⟨a',c',rfl,ho,ay⟩;have dm:=hd.trans (ay.mono hd.size);have h1:=h.below dm;obtain⟨a2,c2',e2,aX⟩:=ho.bs h.hp.kV (by have:=h.hp.aV.len;omega);rw [h.len] at e2;simp only [Value.slice.injEq,true_and] at e2;obtain⟨rfl,rfl⟩:=e2;have d3:=h1.c3;rw [h.Ar] at d3;refine⟨a',c',rfl,h1.c2,d3,af ((sq (some ⟨gk,0,none⟩) a' ck c' m (32 * m) K L w1 h1.kbs aX rfl h.Ar h.len hm.2.1).mono ?_)⟩;rintro e w2 ⟨v,rfl,hr,aK⟩;have h2:=h1.below aK;have f3:=h2.c3;rw [h.Ar] at f3;exact⟨v,rfl,h2.c2,f3,af ⟨ownsRow_base_a hr dm.size,dm.trans (aK.mono dm.size)⟩⟩)
 clear h hm;generalize 32 * m=N at *;generalize ff K L m=DR at *;go_enter Tryz.func75,Tryz.ntmps75
 go_wp2_with fail
 go_region_held3 (fun w'=>w'.cell? ⟨t,2,none⟩=some (.pointer (some ⟨x,0,none⟩))/\w'.cell? ⟨t,3,none⟩=some (.slice (some ⟨gk,0,none⟩) N ck)) (first | go_keep | (go_split_ands;refine⟨?_,?_⟩ <;> go_keep))
  (first | (go_at_call 9;refine(ae ic).mono ?_;rintro e w1 ⟨a',c',rfl,r0,r1,lK⟩) | (go_at_call 141;refine(ae lK).mono ?_;rintro e w2 ⟨v,rfl,s0,s1,HX2⟩))
 clear r0 r1 s0 s1 ic lK c2 c3;go_wp2;go_ret;exact⟨v,rfl,(ae HX2).1,(ae HX2).2⟩
theorem jh.done(h:jh w0 w t p q S D s m x g c L gk ck K cut){w1 w2:World}{gn cn:Nat}{S':Nat->Prop}{D':DS}{s':Int}{cur:Array Value}(ay:Below w.heap.size w w1)(hn:w.heap.size<=gn)(hr:Row w1 w.heap.size gn cn cur L)
  (hl:Live w0 w2 p S' D') (hp:dU w2 q p s') (ho:¬ S' q) (ht:aE (plus S q) (plus S' q) w1 w2) (hc:D'.secs.length=D.secs.length) :
  jh w0 (w2.setCell ⟨t,3,none⟩ (.slice (some ⟨gn,0,none⟩) L.length cn)) t p q S' D' s' m x g c L gn cn L cut/\aE (mv S q t gk x g) (mv S' q t gn x g) w (w2.setCell ⟨t,3,none⟩ (.slice (some ⟨gn,0,none⟩) L.length cn)):=by
 have h1:=h.below ay;have h2:=h1.iy hl hp ho ht hc;have aM:=hr.lt;have hnf:∀ k,mv S q t gk x g k->k≠gn:=fun k hk e=>by have:=h.Gm k hk;omega
 have hnp:¬ plus S q gn:=fun hk=>hnf gn (.inl hk) rfl
 have vB:Row w2 w0.heap.size gn cn cur L:=(hr.low h.size).same (ht.block gn aM hnp);have zk5:¬ plus S' q gn:=fun hk=>hnp (ht.bA gn aM hk)
 refine⟨h2.keep vB h.hp.kV h.hp.aV h.len zk5 (fun e=>hnf t (.inr (.inl rfl)) e.symm) (fun hf=>hnf gn (.inr (.inr (.inr hf))) rfl),?_⟩;have gP:=ay.size;have gM:=ht.size;refine⟨?_,?_,?_,by simp;omega,fun k hk hn2=>?_,fun k hk hf=>?_⟩
 ·show w2.os=w.os
  rw [ht.os,ay.os]
 ·show w2.tape=w.tape
  rw [ht.tape,ay.tape]
 ·show w2.output=w.output
  rw [ht.output,ay.output]
 ·rw [heap_setCell_other _ _ _ _ (show k≠t from fun e=>hn2 (.inr (.inl e))),ht.block k (by omega) (fun hf=>hn2 (.inl hf)),ay.block k hk]
 ·rcases hf with hf | hf | hf | hf
  ·exact .inl (ht.bA k (by omega) hf)
  ·exact .inr (.inl hf)
  ·omega
  ·exact .inr (.inr (.inr hf))
theorem Fc(h:jh w0 w t p q S D s m x g c L gk ck K false)(h0:0<=s)(h1:s<4294967295)(hX:(aG D s m (kd K L m)).2.2=0) :
  Calls Tryz.prog 25 #[.pointer (some ⟨t,0,none⟩)] w fun e w'=>e=.returned .nilIface/\∃ S' gn cn,jh w0 w' t p q S' (aG D s m (kd K L m)).1 (aG D s m (kd K L m)).2.1 m x g c L gn cn L false/\aE (mv S q t gk x g) (mv S' q t gn x g) w w':=by
 have hm:=h.zed;have hlL:=h.len;have hlK:=h.Ar;have c2:=h.c2;have ik:=cZ x g c w0.heap.size L w h.hp;rw [hlL] at ik;have ic:=af ik;have H:=af h;have hXl:=oC D s m (kd K L m);have T5:=af hXl;have HCM:Hid (∀ (W:World) (gn cn:Nat),Below w.heap.size w W->w.heap.size<=gn->Bs W (some ⟨gn,0,none⟩) cn L->Calls Tryz.prog 78 #[.pointer (some ⟨q,0,none⟩),.slice (some ⟨gk,0,none⟩) (32 * m) ck,.slice (some ⟨gn,0,none⟩) (32 * m) cn] W fun e w'=>e=.returned .nilIface/\∃ S',Live w0 w' p S' (aG D s m (kd K L m)).1/\dU w' q p (aG D s m (kd K L m)).2.1/\¬ S' q/\aE (plus S q) (plus S' q) W w'):=af (fun W gn cn hb hg aX=>by have hw:=h.below hb;have:=Fe hw.vE.live hw.vE.pg hw.vE.out hw.vE.base h.GV hm.2.1 h0 h1 hw.kbs rfl hlK aX hlL (fun hs=>by have:=h.vE.BJ gn (.inl hs);omega);rw [hX,aA] at this;exact this);clear h ik hX hXl;generalize aG D s m (kd K L m)=X at *;have HLL:=af hlL;obtain⟨N,hN⟩:∃ N,32 * m=N:=⟨_,rfl⟩;rw [hN] at ic HCM HLL hlK;have Ua:=af hlK;clear hlL hlK hN;go_enter Tryz.func25,Tryz.ntmps25
 go_wp2_with fail
 refine(ae ic).mono ?_;rintro e w1 ⟨a1,kc,rfl,ho,ay⟩;obtain⟨gn,cur,rfl,bn⟩:∃ gn cur,a1=some ⟨gn,0,none⟩/\Row w1 w.heap.size gn kc cur L:=by rw [<- ae HLL] at ho;obtain⟨gn,cur,e1,hr,_⟩:=ho.row (by intro e;have:=(ae H).hp.aV.len;rw [e] at this;simp at this);exact⟨gn,cur,e1,hr⟩
 have GB:=af bn;have aL:=af ay;have zhL:=(ae H).below ay;have HD:=af (Hz zhL);clear ho bn ay zhL ic c2;go_wp2_with fail
 refine(ae HD).mono ?_;rintro e w2 ⟨v,rfl,vB,aK⟩;obtain⟨an,cn2,rfl,_,_⟩:=Dk vB;have Co:=zTs aL aK;have F3:=(ae H).below Co;have c0:=F3.c0;have c4:=F3.c4;have c1:=F3.c1;have c3:=F3.c3;rw [ae Ua] at c3;have HDN:=af F3.vE.live.down;have wH:(ff K L m).length<=200:=by
  have:(ff K L m).length<=m:=by unfold ff;exact Nat.le_trans (List.length_filter_le _ _) (by simp)
  omega
 have hgn:=(ae GB).1;have zbO:Below w.heap.size w w2.drew:=bq Co;have jR:=(ae GB).below (bq aK);have fD:Bs w2.drew (some ⟨gn,0,none⟩) kc L:=jR.bs (ae H).hp.kV (by have:=(ae H).hp.aV.len;omega);have mC:Hid (Calls Tryz.prog 78 #[.pointer (some ⟨q,0,none⟩),.slice (some ⟨gk,0,none⟩) N ck,.slice (some ⟨gn,0,none⟩) N kc] w2.drew fun e w'=>e=.returned .nilIface/\w'.cell? ⟨t,1,none⟩=some (.pointer (some ⟨q,0,none⟩))/\w'.cell? ⟨t,3,none⟩=some (.slice (some ⟨gk,0,none⟩) N ck)/\w'.frozen? ⟨t,3,none⟩=false /\
   Hid (∃ S',jh w0 (w'.setCell ⟨t,3,none⟩ (.slice (some ⟨gn,0,none⟩) N kc)) t p q S' X.1 X.2.1 m x g c L gn kc L false/\aE (mv S q t gk x g) (mv S' q t gn x g) w (w'.setCell ⟨t,3,none⟩ (.slice (some ⟨gn,0,none⟩) N kc)))):=af (by
  refine(ae HCM w2.drew gn kc zbO hgn fD).mono ?_;rintro e w4 ⟨rfl,S',hl,hp,ho,ht⟩;have zeq:=((ae H).below zbO).iy hl hp ho ht (ae T5);have d3:=zeq.c3;rw [ae Ua] at d3;have zcZ:=(ae H).done zbO hgn jR hl hp ho ht (ae T5);have hLN:=ae HLL;rw [hLN] at zcZ;exact⟨rfl,zeq.c1,d3,zeq.fr 3,af ⟨S',zcZ⟩⟩)
 clear F3 zbO jR fD Co vB aK HD HCM HLL Ua GB aL T5;generalize (ff K L m).length=n at *;go_wp2_with fail
 refine(ae HDN).mono ?_;rintro e w3 ⟨rfl,nE⟩;subst nE;clear HDN c0;go_wp2_with fail
 go_region_held3 (fun w'=>w'.cell? ⟨t,1,none⟩=some (.pointer (some ⟨q,0,none⟩))/\w'.cell? ⟨t,3,none⟩=some (.slice (some ⟨gk,0,none⟩) N ck)) (first | go_keep | (go_split_ands;refine⟨?_,?_⟩ <;> go_keep))
  ((go_at_call 78;refine(ae mC).mono ?_;rintro e w4 ⟨rfl,r0,r1,r2,HX⟩))
 clear mC c1 c3 c4;go_wp2;go_ret;obtain⟨S',hs,ht⟩:=ae HX;exact⟨rfl,S',gn,kc,hs,ht⟩
end
end
def Kp(T:Nat->Prop)(w w':World):Prop:=∀ k,T k->w'.heap[k]?=w.heap[k]?
def Tl(w0 w:World)(t p x:Nat)(s:Int)(m n:Nat)(L K:List Int)(T:Nat->Prop):Prop :=∃ q S D g c gk ck a nl,jh w0 w t p q S D s m x g c L gk ck K false/\fW D m s (prt K) a nl/\D.left<0/\D.secs.length=n/\∀ k,T k->k<w.heap.size/\¬ mv S q t gk x g k
section
variable {w0 w w':World} {t p x:Nat} {s:Int} {m n:Nat} {L K:List Int} {T T':Nat->Prop}
theorem Tl.base(h:Tl w0 w t p x s m n L K T):Below w0.heap.size w0 w:=by obtain⟨q,S,D,g,c,gk,ck,a,nl,hs,_⟩:=h;exact hs.base
theorem Tl.below(h:Tl w0 w t p x s m n L K T)(hb:Below w.heap.size w w'):Tl w0 w' t p x s m n L K T:=by obtain⟨q,S,D,g,c,gk,ck,a,nl,hs,hn,hl,hd,hT⟩:=h;exact⟨q,S,D,g,c,gk,ck,a,nl,hs.below hb,hn,hl,hd,fun k hk=>⟨Nat.lt_of_lt_of_le (hT k hk).1 hb.size,(hT k hk).2⟩⟩
theorem Tl.kpB(h:Tl w0 w t p x s m n L K T)(hb:Below w.heap.size w w'):Kp T w w':=by obtain⟨q,S,D,g,c,gk,ck,a,nl,hs,hn,hl,hd,hT⟩:=h;exact fun k hk=>hb.block k (hT k hk).1
theorem Tl.heap(h:Tl w0 w t p x s m n L K T):Calls Tryz.prog 22 #[.pointer (some ⟨t,0,none⟩)] w fun e w'=>e=.returned (.pointer (some ⟨x,0,none⟩))/\w=w':=by obtain⟨q,S,D,g,c,gk,ck,a,nl,hs,_⟩:=h;exact LD hs
theorem Tl.call(h:Tl w0 w t p x s m n L K T){f:Nat}{ar:Array Value}{V:Value}{M:List Int}(hM:M.length=L.length)
  (hc:∀ (g c:Nat),Hp w w0.heap.size x g c L->w0.heap.size<=w.heap.size->Calls Tryz.prog f ar w fun e w'=>e=.returned V/\∃ g' c',Hp w' w0.heap.size x g' c' M/\aE (bA x g) (bA x g') w w') :
  Calls Tryz.prog f ar w fun e w'=>e=.returned V/\Tl w0 w' t p x s m n M K T/\Kp T w w':=by
 obtain⟨q,S,D,g,c,gk,ck,a,nl,hs,hn,hl,hd,hT⟩:=h;refine(hc g c hs.hp hs.size).mono ?_;rintro e w' ⟨rfl,g',c',hh,ht⟩;have hta:=Ls ht S q t gk;exact⟨rfl,⟨q,S,D,g',c',gk,ck,a,nl,hs.heap hh ht hM,hn,hl,hd,fun k hk=>⟨Nat.lt_of_lt_of_le (hT k hk).1 ht.size,fun hf=>(hT k hk).2 (hta.bA k (hT k hk).1 hf)⟩⟩,fun k hk=>hta.block k (hT k hk).1 (hT k hk).2⟩
theorem Tl.ask(h:Tl w0 w t p x s m n L K T){f:Nat}{ar:Array Value}{Q:Ending->World->Prop}
  (hc:∀ (g c:Nat),Hp w w0.heap.size x g c L->Calls Tryz.prog f ar w fun e w'=>Q e w'/\Below w.heap.size w w') :
  Calls Tryz.prog f ar w fun e w'=>Q e w'/\Tl w0 w' t p x s m n L K T/\Kp T w w':=by
 have h':=h;obtain⟨q,S,D,g,c,gk,ck,a,nl,hs,_⟩:=h;refine(hc g c hs.hp).mono ?_;rintro e w' ⟨hq,hb⟩;exact⟨hq,h'.below hb,h'.kpB hb⟩
theorem Tl.NU(h:Tl w0 w t p x s m n L K T)(SA:s<=999)(zbH:(ff K L m).length<=23) :
  Calls Tryz.prog 25 #[.pointer (some ⟨t,0,none⟩)] w fun e w'=>e=.returned .nilIface/\∃ s',s<=s'/\s'<=s+1/\Tl w0 w' t p x s' m n L L T/\Kp T w w':=by
 obtain⟨q,S,D,g,c,gk,ck,a,nl,hs,hn,hl,hd,hT⟩:=h;have h1:=hn.s1;have key:∃ s' a' nl',(aG D s m (kd K L m)).2.2=0/\(aG D s m (kd K L m)).2.1=s'/\s<=s'/\s'<=s+1/\fW (aG D s m (kd K L m)).1 m s' (prt L) a' nl'/\(aG D s m (kd K L m)).1.left<0:=by
  rcases Q2 hn SA hl hs.Ar hs.len hs.hp.kV with ⟨k1,_⟩ | ⟨k1,k2⟩ | ⟨_,_,k3,k4,k5⟩
  ·omega
  ·subst k1;rw [k2];exact⟨s,a,nl,rfl,rfl,Int.le_refl _,by omega,hn,hl⟩
  ·exact⟨s+1,_,_,by rw [k3],by rw [k3],by omega,by omega,k4,k5⟩
 obtain⟨s',a',nl',k1,k2,k3,k4,k5,k6⟩:=key;have tE:=oC D s m (kd K L m);refine(Fc hs (by omega) (by omega) k1).mono ?_;rintro e w' ⟨rfl,S',gn,cn,SC,ht⟩;rw [k2] at SC;exact⟨rfl,s',k3,k4,⟨q,S',_,g,c,gn,cn,a',nl',SC,k5,k6,tE.trans hd,fun k hk=>⟨Nat.lt_of_lt_of_le (hT k hk).1 ht.size,fun hf=>(hT k hk).2 (ht.bA k (hT k hk).1 hf)⟩⟩,fun k hk=>ht.block k (hT k hk).1 (hT k hk).2⟩
theorem Mq{D:DS}{P:Nat->List Int}{a:Nat}{nl:List Int}(h:fW D m s P a nl)(keep:List Bool)(bK:Int)(c:Nat):fW (D.dY keep bK c) m s P a nl :=h.fK (h.ok.dY keep bK c) rfl rfl (by show(eI _ _ _ _ _ _).length=_;rw [gH]) (fun k=>congrFun (kZ h.mem keep bK c) k)
theorem Tl.dY(h:Tl w0 w t p x s m n L K T):Calls Tryz.prog 26 #[.pointer (some ⟨p,0,none⟩),.slice none 0 0,.int .i64 (-1),.int .i64 0] w fun e w'=>e=.returned (.int .i64 0)/\Tl w0 w' t p x s m n L K T/\Kp T w w':=by
 obtain⟨q,S,D,g,c,gk,ck,a,nl,hs,hn,hl,hd,hT⟩:=h;have hcr:=hs.vE.live.dY (-1) 0 (a:=none) (cap:=0) (keep:=[]) ⟨⟨zNr,by decide,fun e=>absurd rfl e⟩,fun e=>absurd rfl e⟩;rw [hn.mem] at hcr;refine hcr.mono ?_;rintro e w' ⟨rfl,S',SK,ht⟩;have hlen:(D.dY [] (-1) (vf 0)).secs.length=D.secs.length:=by show(eI _ _ _ _ _ _).length=_;rw [gH]
 have JG:=hs.vE.pg.dZ ht hs.vE.out;have SC:=hs.iy SK JG.1 JG.2 (ht.plus q) hlen;have hta:aE (mv S q t gk x g) (mv S' q t gk x g) w w':=⟨ht.os,ht.tape,ht.output,ht.size,fun k hk hf=>ht.block k hk (fun hs=>hf (.inl (.inl hs))),fun k hk hf=>by
  rcases hf with (hf | hf) | hf
  ·exact .inl (.inl (ht.bA k hk hf))
  ·exact .inl (.inr hf)
  ·exact .inr hf⟩
 exact⟨rfl,⟨q,S',_,g,c,gk,ck,a,nl,SC,Mq hn _ _ _,by show(-1:Int)<0;decide,hlen.trans hd,fun k hk=>⟨Nat.lt_of_lt_of_le (hT k hk).1 ht.size,fun hf=>(hT k hk).2 (hta.bA k (hT k hk).1 hf)⟩⟩,fun k hk=>hta.block k (hT k hk).1 (hT k hk).2⟩
theorem Tl.open(h:Tl w0 w t p x s m n L K T):Calls Tryz.prog 27 #[.pointer (some ⟨p,0,none⟩)] w fun e w'=>∃ t' x',e=.returned (.tuple #[.pointer (some ⟨t',0,none⟩),.nilIface])/\Tl w0 w' t' p x' s m n K K T/\Kp T w w':=by
 obtain⟨q,S,D,g,c,gk,ck,a,nl,hs,hn,hl,hd,hT⟩:=h;have hm:=hs.zed;refine(E8 hs.vE.live hs.GV (by omega) hm.2.1 hn.ready hs.Ar hs.kb hs.kf hl).mono ?_;rintro e w' ⟨t',x',rfl,q',S',D',g',c',gk',SC,ho,_,hl',ht,da⟩;refine⟨t',x',rfl,⟨q',S',D',g',c',gk',_,a,nl,SC,hn.opened ho,hl',ho.len.trans hd,fun k hk=>⟨Nat.lt_of_lt_of_le (hT k hk).1 ht.size,fun hf=>?_⟩⟩,fun k hk=>ht.block k (hT k hk).1 (fun hf=>(hT k hk).2 (.inl (.inl hf)))⟩;have aM:=(hT k hk).1;rcases hf with (hf | hf) | hf
 ·exact(hT k hk).2 (.inl (.inl (ht.bA k aM hf)))
 ·have:=da k (.inr hf);omega
 ·have:=da k (.inl hf);omega
theorem QT{S:Nat->Prop}(h:Live w0 w p S (DS.new n))(h1:57<=n)(h2:n<=300)(hm:e9 n=m) :
  Calls Tryz.prog 21 #[.pointer (some ⟨p,0,none⟩)] w fun e w'=>∃ t x,e=.returned (.tuple #[.pointer (some ⟨t,0,none⟩),.nilIface])/\Tl w0 w' t p x 2 m n (ag (32 * m)) (ag (32 * m)) (fun _=>False) :=
 (E9 h h1 h2 hm).mono fun e w' ⟨t,x,he,q,S',g,c,gk,hs⟩=>by
  have iP:m<=200/\48+m<=n:=by unfold e9 at hm;split at hm <;> omega
  obtain⟨_,z2,z4,z3⟩:=Kf (m:=m) h1 h2 iP.2 iP.1;exact⟨t,x,he,q,S',_,g,c,gk,_,_,_,hs,z2,z4,z3,fun k hk=>hk.elim⟩
theorem Tl.alloc(h:Tl w0 w t p x s m n L K T){a b H:Int}(h0:sK L a b=0)(hH:Oj L a b=H)(hl:(kR L a b).length=L.length) :
  Calls Tryz.prog 23 #[.pointer (some ⟨x,0,none⟩),.int .i64 a,.int .i64 b] w fun e w'=>e=.returned (.tuple #[.int .i64 H,.nilIface])/\Tl w0 w' t p x s m n (kR L a b) K T/\Kp T w w' :=
 h.call hl (fun g c hh hB=>by have:=AU x g c w0.heap.size L a b w hh hB;rw [h0,hH,aA] at this;exact this)
theorem Tl.write(h:Tl w0 w t p x s m n L K T){H:Int}{a:Option Addr}{cap:Nat}{l:List Int}(hb:Bs w a cap l)(h0:vz L H 0 l.length=0)(hl:(tB L H 0 l).length=L.length) :
  Calls Tryz.prog 24 #[.pointer (some ⟨x,0,none⟩),.int .i64 H,.int .i64 0,.slice a l.length cap] w fun e w'=>e=.returned .nilIface/\Tl w0 w' t p x s m n (tB L H 0 l) K T/\Kp T w w' :=
 h.call hl (fun g c hh hB=>by have:=AQ x g c w0.heap.size L H 0 a cap l w hh hb (by decide);rw [h0,aA] at this;exact this.mono fun e w' ⟨he,h1,h2⟩=>⟨he,g,c,h1,h2⟩)
theorem Tl.read(h:Tl w0 w t p x s m n L K T){H:Int}{b:Int}{l:List Int}(hb:b<=9223372036854775807)(h0:vz L H 0 b=0)(hl:L7 L H 0 b=l)(aO:l≠[]) :
  Calls Tryz.prog 28 #[.pointer (some ⟨x,0,none⟩),.int .i64 H,.int .i64 0,.int .i64 b] w fun e w'=>(∃ g c,e=.returned (.tuple #[.slice (some ⟨g,0,none⟩) l.length c,.nilIface])/\l.length<=c/\∀ i,i<l.length->w'.cell? ⟨g,i,none⟩=some (.int .u8 (l.getD i 0)))/\Tl w0 w' t p x s m n L K T/\Kp T w w' :=
 h.ask (fun g c hh=>by
  have:=Te x g c w0.heap.size L H 0 b w hh (by decide) hb;rw [h0,aA,hl] at this;refine this.mono ?_;rintro e w' ⟨a',c',rfl,ho,GU⟩;refine⟨?_,GU⟩;rcases ho.2 with ⟨_,e0⟩ | ⟨g2,cap,cur,e2,hB,hc,h3,h4,h5,h6⟩
  ·exact absurd (List.eq_nil_of_length_eq_zero e0) aO
  ·simp only [Value.slice.injEq,true_and] at e2;obtain⟨rfl,rfl⟩:=e2;refine⟨g2,c',rfl,h3,fun i hi=>?_⟩;rw [cell_of_row _ _ _ _ _ _ hc];have q:(l.map (Value.int .u8))[i]?=some (.int .u8 (l.getD i 0)):=by rw [List.getElem?_map,zLg hi,List.getD_eq_getElem?_getD,zLg hi];rfl
   rw [<- h6,List.getElem?_take,if_pos (by omega)] at q;simpa using q)
end
structure On3 (A W V:List Int):Prop where
 a:kR (ag 384) 2 3=A
 w:tB A 1 0 [8,9]=W
 v:tB W 1 0 [1,1]=V
 e1:sK (ag 384) 2 3=0
 h1:Oj (ag 384) 2 3=1
 l1:A.length=384
 l2:W.length=384
 l3:V.length=384
 p1:vz A 1 0 2=0
 p2:vz W 1 0 2=0
 r:L7 W 1 0 2=[8,9]
theorem on3:∃ A W V,On3 A W V:=by obtain⟨e1,h1,f1,l1,c1,o1,s1,_⟩:=Nv (N:=384) (n:=2) (t:=3) (by decide) (by decide) (by decide) (by decide) (by decide) (by decide);have e1':sK (ag 384) 2 3=0:=e1;have vD:Oj (ag 384) 2 3=1:=h1;have l1':(kR (ag 384) 2 3).length=384:=l1;have f1':aB (kR (ag 384) 2 3):=f1;have c1':aP (kR (ag 384) 2 3) 1=0:=c1;have s1':(ai (kR (ag 384) 2 3) 1).2.2.1=2:=s1;generalize hA:kR (ag 384) 2 3=A at *;obtain⟨p1,f2,l2,o2,c2,n2,r2,_⟩:=yr (L:=A) f1' (h:=1) c1' (r:=[8,9]) (by rw [s1'];rfl);have p1':vz A 1 0 2=0:=p1;have r2':L7 (tB A 1 0 [8,9]) 1 0 2=[8,9]:=r2;obtain⟨p3,f3,l3,_⟩:=yr (L:=tB A 1 0 [8,9]) f2 (h:=1) c2 (r:=[1,1]) (by rw [n2,s1'];rfl);have p3':vz (tB A 1 0 [8,9]) 1 0 2=0:=p3;exact⟨A,_,_,hA,rfl,rfl,e1',vD,l1',l2.trans l1',l3.trans (l2.trans l1'),p1',p3',r2'⟩
theorem Y1(w:World)(a b:Int)(ha:0<=a/\a<=255)(hb:0<=b/\b<=255):Bs (w.alloc (.cells #[.int .u8 a,.int .u8 b] 5)) (some ⟨w.heap.size,0,none⟩) 2 [a,b] :=
 (show fH (w.alloc (.cells #[.int .u8 a,.int .u8 b] 5)) w.heap.size [a,b] from heap_alloc_new w _).bs (fun y hy=>by
  rcases zMc hy with rfl | hy
  ·exact ha
  ·rw [zMs hy];exact hb) (by simp)
theorem zfg(K L:List Int)(m:Nat):(ff K L m).length<=m:=by unfold ff;exact Nat.le_trans (List.length_filter_le _ _) (by simp)
theorem za0(w:World):Calls Tryz.prog 4 #[] w fun e w'=>e=.returned (.bool true)/\Below w.heap.size w w':=by
 obtain⟨A,W,V,o⟩:=on3;have HN:=af (V9 60 w w zBr (by decide) (by decide));have O:=af o;clear o;go_enter Tryz.func4,Tryz.ntmps4
 go_wp2_with fail
 refine(ae HN).mono ?_;rintro e w1 ⟨p,S,rfl,hl,_,_⟩;have HC:=af (QT (m:=12) hl (by decide) (by decide) rfl);clear hl HN;go_wp2_with fail
 refine(ae HC).mono ?_;rintro e w2 ⟨t,x,rfl,mm⟩;have HH:=af mm.heap;have Ur:=mm.alloc (ae O).e1 (ae O).h1 (by rw [(ae O).a,(ae O).l1,aj]);rw [(ae O).a] at Ur;have HAL:=af Ur;clear mm Ur HC;go_wp2_with fail
 refine(ae HH).mono ?_;rintro e w3 ⟨rfl,rfl⟩;go_wp2_with fail
 refine(ae HAL).mono ?_;rintro e w3 ⟨rfl,mm,_⟩;have HH3:=af mm.heap;have nk:Below w3.heap.size w3 (w3.alloc (.cells #[.int .u8 8,.int .u8 9] 5)):=zBr.alloc zNr _;have qM:=(mm.below nk).write (Y1 w3 8 9 (by decide) (by decide)) (ae O).p1 (by rw [(ae O).w,(ae O).l2,(ae O).l1]);rw [(ae O).w] at qM;have HW3:=af qM;clear mm nk qM HH HAL;go_wp2_with fail
 refine(ae HH3).mono ?_;rintro e w4 ⟨rfl,rfl⟩;go_wp2_with fail
 refine(ae HW3).mono ?_;rintro e w4 ⟨rfl,mm,_⟩;have HCM:=af (mm.NU (by decide) (Nat.le_trans (zfg _ _ _) (by decide)));clear mm HH3 HW3;go_wp2_with fail
 refine(ae HCM).mono ?_;rintro e w5 ⟨rfl,s',_,_,mm,_⟩;have HH5:=af mm.heap;have nk:Below w5.heap.size w5 (w5.alloc (.cells #[.int .u8 1,.int .u8 1] 5)):=zBr.alloc zNr _;have qM:=(mm.below nk).write (Y1 w5 1 1 (by decide) (by decide)) (ae O).p2 (by rw [(ae O).v,(ae O).l3,(ae O).l2]);rw [(ae O).v] at qM;have HW5:=af qM;clear mm nk qM HCM;go_wp2_with fail
 refine(ae HH5).mono ?_;rintro e w6 ⟨rfl,rfl⟩;go_wp2_with fail
 refine(ae HW5).mono ?_;rintro e w6 ⟨rfl,mm,_⟩;have UA:=af mm.dY;clear mm HH5 HW5;go_wp2_with fail
 refine(ae UA).mono ?_;rintro e w7 ⟨rfl,mm,_⟩;have HOP:=af mm.open;clear mm UA;go_wp2_with fail
 refine(ae HOP).mono ?_;rintro e w8 ⟨t8,x8,rfl,mm,_⟩;have HH8:=af mm.heap;have HR8:=af (mm.read (H:=1) (b:=2) (by decide) (ae O).p2 (ae O).r (by simp));clear mm HOP;go_wp2_with fail
 refine(ae HH8).mono ?_;rintro e w9 ⟨rfl,rfl⟩;go_wp2_with fail
 refine(ae HR8).mono ?_;rintro e w9 ⟨⟨g9,k9,rfl,hk9,bk⟩,mm,_⟩;have d0:w9.cell? ⟨g9,0,none⟩=some (.int .u8 8):=bk 0 (by decide);have d1:w9.cell? ⟨g9,1,none⟩=some (.int .u8 9):=bk 1 (by decide);have HB:=af mm.base;clear mm bk HH8 HR8;go_wp2;go_ret;exact⟨rfl,ae HB⟩
end Go.Proofs.YtcimhnnendlblaaGreat
