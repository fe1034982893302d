import Derived.Test.YtoiebmeajhpgcaaGreatDoorJPg
import Derived.Laws.ResultCell
set_option maxRecDepth 100000
set_option maxHeartbeats 16000000
set_option linter.all false
namespace Go.Proofs.YtoiebmeajhpgcaaGreatDoor
variable {l b:LI}{j L cap g base e n m i:Nat}{w w':World}{a:OA}{x y:Int}{v:Value}{xs:List Value}{f:Nat->Option Value}{mk:Option (Int×LI)}
open Tryz
open Go.RowKit
def zlF(w:World)(base:Nat)(v:Value)(l:LI):Prop:=w.ownsRow base 3 1 v l.length (l.map (Value.int .i64))
def MkV(w:World)(base:Nat)(m:Option (Int×LI))(v:Value):Prop :=
 match m with
 | some (s,l)=>∃nv,v=.agg #[zi s,nv]/\zlF w base nv l
 | none=>v=.agg #[zi 0,.slice none 0 0]
def YE(l:LI)(j:Nat):List Value:=(l.take j).map (Value.int .i64)
theorem YD(h:j<l.length):YE l (j+1)=YE l j++[zi (l.getD j 0)]:=by have e:l.getD j 0=l[j]:=XZ;unfold YE;rw[qAx h,qAc,e];rfl
theorem zcs l:YE l l.length=l.map (Value.int .i64):=by unfold YE;rw[qAP zNr]
theorem zcO{L:Nat}{b:LI}(h:(bL b).2.2≠0):mark L b=none:=by unfold mark;rw[zn];rintro ⟨h1,_⟩;exact h h1
theorem YU{L:Nat}{b:LI}(h:¬(bL b).2.1.getD 0 0<=23):mark L b=none:=by unfold mark;rw[zn];rintro ⟨_,h1,_⟩;exact h h1
theorem YT{L:Nat}{b:LI}(h:0<=badAt L (fp (bL b).2.1) 0):mark L b=none:=by unfold mark;rw[zn];rintro ⟨_,_,h1⟩;obtain⟨z,hz,cV⟩:=(B3 (qBA 0)).1 h;have:=h1 z hz;omega
theorem TA{L:Nat}{b:LI}(h0:(bL b).2.2=0)(h1:(bL b).2.1.getD 0 0<=23)(h2:¬0<=badAt L (fp (bL b).2.1) 0):mark L b=some ((bL b).1,fp (bL b).2.1):=by
 unfold mark;rw[zy];refine⟨h0,h1,fun z hz=>?_⟩;rcases Int.lt_or_le z L with h | h
 ·exact h
 ·exact absurd ((B3 (qBA 0)).2 ⟨z,hz,h⟩) h2
theorem On{b:LI}(h:(bL b).2.2=0):(bL b).2.1.length=24:=by exact Bl
theorem XH{P}{t:TypeId}(hu:P.underlying t=some (.slice 5))(bW:(P.info? 5).map (·.size)=some 1)(hb:Bs w a cap l) i(hi:i<=l.length) :
  ∃a',(∀w',(Instr.slice t (.slice a l.length cap) none (some (.int .u8 i)) none).run P w'=.ok (.slice a' i cap) w')/\Bs w a' cap (l.take i):=by
 have he:=kG hu;have ma:=hb.2.1;refine⟨a,fun w'=>?_,hb.take i⟩;rw[run_slice_h (P:=P) (w:=w') t a l.length cap UW .u8 i Sg Sg,he,eR w' bW];simp only[Result.andThen,sliced];by_cases h0:cap=0
 ·simp[h0]
 ·rw[zn h0];cases a with
  | none=>exact absurd (hb.2.2.2.1 rfl) h0
  | some x=>simp[Addr.add]
theorem Bs.cell0(hb:Bs w a cap l) i(hi:i<l.length):∃b off,a=some ⟨b,off,none⟩/\w.cell? ⟨b,off+i,none⟩=some (.int .u8 (l.getD i 0)):=zpN
theorem XJ:(prog.info? 205).map (·.size)=some 2:=SQ
theorem oT{fn}{p u}(h:fn.results=#[.cell p 205,.tmp u]) tmps w g cs(hp:tmps.getD p undef=zq g)(hg:w.heap[g]?=some (.cells cs 205 (0,0)))(lC:cs.size=2) :
  (results fn tmps).run prog w=.ok (.tuple #[.agg cs,tmps.getD u undef]) w:=by
 rw[results_cell_tmp h,hp];have:=run_loadVar_row (P:=prog) w g 205 205 cs (0,0) _ hg underlying205 rfl (by rw[XJ,lC]);exact zl5
theorem zR{W:World}{x y}(h:W.heap[g]?=some (.cells #[x,y] 205 (0,0))) a b:((W.setCell (zp g) a).setCell (zw g 1) b).heap[g]?=some (.cells #[a,b] 205 (0,0)):=by rw[qAI _ _ _ _ _ _ (qAI _ _ _ _ _ _ h)];rfl
theorem Bt{w:World}{base e size:Nat}{v:Value}{n:Nat}{xs:List Value}(h:w.ownsRow base e size v n xs):∃a m c,v=.slice a m c:=by
 exact NP
theorem Oh{w:World}{base base' e size:Nat}{v:Value}{n:Nat}{xs:List Value}(h:w.ownsRow base e size v n xs)(hb:base'<=base):w.ownsRow base' e size v n xs:=by
 refine⟨h.1,?_⟩;rcases h.2 with h0|⟨g,cap,cur,h1,h2,h3⟩
 ·exact .inl h0
 ·exact .inr ⟨g,cap,cur,h1,qAF hb h2,h3⟩
theorem vA{w:World}{base e size:Nat}{v:Value}{n:Nat}{xs:List Value}(h:w.ownsRow base e size v n xs){a:Addr}(hn:v.ownBlock≠some a.block)(x:Value):(w.setCell a x).ownsRow base e size v n xs :=bJ h (fun g hg=>qAV _ _ _ _ (fun e=>hn VV))
theorem KQ{w:World}{base e size:Nat}{v:Value}{n:Nat}{xs:List Value}(h:w.ownsRow base e size v n xs){g t:Nat}{cs:Array Value}(hg:w.heap[g]?=some (.cells cs t (0,0)))(ht:e≠t):v.ownBlock≠some g:=by intro e2;obtain⟨cur,h1⟩:=br h e2;rw[hg]at h1;simp at h1;exact ht h1.2.symm
section
variable {w:World}
theorem KS(L:Nat)(a:OA)(cap:Nat)(l:LI)(hb:Bs w a cap l)(hL:L<=200) :
  zC 293 #[.slice a l.length cap,zi L] w fun e w'=>∃v,e=.returned (.tuple #[v,.bool (mark L l).isSome])/\MkV w' w.heap.size (mark L l) v/\zB w w':=by
 have hl:=hb.2.2.1;obtain⟨w1,fM⟩:∃w1,w1=(w.alloc (.cells #[zi (L:Int)] 3)).alloc (.cells #[zi 0,.slice none 0 0] 205):=⟨_,rfl⟩;have ay:zB w w1:=by rw[fM];exact(zBr.alloc zNr _).alloc Sk _
 have fQ:w1.heap.size=w.heap.size+2:=by rw[fM];simp
 have Mu:w1.heap[w.heap.size]?=some (.cells #[zi (L:Int)] 3 (0,0)):=by rw[fM,qAb _ _ Sk];exact qAB _ _
 have BJ:w1.heap[w.heap.size+1]?=some (.cells #[zi 0,.slice none 0 0] 205 (0,0)):=by rw[fM];have:=qAB (w.alloc (.cells #[zi (L:Int)] 3)) (.cells #[zi 0,.slice none 0 0] 205);rw[size_alloc]at this;exact this
 have sW:=zco a cap l w1 (hb.below ay);have Hw:=ae sW;have aQ:=ae ay;have RG:=ae Mu;have ME:=ae BJ;have HL:=ae (@On l);have M1:=ae (@zcO L l);have M2:=ae (@YU L l);have M3:=ae (@YT L l);have M4:=ae (@TA L l);clear sW ay Mu BJ hb;generalize bL l=O at*;generalize mark L l=M at*;obtain⟨i0,dU,cO,cU,cV⟩:=qAO vJ;go_enter func293,ntmps293
 go_wp2_with fail
 rw[<-fM];clear fM;refine Hw.mono ?_;rintro e w2 ⟨a2,c2,rfl,aK,oJ⟩;obtain⟨n,B,E⟩:=O;dsimp only at*;have aJ:=zTr aQ oJ;have um:=(oJ.block _ Sg).trans RG;have kz:=(oJ.block _ Sg).trans ME;have gN:=oJ.size;have r0:w2.cell? ⟨w.heap.size+1,0,none⟩=some (zi 0):=by rw[qAD _ _ _ _ _ _ kz];rfl
 have r1:w2.cell? ⟨w.heap.size+1,1,none⟩=some (.slice none 0 0):=by rw[qAD _ _ _ _ _ _ kz];rfl
 have f0:=qAd _ _ 0 _ _ kz;have f1:=qAd _ _ 1 _ _ kz;have MF:=ae um;have AN:=ae kz;have bz:=ae aK;clear oJ um kz aK Hw aQ RG ME;by_cases hE:E=0
 ·subst hE;rw[aC];have hB:=HL rfl;obtain⟨b,off,rfl,vP⟩:=bz.cell0 0 Sg;rw[qAq]at vP;obtain⟨z0,z1⟩:=bz.1.getD 0;by_cases hz:B.getD 0 0<=23
  ·obtain⟨a3,Ji,bD⟩:=iy (P:=prog) (t:=29) underlying29 aT bz 1 Sg;obtain⟨k,hk⟩:∃k:Nat,B.getD 0 0=k:=⟨(B.getD 0 0).toNat,Sg⟩;have l7:(B.drop 1).length=23:=by simp;omega
   obtain⟨a4,hhi,eU⟩:=XH (P:=prog) (t:=29) underlying29 aT bD k Sg;have l6:fp B=(B.drop 1).take k:=by unfold fp;rw[hk,zTn]
   have xU:((B.drop 1).take k).length=k:=Tb
   rw[<-l6]at eU xU;rw[l7]at hhi;rw[hB]at Ji ⊢;rw[hk]at vP hz z0 z1;rw[show((1:Nat):Int)=1 from rfl]at Ji;have hgc:w2.cell? ⟨w.heap.size,0,none⟩=some (zi (L:Int)):=by rw[qAD _ _ _ _ _ _ MF];rfl
   have qd:∀n,zC 193 #[.slice a4 k (c2-1),.func (.func 326) #[] #[.pointer (some ⟨w.heap.size,0,none⟩)]] (w2.drewN n) fun e w'=>e=.returned (.bool (decide (0<=badAt L (fp B) 0)))/\w2.drewN n=w':=fun n=>by have:=GS (w:=w2.drewN n) w.heap.size L a4 (c2-1) (fp B) (AI eU n) hgc;rwa[xU]at this
   have HBN:=ae eU;have HNL:=ae xU;have M4':=ae (M4 rfl (by rw[hk];omega));clear bD eU xU l7 l6 hB bz HL M1 M2 M4 hk;have zqk:k<=23:=Sg
   clear hgc;by_cases eQ:0<=badAt (L:Int) (fp B) 0
   ·rw[qAE eQ]at qd;have Vc:=ae qd;have hM:=M3 eQ;subst hM;clear qd M3 M4' eQ;go_wp2_with fail
    go_quiet (fail)
    go_wp2_with fail
    refine(Vc _).mono ?_;rintro e w3 ⟨rfl,rfl⟩;go_wp2;have ai:=aa aJ;refine qBV (oT results293 _ _ (w.heap.size+1) _ rfl (zR (W:=w2.drewN nq) AN _ _) rfl) rfl ?_;exact⟨_,rfl,rfl,((below_drewN ai nq).setCell Y3 _).setCell Y3 _⟩
   ·have hM:=aa M4' Sg;subst hM;rw[qAG eQ]at qd;have Vc:=ae qd;clear qd M3 M4' eQ;obtain⟨cz,Jf⟩:∃cz,fp B=cz:=⟨_,rfl⟩;rw[Jf]at HBN HNL;have x9:=ae Jf;clear Jf;go_wp2_with fail
    go_quiet (fail)
    go_wp2_with fail
    refine(Vc _).mono ?_;rintro e w3 ⟨rfl,qw⟩;have Pr:w3.heap[w.heap.size+1]?=some (.cells #[zi 0,.slice none 0 0] 205 (0,0)):=by rw[<-qw];exact AN
    have bD:Bs w3 a4 (c2-1) cz:=by rw[<-qw];exact HBN
    have PG:zB w w3:=by rw[<-qw];exact below_drewN aJ nq
    have xF:w.heap.size+2<=w3.heap.size:=by rw[<-qw];show _<=w2.heap.size;omega
    have HM3:=ae Pr;have dF:=ae bD;have J0:=ae PG;clear qw Pr bD PG Vc AN HBN aJ MF Ji hhi vP r0 r1 f0 f1;go_wp2_with fail
    have Wj:=qAB w3 (.cells #[zi n,.slice none 0 0] 205);have HGM:=ae Wj;clear Wj;have xU:=aa HNL;go_loopw [42] (fun v wr=>∃ (j:Nat) (nv:Value),j<=k/\v=zi j/\wr.heap[w3.heap.size]?=some (.cells #[zi n,nv] 205 (0,0))/\wr.ownsRow w3.heap.size 3 1 nv j (YE cz j)/\zB w3 wr) (fun v _=>k-(intOf v).toNat)
    case atStart=>exact⟨0,_,qAH _,rfl,HGM,qBp _ _ _ _,zBr.alloc zNr _⟩
    case round =>
     obtain⟨j,nv,hj,rfl,Wj,az,ai⟩:=hrel;obtain⟨na,nl,nc,rfl⟩:=Bt az;have m1:wr.cell? ⟨w3.heap.size,1,none⟩=some (.slice na nl nc):=by rw[qAD _ _ _ _ _ _ Wj];rfl
     by_cases aB:j<k
     ·have eU:=dF.below ai;obtain⟨bb,ob,rfl,hcj⟩:=eU.cell0 j Sg;obtain⟨z0,z1⟩:=eU.1.getD j;have bW:=ai.size;have aG:=KQ az Wj Si;have HO:=ae (qBP az (.cells #[zi (cz.getD j 0)] 3));have oM:=ae (ai.alloc bW (.cells #[zi (cz.getD j 0)] 3));have GD:=ae (rU az);have x8:=ae (YD (l:=cz) (j:=j) Sg);have zoR:=ae (show(wr.alloc (.cells #[zi (cz.getD j 0)] 3)).heap[w3.heap.size]?=_ from(qAb _ _ ((zAg Wj).1)).trans Wj);have HNE:=ae aG;have BK:w3.heap.size<wr.heap.size:=(zAg Wj).1;clear eU az ai Wj HGM aG;generalize cz.getD j 0=z at*;go_wp2_with (at_builtin;refine wpList_append_own_at _ rfl _ _ 88 rfl w3.heap.size 3 i0 (zi 0) 1 8 underlying88 dU cO cU cV rfl Si _ _ _ rfl HO ⟨wr.heap.size,0,none⟩ 1 1 [zi z] rfl rfl (xx _ _ _) (KT _) Ts Sg Tb ?_)
      intro v9 w9 aU l8 _ _;have zdy:=(l8.block w3.heap.size Tb (fun e=>HNE e.symm)).trans zoR;have m19:w9.cell? ⟨w3.heap.size,1,none⟩=some (.slice na nl nc):=by rw[qAD _ _ _ _ _ _ zdy];rfl
      have fr9:=qAd _ _ 1 _ _ zdy;obtain⟨va,vl,vc,rfl⟩:=Bt aU;have zrh:Hid ((w9.setCell ⟨w3.heap.size,1,none⟩ (.slice va vl vc)).heap[w3.heap.size]?=some (.cells #[zi n,.slice va vl vc] 205 (0,0))):=ae (by rw[qAI _ _ _ _ _ _ zdy];rfl);have pO:=ae (vA aU (a:=⟨w3.heap.size,1,none⟩) (KQ aU zdy Si) (.slice va vl vc));rw[<-aa x8]at pO;have ji:=oM.grown l8 Tb GD;have kE:Hid (zB w3 (w9.setCell ⟨w3.heap.size,1,none⟩ (.slice va vl vc))):=ae (ji.setCell zNr _);clear ji;clear aU l8 zdy HO oM GD zoR HNE x8;go_wp2;go_roundw
      case rel=>exact⟨j+1,_,Sg,Tc,zrh,pO,kE⟩
      case measure=>exact Te
     ·obtain rfl:j=k:=by omega
      have bQ:=zcs cz;rw[xU]at bQ;rw[bQ]at az;have m0:wr.cell? ⟨w3.heap.size,0,none⟩=some (zi n):=by rw[qAD _ _ _ _ _ _ Wj];rfl
      have hm:=(ai.block _ Sg).trans HM3;have r0:wr.cell? ⟨w.heap.size+1,0,none⟩=some (zi 0):=ziU
      have r1:wr.cell? ⟨w.heap.size+1,1,none⟩=some (.slice none 0 0):=ziU
      have f0:=qAd _ _ 0 _ _ hm;have f1:=qAd _ _ 1 _ _ hm;have HM:=ae hm;have HO:=ae az;have qo:=ae (J0.trans (ai.mono Sg));have HNE:=ae (KQ az hm Si);clear hm az ai Wj HGM;go_wp2;refine qBV (oT results293 _ _ (w.heap.size+1) _ rfl (zR (W:=wr) HM _ _) rfl) rfl ?_;refine⟨_,rfl,⟨_,rfl,?_⟩,(qo.setCell Y3 _).setCell Y3 _⟩;have:=vA (vA (Oh HO (by omega:w.heap.size<=w3.heap.size)) (a:=⟨w.heap.size+1,0,none⟩) HNE (zi n)) (a:=⟨w.heap.size+1,1,none⟩) HNE (.slice na nl nc);unfold zlF;rw[aa x9,xU];exact this
  ·have hM:=M2 Sg;subst hM;generalize B.getD 0 0=z at*;rw[hB];have hz':23<z:=by omega
   clear M1 M2 M3 M4 HL hB hz;exact zox
 ·have hM:=M1 hE;subst hM;rw[aF _ hE];clear M1 M2 M3 M4 HL;generalize B.length=bl at*;exact zox
end
section
open Go.MapKept
open Go.ChangeMaps
open Go.Maps (Keyed)
def tH(n:Int):DataW Unit:=.lit (.int .i64 n)
def markR:Value->Option (DataW Unit×List MemPlace)
 | .agg cs=>match cs.toList with
  | [.int .i64 s,.slice none n c]=>some (.agg [tH s,tH n,tH c],[])
  | [.int .i64 s,.slice (some ⟨b,off,none⟩) n c]=>some (.agg [tH s,tH n,tH c,tH b,tH off],[])
  | _=>none
 | _=>none
theorem IY{v':Value}{d}{ps ps'}(h:markR v=some (d,ps))(h':markR v'=some (d,ps')):v=v':=by
 unfold markR at h h';split at h
 ·rename_i cs
  split at h
  ·rename_i s n c e
   split at h'
   ·rename_i cs'
    split at h'
    ·rename_i s' n' c' e'
     simp only[qAQ,qBs]at h h';have:=h.1.trans h'.1.symm;simp[tH]at this;obtain⟨rfl,h1,h2⟩:=this;obtain rfl:n=n':=Sg;obtain rfl:c=c':=Sg;rw[<-e']at e
     congr 1
     exact Array.ext' e
    ·rename_i s' b' o' n' c' e'
     exact zmf
    ·cases h'
   ·cases h'
  ·rename_i s b o n c e
   split at h'
   ·rename_i cs'
    split at h'
    ·rename_i s' n' c' e'
     exact zmf
    ·rename_i s' b' o' n' c' e'
     simp only[qAQ,qBs]at h h';have:=h.1.trans h'.1.symm;simp[tH]at this;obtain⟨rfl,h1,h2,h3,h4⟩:=this;obtain rfl:n=n':=Sg;obtain rfl:c=c':=Sg;obtain rfl:b=b':=Sg;obtain rfl:o=o':=Sg;rw[<-e']at e
     congr 1
     exact Array.ext' e
    ·cases h'
   ·cases h'
  ·cases h
 ·cases h
def Cl:Value:=.agg #[zi 0,.slice none 0 0]
theorem yz:markR Cl=some (.agg [tH 0,tH 0,tH 0],[]):=rfl
theorem H7 w:(zeroValue 205).run prog w=.ok Cl w:=by
 have h:(prog.info? 205).map (fun i=>i.zero)=some (some Cl):=SQ;cases hi:prog.info? 205 with
 | none=>rw[hi]at h;cases h
 | some i =>rw[hi]at h;simp at h;simp[zeroValue,typeInfo,hi,h]
def Okv(v:Value):Prop:=∃d ps,markR v=some (d,ps)
theorem YA(s:Int){w:World}{base e size:Nat}{v:Value}{n:Nat}{xs:List Value}(h:w.ownsRow base e size v n xs):Okv (.agg #[zi s,v]):=by
 rcases h.2 with ⟨rfl,_⟩|⟨g,cap,cur,rfl,_⟩
 ·exact WW
 ·exact WW
def RM(w:World)(m n:Nat)(f:Nat->Option Value):Prop :=∃Dm,w.ownsMap prog 3 markR m n Dm/\∀i:Nat,i<2->Maps.has Dm (.int .i64 i)=(f i).isSome/\∀v,f i=some v->∃d ps,markR v=some (d,ps)/\Dm.atKey (.int .i64 i) (.agg [tH 0,tH 0,tH 0])=d
theorem RM.lt(h:RM w m n f):m<w.heap.size:=zfq
theorem RM.same(h:RM w m n f)(hs:w'.heap[m]?=w.heap[m]?):RM w' m n f:=zhC
theorem RM.below(h:RM w m n f)(hb:zB w w'):RM w' m n f:=h.same (hb.block m h.lt)
theorem RM.made(w:World):RM (w.alloc (.map #[] 0)) w.heap.size 0 (fun _=>none):=⟨.map [],World.ownsMap_made w _ _ _,fun i _=>⟨rfl,fun v hv=>by cases hv⟩⟩
theorem RM.look(h:RM w m n f) c(hi:i<2) :
  (Instr.lookup 341 (.map (some m)) (zi i) c).run prog w=.ok (if c then .tuple #[(f i).getD Cl,.bool (f i).isSome]else (f i).getD Cl) w:=by
 obtain⟨Dm,az,hD⟩:=h;have gL:=Maps.keyOf_int_mk (P:=prog) underlying3 (vd i Sg);have oZ:∀v ps,markR v=some (Dm.atKey (.int .i64 i) (.agg [tH 0,tH 0,tH 0]),ps)->v=(f i).getD Cl:=by
  intro v ps hv;cases hm:f i with
  | none =>
   have ig:Maps.has Dm (.int .i64 i)=false:=by rw[(hD i hi).1,hm];rfl
   rw[Maps.atKey_of_not_has ig]at hv;exact IY hv yz
  | some b =>obtain⟨d,ps',h1,h2⟩:=(hD i hi).2 b hm;rw[h2]at hv;exact IY hv h1
 cases c with
 | true =>obtain⟨v,ps,cF,hv⟩:=az.look_ok (Maps.int_keyed underlying3) underlying341 (H7 w) yz gL;rw[cF,oZ v ps hv,(hD i hi).1];rfl
 | false =>obtain⟨v,ps,cF,hv⟩:=az.lookup (Maps.int_keyed underlying3) underlying341 (H7 w) yz gL;rw[cF,oZ v ps hv];rfl
def Eg(f:Nat->Option Value)(i:Nat)(v:Value):Nat->Option Value:=fun j=>if j=i then some v else f j
theorem RM.store(h:RM w m n f)(hi:i<2)(hv:Okv v)(hn:n<=300) :
  ∃w',(Instr.mapUpdate 341 (.map (some m)) (zi i) v).run prog w=.ok () w'/\RM w' m (n+1) (Eg f i v)/\w.mapTurned w' m:=by
 obtain⟨Dm,az,hD⟩:=h;obtain⟨d,ps,hv⟩:=hv;have gL:=Maps.keyOf_int_mk (P:=prog) underlying3 (vd i Sg);obtain⟨w',cF,jy,ht⟩:=az.store (Maps.int_keyed underlying3) underlying341 Ts gL hv;have sr:=(Maps.int_keyed underlying3).key gL;refine⟨w',cF,⟨_,jy,fun j hj=>?_⟩,ht⟩;unfold Eg;by_cases e:j=i
 ·subst e;rw[zy rfl];refine⟨by rw[Maps.has_put_same az.isMap sr];rfl,fun u hu=>?_⟩;obtain rfl:=zOi hu;exact⟨d,ps,hv,Maps.atKey_put_same az.isMap sr _ _⟩
 ·have aG:Lit.int .i64 (j:Int)≠Lit.int .i64 (i:Int):=by intro e2;simp only[qCC,qBL]at e2;omega
  rw[zn e,Maps.has_put_other aG,Maps.atKey_put_other aG];exact hD j hj
theorem K5 x w:zC 327 #[zi x] w (zr (.bool false) fun w'=>w=w'):=by
 go_enter func327,ntmps327
 go_wp2;go_ret;exact⟨Sk,rfl⟩
def Qp(x y:Int):Int:=if x<y then -1 else if y<x then 1 else 0
theorem Qi x y w:zC 296 #[zi x,zi y] w (zr (zi (Qp x y)) fun w'=>w=w'):=by
 unfold Qp;by_cases h1:x<y
 ·rw[zy h1];exact zG
 ·rw[zn h1];by_cases h2:y<x
  ·rw[zy h2];exact zG
  ·rw[zn h2];exact zG
def Stp(f:Nat->Option Value)(i:Nat)(s:Int):Prop:=∃nv,(f i).getD Cl=.agg #[zi s,nv]
theorem P3 x nv w:(Instr.field 205 (.agg #[zi x,nv]) 0).run prog w=.ok (zi x) w:=by simp[Instr.field,qCi underlying205,qCi underlying3,part,isAgg,asAgg,go_sem]
theorem Oz(h:RM w m n f)(hg:w.cell? (zp g)=some (.map (some m)))(hi:i<2)(hj:j<2)(hx:Stp f i x)(hy:Stp f j y) :
  zC 295 #[zi i,zi j,zq g] w (zr (zi (Qp x y)) fun w'=>w=w'):=by
 obtain⟨nx,hx⟩:=hx;obtain⟨ny,hy⟩:=hy;have l1:=h.look false hi;have l2:=h.look false hj;rw[hx]at l1;rw[hy]at l2;simp only[Bool.false_eq_true,if_false]at l1 l2;have hf:=P3;go_enter func295,ntmps295
 go_wp2_with fail
 refine(Qi x y w).mono ?_;rintro e w' ⟨rfl,rfl⟩;exact Tt
theorem zgP{b:Nat}(h:RM w m n f)(hg:w.cell? (zp g)=some (.map (some m)))(hx:Stp f 0 x)(hy:Stp f 1 y)(hb:w.heap[b]?=some (.cells #[zi 0,zi 1] 3 (0,0))) :
  zC 294 #[.slice (zo b) 2 2,.func (.func 295) #[] #[zq g]] w (zr (zi (if x<y then 1 else 0)) fun w'=>w=w'):=by
 have HN:=ae (Oz h hg (i:=1) (j:=0) Si Si hy hx);have b0:w.cell? (zp b)=some (zi 0):=by rw[qAD _ _ _ _ _ _ hb];rfl
 have b1:w.cell? (zw b 1)=some (zi 1):=by rw[qAD _ _ _ _ _ _ hb];rfl
 rw[show((1:Nat):Int)=1 from rfl,show((0:Nat):Int)=0 from rfl]at HN;obtain⟨r,hr⟩:∃r:Int,r=if x<y then 1 else 0:=⟨_,rfl⟩
 rw[<-hr];have HR:=ae hr;clear hr;go_enter func294,ntmps294
 go_wp2_with fail
 go_loop [5,6] (fun v i=>(i=zi 1/\v=zi 0)\/(i=zi 2/\v=zi r)) (fun _ i=>2-(intOf i).toNat)
 case atStart=>exact .inl ⟨rfl,rfl⟩
 case round =>
  rcases hrel with ⟨rfl,rfl⟩|⟨rfl,rfl⟩
  ·by_cases Gv:x<y
   ·have hc:Qp y x=1:=by unfold Qp;rw[zn Sg,zy Gv]
    rw[hc]at HN;rw[zy Gv]at HR;exact Ix
   ·have hc:Qp y x<=0:=by unfold Qp;split <;> (try split) <;> omega
    rw[zn Gv]at HR;generalize Qp y x=c at*;exact Ix
  ·exact Tt
theorem Tn(h:RM w m n f)(hx:Stp f 0 x)(hy:Stp f 1 y) :
  zC 242 #[.map (some m)] w (zr (zi (if x<y then 1 else 0)) fun w'=>zB w w'):=by
 have hb:zB w ((w.alloc (.cells #[.map (some m)] 341)).alloc (.cells #[zi 0,zi 1] 3)):=(zBr.alloc zNr _).alloc Sk _;have hg:((w.alloc (.cells #[.map (some m)] 341)).alloc (.cells #[zi 0,zi 1] 3)).cell? (zp w.heap.size)=some (.map (some m)):=by have e:((w.alloc (.cells #[.map (some m)] 341)).alloc (.cells #[zi 0,zi 1] 3)).heap[w.heap.size]?=_:=(qAb _ _ Sk).trans (qAB _ _);rw[qAD _ _ _ _ _ _ e];rfl
 have HM:=ae (zgP (h.below hb) hg hx hy (b:=w.heap.size+1) (heap_alloc2_new w _ _));generalize (if x<y then (1:Int)else 0)=r at*;have HB:=ae hb;go_enter func242,ntmps242
 go_wp2_with fail
 refine HM.mono ?_;exact zpm
end
theorem pF{w w':World}{base e size:Nat}{v:Value}{n:Nat}{xs:List Value}(h:w.ownsRow base e size v n xs)(hb:zB w w'):w'.ownsRow base e size v n xs :=bJ h (fun g hg=>hb.block g (KR h g hg))
def AQ(w:World)(base:Nat)(mk:Option (Int×LI))(fv:Option Value):Prop :=
 match mk with
 | none=>fv=none
 | some (s,l)=>∃nv,fv=some (.agg #[zi s,nv])/\zlF w base nv l
theorem AQ.below{fv}(h:AQ w base mk fv)(hb:zB w w'):AQ w' base mk fv:=by
 cases mk with
 | none=>exact h
 | some q =>obtain⟨s,l⟩:=q;obtain⟨nv,h1,h2⟩:=h;exact⟨nv,h1,pF h2 hb⟩
section
variable {w0 w:World} {p:Nat} {S:Nat->Prop} {D:DS}
theorem SR F g n(f:Nat->Nat)(h:Live w0 w p S D)(hd:D.down=false)(hn:n<=300)(hr:∀k,k<n->f k<D.secs.length)(hF:∀args w',(callFunc F args).run prog w'=.ok (.enter F args) w')(hf:∀w',zB w w'->∀k:Nat,k<n->zC F #[zi k,zq g] w' fun e w''=>e=.returned (zi (f k))/\w'=w'') :
  zC 243 #[zq p,zi n,.func (.func F) #[] #[zq g]] w fun e w' =>∃t,e=zt #[.slice (zo t) n n,.nilIface]/\Gq w' S t n (fun k=>D.rd (f k))/\t<w'.heap.size/\zB w w':=by
 obtain⟨i1,hi1,hy0,Zm,hy2⟩:=qAO E8;have hS:∀k,w.heap.size<=k->¬S k:=fun k hk hs=>by have:=h.dev.lt k hs;omega
 have H:=ae h;have HF:=ae hf;have HFF:=ae hF;have HR:=ae hr;have jB:=h.dev.ok;clear h hf hF hr;go_enter func243,ntmps243
 go_wp2_with (at_make;refine CQ rfl _ _ 56 rfl i1 underlying56 hi1 hy0 Zm hy2 _ _ _ _ n rfl rfl rfl rfl Sg ?_)
 intro w1 TS ay;have Hv:=ae (TS S (fun k=>D.rd (f k)) (hS _ zNr));have aQ:=ae ay;clear TS ay;go_wp2_with fail
 go_loopw [16] (fun v wr=>∃k:Nat,k<=n/\v=zi k/\AX wr S w.heap.size n (fun k=>D.rd (f k)) k/\zB w wr) (fun v _=>n-(intOf v).toNat)
 case atStart=>exact⟨0,qAH _,rfl,Hv,aQ⟩
 case round =>
  obtain⟨k,hk,rfl,TS,ai⟩:=hrel;by_cases aB:k<n
  ·have HC:=ae (HF wr ai k aB);have qx:=(H.below ai).read (f k) (HR k aB) hd;have uV:=ae qx;have zoD:=ae TS;have aJ:=ae ai;have bW:=ai.size;clear qx TS ai;generalize hfk:f k=fk at*;have HFK:=ae hfk;go_wp2_with fail
   rw[aa HFF,Oper.upon_enter];refine HC.m ?_;rintro w2 rfl;go_wp2_with fail
   refine uV.mono ?_;rintro e w3 ⟨g3,rfl,hg3,Af,bD⟩;have Wd:=zoD.below bD;obtain⟨rv,zis⟩:=Wd.room k aB;have kA:=Wd.fr k;have HP:=ae (Wd.put aB (by show gz w3 g3 (D.rd (f k));rw[aa HFK];exact Af) (hS g3 Sg));have dF:Hid (zB w (w3.setCell (zw w.heap.size k) (.slice (zo g3) 32 32))):=ae ((aJ.trans (bD.mono bW)).setCell zNr _);clear Wd Af bD zoD aJ uV HC;go_wp2;go_roundw
   case rel=>exact⟨k+1,Sg,Tc,HP,dF⟩
   case measure=>exact Te
  ·obtain rfl:k=n:=by omega
   go_wp2;go_ret2;refine⟨_,rfl,⟨hS _ zNr,fun j hj=>?_⟩,TS.lt,ai⟩;obtain⟨cur,h1,h2,h3,h4⟩:=TS;obtain⟨g',h5,h6,h7⟩:=h4 j hj;have fI:kC (D.rd (f j)):=jB.rd (HR j hj);refine⟨some (zp g'),32,?_,rC h6 fI,fun _ x hx=>?_⟩
   ·rw[qAD _ _ _ _ _ _ h1,h5,fI.1]
   ·obtain rfl:=zOi hx;exact h7
theorem Ty(h:Live w0 w p S D)(hd:D.down=true)(hl:2<=D.secs.length) :
  zC 241 #[zq p] w (zr (.tuple #[.map none,bc 9]) fun w'=>zB w w'):=by
 have hE:D.ue 0=9:=by unfold DS.ue;rw[zn Sg,zy hd]
 have Jg:=@run_makeMap prog;have ay:zB w (w.alloc (.map #[] 0)):=zBr.alloc zNr _;have hr:=VB 0 (h.below ay).dev (by rw[hE];decide);rw[hE]at hr;have HR:=ae hr;have HB:=ae ay;go_enter func241,ntmps241
 go_wp2_with fail
 go_loopw [11] (fun v wr=>v=zi 0/\wr=w.alloc (.map #[] 0)) (fun _ _=>0)
 case atStart=>exact Uq
 case round =>
  obtain⟨rfl,rfl⟩:=hrel;go_wp2_with fail
  refine HR.m ?_;rintro w2 rfl;rw[aF 9 Si];go_wp2;go_ret2;exact zpQ
theorem zcM{L:Nat}(h:Live w0 w p S D)(hd:D.down=false)(hl:2<=D.secs.length)(hL:eo D.secs.length=L)(Wo:L<=200) :
  zC 241 #[zq p] w fun e w'=>∃m n f,e=.returned (.tuple #[.map (some m),.nilIface])/\RM w' m n f/\(∀i,i<2->AQ w' w.heap.size (mark L (D.rd i)) (f i))/\zB w w':=by
 have Jg:=@run_makeMap prog;have H:=ae h;have jB:=h.dev.ok;clear h;go_enter func241,ntmps241
 go_wp2_with fail
 go_loopw [11] (fun v wr=>∃ (k:Nat) (f:Nat->Option Value),k<=2/\v=zi k/\(∃n,n<=k/\RM wr w.heap.size n f)/\(∀i,i<k->AQ wr w.heap.size (mark L (D.rd i)) (f i))/\(∀i,k<=i->f i=none)/\zB w wr) (fun v _=>2-(intOf v).toNat)
 case atStart=>exact⟨0,_,Sg,rfl,⟨0,zNr,RM.made w⟩,fun i hi=>absurd hi (qAX i),fun i _=>rfl,zBr.alloc zNr _⟩
 case round =>
  obtain⟨k,f,hk,rfl,⟨n,hn,hrm⟩,qV,Pq,ai⟩:=hrel;by_cases aB:k<2
  ·have Jh:=H.below ai;have qx:=Jh.read k Sg hd;have fI:kC (D.rd k):=jB.rd Sg;have uV:=ae qx;have Xa:=ae Jh;have QQ:=ae hrm;have Gm:=ae qV;have QW:=ae Pq;have aJ:=ae ai;have bW:=ai.size;clear qx Jh hrm qV Pq ai;go_wp2_with fail
   refine uV.mono ?_;rintro e w2 ⟨g2,rfl,um,fR,aK⟩;have zkP:=mZ (Xa.below aK).dev;rw[hL]at zkP;have hom:=KS L (some (zp g2)) 32 (D.rd k) (rC fR fI) Wo;rw[fI.1]at hom;have zlS:=ae zkP;have HOM:=ae hom;have bz:=ae aK;have gN:=aK.size;clear zkP hom aK fR uV Xa;go_wp2_with fail
   refine zlS.mono ?_;rintro e w3 ⟨rfl,rfl⟩;go_wp2_with fail
   refine HOM.mono ?_;rintro e w3 ⟨v,rfl,tN,bD⟩;have xF:=bD.size;have BN:zB wr w3:=bz.trans (bD.mono gN);cases hM:mark L (D.rd k)with
   | none =>
    rw[hM]at tN;have hv:v=.agg #[zi 0,.slice none 0 0]:=tN;subst hv;have LC:zB wr (w3.alloc (.cells #[zi 0,.slice none 0 0] 205)):=BN.alloc BN.size _;have HE:Hid (∃n,n<=k+1/\RM (w3.alloc (.cells #[zi 0,.slice none 0 0] 205)) w.heap.size n f):=ae ⟨n,Sg,QQ.below LC⟩;have HG:Hid (∀i,i<k+1->AQ (w3.alloc (.cells #[zi 0,.slice none 0 0] 205)) w.heap.size (mark L (D.rd i)) (f i)):=ae (fun i hi=>by
     by_cases e:i=k
     ·subst e;rw[hM];exact QW i zNr
     ·exact(Gm i Sg).below LC)
    have HN:Hid (∀i,k+1<=i->f i=none):=ae (fun i hi=>QW i Sg);have HBB:=ae (aJ.trans (LC.mono bW));clear tN BN LC bD HOM zlS bz QQ Gm QW hM aJ;simp only[qDA];go_wp2;go_roundw
    case rel=>exact⟨k+1,f,Sg,Tc,HE,HG,HN,HBB⟩
    case measure=>exact Te
   | some q =>
    obtain⟨s,l⟩:=q;rw[hM]at tN;obtain⟨nv,rfl,l6⟩:=tN;obtain⟨na,nl,nc,rfl⟩:=Bt l6;have LC:zB wr (w3.alloc (.cells #[zi s,.slice na nl nc] 205)):=BN.alloc BN.size _;have rG:=QQ.below LC;obtain⟨w5,eF,uP,Pk⟩:=rG.store (i:=k) aB (YA s l6) Sg;have ZL:zB w3 (w3.alloc (.cells #[zi s,.slice na nl nc] 205)):=zBr.alloc zNr _;have hn5:=zJ (Oh (pF l6 ZL) (by omega:w.heap.size<=w2.heap.size)) Pk.grown (fun g hg e=>by have e2:=zOi e;subst e2;obtain⟨cur,hc⟩:=br (pF l6 ZL) hg;obtain⟨Dm,⟨es,clock,Dx,_⟩,_⟩:=rG;rw[hc]at Dx;cases Dx);have HE:Hid (∃n,n<=k+1/\RM w5 w.heap.size n (Eg f k (.agg #[zi s,.slice na nl nc]))):=ae ⟨n+1,Sg,uP⟩;have HG:Hid (∀i,i<k+1->AQ w5 w.heap.size (mark L (D.rd i)) (Eg f k (.agg #[zi s,.slice na nl nc]) i)):=ae (fun i hi=>by
     unfold Eg;by_cases e:i=k
     ·subst e;rw[hM,zy rfl];exact⟨_,rfl,hn5⟩
     ·rw[zn e];have hg4:=(Gm i Sg).below LC;cases hMi:mark L (D.rd i)with
      | none=>rw[hMi]at hg4;exact hg4
      | some q =>obtain⟨s',l'⟩:=q;rw[hMi]at hg4;obtain⟨nv',h1,h2⟩:=hg4;refine⟨nv',h1,zJ h2 Pk.grown (fun g hg e=>?_)⟩;have e2:=zOi e;subst e2;obtain⟨cur,hc⟩:=br h2 hg;obtain⟨Dm,⟨es,clock,Dx,_⟩,_⟩:=rG;rw[hc]at Dx;cases Dx)
    have HN:Hid (∀i,k+1<=i->Eg f k (.agg #[zi s,.slice na nl nc]) i=none):=ae (fun i hi=>by unfold Eg;rw[zn Sg];exact QW i Sg);have zk2:=aJ.trans (LC.mono bW);have HBB:=ae (zk2.grown Pk.grown zk2.size (fun j hj=>XW));clear BN LC bD HOM zlS bz QQ Gm QW hM rG uP Pk hn5 zk2 ZL l6 aJ;simp only[qDB];go_wp2;go_roundw
    case rel=>exact⟨k+1,_,Sg,Tc,HE,HG,HN,HBB⟩
    case measure=>exact Te
  ·obtain rfl:k=2:=by omega
   go_wp2;go_ret2;exact⟨_,_,_,rfl,hrm,qV,ai⟩
end
def Kk(m:Option (Int×LI)):Int:=match m with | some (s,_)=>s | none=>0
theorem AQ.stp(h:AQ w base mk (f i)):Stp f i (Kk mk):=by
 cases mk with
 | none=>exact⟨.slice none 0 0,by rw[show f i=none from h];rfl⟩
 | some q =>obtain⟨s,l⟩:=q;obtain⟨nv,h1,_⟩:=h;exact⟨nv,by rw[h1];rfl⟩
theorem zau{v:Nat->LI}(hp:∀i s l,mark L (v i)=some (s,l)->0<s) :
  ∃a:Nat,a<2/\(if Kk (mark L (v 0))<Kk (mark L (v 1))then (1:Int)else 0)=a/\nf L (v 0) (v 1)=(match mark L (v a)with | some (s,l)=>(s,a,l) | none=>(0,0,[])):=by
 have h0:=hp 0;have h1:=hp 1;unfold nf;cases e0:mark L (v 0)with
 | none =>
  cases e1:mark L (v 1)with
  | none=>exact⟨0,Si,rfl,by rw[e0];rfl⟩
  | some q =>
   obtain⟨s,l⟩:=q;have:=h1 s l e1;refine⟨1,Si,by show(if (0:Int)<s then (1:Int)else 0)=_;rw[zy this];rfl,?_⟩;rw[e1]
   show(if (0:Int)<s then (s,1,l)else (0,0,[]))=_
   rw[zy this]
 | some q0 =>
  obtain⟨s0,l0⟩:=q0;have G7:=h0 s0 l0 e0;have ep:pick (0,0,[]) 0 (some (s0,l0))=(s0,0,l0):=by
   show(if (0:Int)<s0 then (s0,0,l0)else (0,0,[]))=_
   rw[zy G7]
  rw[ep];cases e1:mark L (v 1)with
  | none =>refine⟨0,Si,by show(if s0<(0:Int)then (1:Int)else 0)=_;rw[zn Sg];rfl,?_⟩;rw[e0];rfl
  | some q =>
   obtain⟨s,l⟩:=q;by_cases aB:s0<s
   ·refine⟨1,Si,by show(if s0<s then (1:Int)else 0)=_;rw[zy aB];rfl,?_⟩;rw[e1]
    show(if s0<s then (s,1,l)else (s0,0,l0))=_
    rw[zy aB]
   ·refine⟨0,Si,by show(if s0<s then (1:Int)else 0)=_;rw[zn aB];rfl,?_⟩;rw[e0]
    show(if s0<s then (s,1,l)else (s0,0,l0))=_
    rw[zn aB]
theorem Tg{w:World}{base e size:Nat}{v:Value}{n:Nat}{xs:List Value}(h:w.ownsRow base e size v n xs):∃a c,v=.slice a n c:=by
 rcases h.2 with ⟨rfl,rfl⟩|⟨g,cap,cur,rfl,_⟩
 ·exact WW
 ·exact WW
section
variable {w0 w:World} {p:Nat} {S:Nat->Prop} {D:DS}
theorem Yx(h:Live w0 w p S D)(hc:¬eo D.secs.length<1)(hd:D.down=true) :
  zC 203 #[zq p] w (zr (.tuple #[.pointer none,bc 9]) fun w'=>zB w w'):=by
 have HC:=ae (mZ h.dev);have HM:=ae (Ty h hd (by unfold eo at hc;split at hc <;> omega));generalize eo D.secs.length=L at*;rw[aF 9 Si]at*;go_enter func203,ntmps203
 go_wp2_with fail
 refine HC.m ?_;rintro w1 rfl;go_wp2_with fail
 refine HM.m ?_;intro w1 hb;go_wp2;go_ret2;exact⟨rfl,hb⟩
theorem Dr{L:Nat}(h:Live w0 w p S D)(hL:eo D.secs.length=L)(hL1:1<=L)(hd:D.down=false) :
  zC 203 #[zq p] w fun e w'=>∃v,e=.returned (.tuple #[v,bc (cj D L).2.2])/\∃S',Live w0 w' p S' (cj D L).1/\au S S' w w' /\
   ((cj D L).2.2=0->∃q,v=zq q/\eE w' q p (cj D L).2.1/\w.heap.size<=q/\¬S' q)/\((cj D L).2.2≠0->v=.pointer none):=by
 have Wo:L<=200/\48+L<=D.secs.length:=zkg
 have jB:=h.dev.ok;have HC:=ae (mZ h.dev);rw[hL]at HC;have HM:=ae (zcM h hd Sg hL Wo.1);have hS:∀k,w.heap.size<=k->¬S k:=fun k hk hs=>by have:=h.dev.lt k hs;omega
 obtain⟨a,ha,hai,Fo⟩:=zau (L:=L) (v:=fun i=>D.rd i) (fun i s l hm=>by
  rcases qBT i D.secs.length with h1|h1
  ·exact(dE (jB.rd h1).2 hm).1
  ·exfalso
   have hb:bZ (D.rd i):=by
    unfold DS.rd;cases e:D.mem.lookup i with
    | none =>intro z hz;simp[List.getD,qAY h1]at hz
    | some b=>exact(jB.mem _ (gQ e)).2.2
   have:=(dE hb hm).2.2.2.2.2;unfold DS.rd at this;cases e:D.mem.lookup i with
   | none=>rw[e]at this;simp[List.getD,qAY h1]at this
   | some b=>have:=(jB.mem _ (gQ e)).1;omega)
 have HF:Hid (∀s l,mark L (D.rd a)=some (s,l)->l.length<=23/\∀z∈l,0<=z/\z<L):=ae (fun s l hm=>by have:=dE (jB.rd (show a<D.secs.length by omega)).2 hm;exact⟨this.2.1,this.2.2.1⟩);have HP0:Hid (∀s l,mark L (D.rd a)=some (s,l)->cj D L=((cP D a l).1,if (cP D a l).2=0 then s else 0,(cP D a l).2)):=ae (fun s l hm=>by rw[hm]at Fo;dsimp only at Fo;have ew:=(dE (jB.rd (show a<D.secs.length by omega)).2 hm).1;unfold cj;rw[Fo,zn zae,zn (show ¬s=0 by omega)]);have nh:Hid (mark L (D.rd a)=none->cj D L=(D,0,5)):=ae (fun hm=>by rw[hm]at Fo;dsimp only at Fo;unfold cj;rw[Fo,zn zae,zy rfl]);have H:=ae h;generalize hR:cj D L=R at*;clear hR h Fo hL;go_enter func203,ntmps203
 go_wp2_with fail
 refine HC.mono ?_;rintro e w1 ⟨rfl,rfl⟩;go_wp2_with fail
 refine HM.mono ?_;rintro e w1 ⟨m,n,f,rfl,hrm,qV,ay⟩;have eX:=Tn hrm (qV 0 Si).stp (qV 1 Si).stp;rw[hai]at eX;have QX:=ae eX;have QQ:=ae hrm;have Gm:=ae (qV a ha);have aQ:=ae ay;have fQ:=ay.size;clear eX hrm qV ay HC HM hai;go_wp2_with fail
 refine QX.mono ?_;rintro e w2 ⟨rfl,aK⟩;have cN:=(QQ.below aK).look true ha;rw[zy rfl]at cN;have qV:=Gm.below aK;have bz:=ae (aQ.trans (aK.mono fQ));have gN:=aK.size;clear aK QQ Gm QX aQ;cases hM:mark L (D.rd a)with
 | none =>rw[hM]at qV;rw[show f a=none from qV]at cN;unfold Cl at cN;simp only[Option.getD_none,qDA]at cN;have HRR:=ae (nh hM);clear hM HP0 nh HF qV;go_wp2;go_ret2;rw[aa HRR];exact⟨_,rfl,S,H.below (bz.alloc bz.size _),au.aI (bz.alloc bz.size _),fun h=>absurd (show(5:Int)=0 from h) Si,fun _=>rfl⟩
 | some q =>
  obtain⟨s,l⟩:=q;rw[hM]at qV;obtain⟨nv,hfa,l6⟩:=qV;obtain⟨na,nc,rfl⟩:=Tg l6;rw[hfa]at cN;simp only[Option.getD_some,qDB]at cN;have Fp:=HP0 s l hM;obtain⟨zr5,hlz⟩:=HF s l hM;obtain⟨X,hX⟩:∃X,X=cP D a l:=⟨_,rfl⟩;rw[<-hX]at Fp;have HRR:=ae Fp;have HX:=ae hX;have zfc:=ae l6;have HLZ:=ae hlz;clear hM HP0 nh HF l6 hfa hX hlz Fp;go_wp2_with fail
  have bD:zB w (w2.alloc (.cells #[zi s,.slice na l.length nc] 205)):=bz.alloc bz.size _;have Pr:=qAB w2 (.cells #[zi s,.slice na l.length nc] 205);have hn3:=pF zfc (w':=w2.alloc (.cells #[zi s,.slice na l.length nc] 205)) (zBr.alloc zNr _);have xF:w2.heap.size<(w2.alloc (.cells #[zi s,.slice na l.length nc] 205)).heap.size:=Sk
  generalize w2.alloc (.cells #[zi s,.slice na l.length nc] 205)=w3 at*;have c1:w3.cell? ⟨w2.heap.size,1,none⟩=some (.slice na l.length nc):=by rw[qAD _ _ _ _ _ _ Pr];rfl
  have Xa:=ae (H.below bD);have uV:Hid (∀wx g,zB w3 wx->w3.heap.size<=g->wx.cell? (zp g)=some (zi (a:Int))->zC 243 #[zq p,zi (l.length:Nat),.func (.func 297) #[] #[zq g]] wx fun e w'=>∃t,e=.returned (.tuple #[.slice (some (zp t)) l.length l.length,.nilIface])/\Gq w' S t l.length (fun k=>D.rd (2+23*a+k))/\t<w'.heap.size/\zB w3 w'):=ae (fun wx g Js hg hc=>by have BK:=qAA hc;have:=SR 297 g l.length (fun k=>2+23*a+k) (Xa.below Js) hd Sg (fun k hk=>Sg) call297 (fun w' pI k hk=>by have:=Ef g a k w' Sg Sg ((pI.cell BK).trans hc);rw[show(2+23*(a:Int)+(k:Int))=((2+23*a+k:Nat):Int) by omega]at this;exact this);exact this.mono fun e w' ⟨t,he,PE,htl,hb⟩=>⟨t,he,PE,htl,Js.trans (hb.mono Js.size)⟩)
  have HM3:=ae Pr;have yd:=ae hn3;have dF:=ae bD;clear Pr hn3 bD zfc bz cN;go_region_held3 (fun w'=>w'.cell? ⟨w2.heap.size,1,none⟩=some (.slice na l.length nc)) (go_keep)
   (first
    | (go_at_call 244;refine(Ip _ _).mono ?_;rintro e wa ⟨rfl,TR⟩;have eh:zB w3 wa:=zjR;have hca:wa.cell? ⟨w3.heap.size,0,none⟩=some (zi (a:Int)):=zjU;clear TR;have ra1:wa.cell? ⟨w2.heap.size,1,none⟩=some (.slice na l.length nc):=(eh.cell zmP).trans c1)
    | (go_at_call 243;refine(uV _ _ zi2 (by exact zNr) (by exact hca)).mono ?_;rintro e wb ⟨tb,rfl,PE,htl,vQ⟩;have rb1:wb.cell? ⟨w2.heap.size,1,none⟩=some (.slice na l.length nc):=(vQ.cell zmP).trans c1))
  all_goals
   have jz:zB w wb:=zTs dF vQ;have T4:=(vQ.block _ xF).trans HM3;have m0:wb.cell? ⟨w2.heap.size,0,none⟩=some (zi s):=zkK
   have hn4:=pF yd vQ;have jT:zB wb (wb.alloc (.cells #[.slice na l.length nc] 88)):=zBr.alloc zNr _;have Jm:¬S wb.heap.size:=hS _ jz.size;have hn5:=pF hn4 jT;have tM:w2.heap.size<wb.heap.size:=(zAg T4).1;have ku:=qC 298 wb.heap.size tb l.length l.length (fun k=>D.rd (2+23*a+k)) (fun k=>48+l.getD k 0) ((H.below jz).below jT) (PE.cQ (au.aI jT) htl) (qAL htl jT.size) Sg zNr call298 (fun w' S' ht k hk=>by
    obtain⟨gn,cn,e,Px,_,BK,bf⟩:=Br hn5 Sg;simp only[qAS]at e;obtain⟨rfl,_,rfl⟩:=e;have hz:=HLZ _ (lW hk);have Hf:(wb.alloc (.cells #[.slice (some (zp gn)) l.length nc] 88)).cell? ⟨gn,k,none⟩=some (zi (l.getD k 0)):=by rw[bf k hk];simp[List.getD,hk]
    have hnS:¬S gn:=hS _ Px;refine Jd wb.heap.size gn nc l.length k (l.getD k 0) w' hk Sg Sg ((qAJ (a:=⟨wb.heap.size,0,none⟩) (ht.block _ Sk Jm)).trans ?_) ((qAJ (a:=⟨gn,k,none⟩) (ht.block _ BK hnS)).trans Hf);rw[qAD _ _ _ _ _ _ (qAB _ _)];rfl)
   have hXe:di (iY (D,0) (fun i=>(48+l.getD i 0,D.rd (2+23*a+i))) l.length)=X:=HX.symm;rw[hXe]at ku;have rE:=ae ku;have W9:Hid (∀w' S',au S S' (wb.alloc (.cells #[.slice na l.length nc] 88)) w'->w'.cell? ⟨w2.heap.size,0,none⟩=some (zi s)):=ae (fun w' S' ht=>by have e1:(wb.alloc (.cells #[.slice na l.length nc] 88)).heap[w2.heap.size]?=_:=(jT.block _ tM).trans T4;have e2:=(ht.block _ (qAL tM jT.size) (hS _ Sg)).trans e1;rw[qAD _ _ _ _ _ _ e2];rfl);have HTA:=ae ((au.aI (S:=S) jz).trans (au.aI jT));clear ku hXe hn5 hn4 T4 vQ PE jz jT uV Xa HM3 yd dF eh hca ra1 m0;go_wp2_with fail
   refine(Po _ _ _ _).mono ?_;rintro e wc ⟨rfl,rfl⟩;go_wp2_with fail
   refine rE.mono ?_;rintro e w6 ⟨rfl,S6,hl6,ht6⟩;have m0:=W9 w6 S6 ht6;have HL6:=ae hl6;have HT6:=ae (HTA.trans ht6);clear hl6 ht6 rE W9 HTA;by_cases hE:X.2=0
   ·rw[hE,aC];go_wp2;go_ret2;have hq:=qAB w6 (.cells #[zq p,zi s] 210);rw[aa HRR,zy hE,hE];refine⟨_,rfl,S6,HL6.below (zBr.alloc zNr _),HT6.trans (au.alloc S6 _ _),fun _=>⟨w6.heap.size,rfl,hq,HT6.size,fun hs=>?_⟩,fun h=>absurd rfl h⟩;have:=HL6.dev.lt _ hs;omega
   ·rw[aF _ hE];go_wp2;go_ret2;rw[aa HRR,zn hE];exact⟨_,by rw[aF _ hE];rfl,S6,HL6,HT6,fun h=>absurd h hE,fun _=>rfl⟩
end
theorem vX n:(bG (DS.new n)).1.left<0:=by have h0:ni (DS.new n,0):=⟨by show(-1:Int)<0;decide,fun _=>rfl,zlf⟩;exact((h0.w _ _).w _ _).f.1
section
variable {w w':World} {S S':Nat->Prop} {t n:Nat} {F:Nat->LI}
theorem Bs.setCell{c}(hb:Bs w a c l){x}(hx:l≠[]->∀y,a=some y->y.block≠x.block) v:Bs (w.setCell x v) a c l:=by obtain⟨h1,h2,h3,h4,h5⟩:=hb;refine⟨h1,h2,h3,h4,fun aG=>?_⟩;obtain⟨b,off,rfl,hc⟩:=h5 aG;refine⟨b,off,rfl,fun i hi=>?_⟩;rw[<-hc i hi];exact qAJ (a:=⟨b,off+i,none⟩) (qAV _ _ _ _ (hx aG ⟨b,off,none⟩ rfl))
end
structure sP (w0 w:World) (p q:Nat) (S:Nat->Prop) (D:DS) (s:Int) (T:Nat->Prop):Prop where
 live:Live w0 w p S D
 pg:eE w q p s
 out:¬S q
 base:w0.heap.size<=q
 apart:∀k,T k->¬plus S q k
 Gu:∀k,T k->k<w.heap.size
 tb:∀k,T k->w0.heap.size<=k
section
variable {w0 w w':World} {p q:Nat} {S S':Nat->Prop} {D D':DS} {s s':Int} {T T' U:Nat->Prop}
theorem sP.Ob(h:sP w0 w p q S D s T):∀k,plus S q k->k<w.heap.size:=fun k hk=>by
 rcases hk with hk|rfl
 ·exact h.live.dev.lt k hk
 ·exact h.pg.lt
theorem sP.pge(h:sP w0 w p q S D s T):∀k,plus S q k->w0.heap.size<=k:=fun k hk=>by
 rcases hk with hk|rfl
 ·exact h.live.base k hk
 ·exact h.base
theorem sP.size(h:sP w0 w p q S D s T):w0.heap.size<=w.heap.size:=h.live.F7.size
theorem sP.below(h:sP w0 w p q S D s T)(hb:zB w w'):sP w0 w' p q S D s T :=⟨h.live.below hb,h.pg.below hb,h.out,h.base,h.apart,fun k hk=>qAL (h.Gu k hk) hb.size,h.tb⟩
theorem sP.other(h:sP w0 w p q S D s T){U U'}(ht:au U U' w w')(hU:∀k,U k->T k)(hT:∀k,T' k->k<w'.heap.size/\(k<w.heap.size->T k)):sP w0 w' p q S D s T':=by
 have hn:=fun k hk hu=>h.apart k (hU k hu) hk
 have mi:=fun k hk=>h.tb k (hU k hk)
 refine⟨⟨h.live.dev.cQ ht (fun k hk=>hn k (.inl hk)),h.live.F7.trans (ht.below mi h.size),h.live.base⟩,(h.pg.cQ ht (hn q (.inr rfl))).1,h.out,h.base,fun k hk hs=>?_,fun k hk=>(hT k hk).1,fun k hk=>?_⟩
 ·exact h.apart k ((hT k hk).2 (h.Ob k hs)) hs
 ·rcases qBT k w.heap.size with h1|h1
  ·exact h.tb k ((hT k hk).2 h1)
  ·exact qAF h.size h1
theorem sP.eH(h:sP w0 w p q S D s T)(hl:Live w0 w' p S' D')(hp:eE w' q p s')(ho:¬S' q)(ht:au (plus S q) (plus S' q) w w'):sP w0 w' p q S' D' s' T :=⟨hl,hp,ho,h.base,fun k hk hs=>h.apart k hk (ht.bA k (h.Gu k hk) hs),fun k hk=>qAL (h.Gu k hk) ht.size,h.tb⟩
theorem sP.keep(h:sP w0 w p q S D s T)(ht:au (plus S q) (plus S' q) w w') k(hk:T k):w'.heap[k]?=w.heap[k]?:=ht.block k (h.Gu k hk) (h.apart k hk)
