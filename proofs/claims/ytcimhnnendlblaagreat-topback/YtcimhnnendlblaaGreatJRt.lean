/-
  Parts of the proofs.
-/
import Derived.Test.YtcimhnnendlblaaGreatJRtp
import Derived.Test.YtcimhnnendlblaaGreatJCi
set_option maxRecDepth 100000
set_option maxHeartbeats 16000000
set_option linter.all false
namespace Go.Proofs.YtcimhnnendlblaaGreat
open Go.RowKit
theorem Yu(x y:Int)(w:World):(Instr.field 123 (.agg #[.int .i64 x,.int .i64 y]) 0).run Tryz.prog w=.ok (.int .i64 x) w:=by simp [Instr.field,run_underlying Tryz.underlying123,run_underlying Tryz.underlying3,part,isAgg,asAgg,go_sem]
def Uk(k:Nat):Int:=if k=8 then 0 else (k:Int)
theorem iX(a la:Option Addr)(cap lc:Nat)(L l:List Int)(w:World)(hb:Bs w a cap L)(hl:Bs w la lc l)(h8:l.length=8)(h1:288<=L.length)(h2:L.length<=6400) :
  Calls Tryz.prog 87 #[.slice a L.length cap,.slice la 8 lc] w fun e w'=>e=.returned (.tuple #[.int .i64 (Uk (plL L l)),.bool (decide (plL L l<8))])/\Below w.heap.size w w':=by
 have HB:=af hb;have HL:=af hl;have HF:=af (vT L l);have HH:=af (fun(W:World) (ax:Option Addr) (cx:Nat) (X:List Int) (hX:Bs W ax cx X) (hlW:Bs W la lc l) (hle:8<=X.length)=>Cp ax la cx lc X l W hX hlW (by omega));rw [h8] at HH;have HI:=af (fun k=>show MV L l k=decide ((rowAt L k).take 8=l) from rfl);have HT:=af (fun k=>show(rowAt L k).take 8=(L.drop (200+11 * k)).take 8 by unfold rowAt;rw [List.take_take];rfl);generalize plL L l=P at *;clear hb hl h8;go_enter Tryz.func87,Tryz.ntmps87
 go_wp2_with fail
 go_loopw [6,7] (fun _ iv wr=>∃ k:Nat,k<=8/\iv=.int .i64 k/\(∀ j,j<k->MV L l j=false)/\Below w.heap.size w wr) (fun _ iv _=>8-(intOf iv).toNat)
 case atStart=>exact⟨0,Nat.zero_le _,rfl,fun j hj=>absurd hj (Nat.not_lt_zero j),zBr⟩
 case round =>
  obtain⟨k,hk,rfl,bB,ao⟩:=hrel;by_cases aM:k<8
  ·have HO:=af (Ab k wr aM);have hb:=(ae HB).below ao;have hPk:MV L l k=true->P=k:=fun h=>cF.unique (ae HF) ⟨hk,bB,fun _=>h⟩
   have hS:MV L l k=false->∀ j,j<k+1->MV L l j=false:=fun h=>cF.step bB h
   have HPk:Hid (MV L l k=true->Uk P=k/\decide (P<8)=true):=af (fun h=>by rw [hPk h];exact⟨if_neg (by omega),decide_eq_true aM⟩);have HS:=af hS;have aQ:=af ao;have HC:Hid (∀ W,Below wr.heap.size wr W->∃ a',Sem.run Tryz.prog (Instr.slice 30 (.slice a L.length cap) (some (.int .i64 (200+11 * k:Nat))) none none) W=.ok (.slice a' (L.length-(200+11 * k)) (cap-(200+11 * k))) W/\Calls Tryz.prog 93 #[.slice a' (L.length-(200+11 * k)) (cap-(200+11 * k)),.slice la 8 lc] W fun e w'=>e=.returned (.bool (MV L l k))/\W=w'):=af (fun W hW=>by obtain⟨a',BP,aK⟩:=db (P:=Tryz.prog) (t:=30) zu30 aN (hb.below hW) (200+11 * k) (by omega);have hh:=ae HH W a' (cap-(200+11 * k)) (L.drop (200+11 * k)) aK (((ae HL).below ao).below hW) (by rw [zLd];omega);rw [zLd,<- ae HT k,<- ae HI k] at hh;exact⟨a',BP _,hh⟩);have pM:(200+11 * k:Nat)<=L.length:=by omega
   clear bB hPk hS ao hb HF HH HB HL;generalize MV L l k=b at *;generalize 200+11 * k=q at *;generalize L.length=N at *;go_wp2_with fail
   refine(ae HO).mono ?_;rintro e w1 ⟨rfl,ay⟩;obtain⟨a',bw,dj⟩:=ae HC w1 ay;have mC:=af dj;have aL:=zTr aQ ay;have hfd:=Yu q 11 w1;clear ay dj HC HO aQ;cases b with
   | false =>
    have HN:=af (ae HS rfl);clear HS HPk;go_wp2_with fail
    refine(ae mC).mono ?_;rintro e w2 ⟨rfl,Xb⟩;subst Xb;go_wp2;go_roundw
    case rel=>exact⟨k+1,by omega,by go_num,ae HN,ae aL⟩
    case measure=>simp [intOf];omega
   | true =>
    have HX:=af (ae HPk rfl);clear HS HPk;go_wp2_with fail
    refine(ae mC).mono ?_;rintro e w2 ⟨rfl,Xb⟩;subst Xb;go_wp2;go_ret2;exact⟨by rw [(ae HX).1,(ae HX).2];rfl,ae aL⟩
  ·obtain rfl:k=8:=by omega
   have hp8:P=8:=cF.unique (ae HF) ⟨hk,bB,fun h=>absurd h (Nat.lt_irrefl _)⟩;subst hp8;have aQ:=af ao;clear bB HF ao;go_wp2;go_ret2;exact⟨rfl,ae aQ⟩
theorem sG(a:Option Addr)(cap:Nat)(L:List Int)(w:World)(hb:Bs w a cap L)(hf:aB L) :
  Calls Tryz.prog 88 #[.slice a L.length cap] w fun e w'=>e=.returned (.tuple #[.int .i64 (Uk (AX L)),aR (if AX L=8 then 4 else 0)])/\Below w.heap.size w w':=by
 have hl:=hf.len;have hz8:(ag 8).length=8:=aj 8;have Nb:Sem.run Tryz.prog (Instr.makeSlice 30 (.int .i64 8) (.int .i64 8)) w=.ok (.slice (some ⟨w.heap.size,0,none⟩) 8 8) (Dq w 8):=mR w 8 (by decide);have hbz:=(y8 w 8).bs (bW 8) (by rw [hz8];decide);have GU:=rJ w 8;have hp:=iX a (some ⟨w.heap.size,0,none⟩) cap (ag 8).length L (ag 8) (Dq w 8) (hb.below GU) hbz hz8 hl.1 hl.2;rw [VA hf,hz8] at hp;have HP:=af hp;have BF:=af GU;have Ci:=Ns L;clear hb hf hz8 hbz GU hp;generalize Dq w 8=W0 at *;generalize AX L=P at *;generalize L.length=N at *;by_cases h8:P=8
 ·have hd:decide (P<8)=false:=decide_eq_false (by omega);have JG:Uk P=0:=if_pos h8;rw [if_pos h8,aC 4 (by decide),JG];rw [hd,JG] at HP;clear h8 hd JG Ci;go_enter Tryz.func88,Tryz.ntmps88
  go_wp2_with fail
  refine(ae HP).mono ?_;rintro e w1 ⟨rfl,ay⟩;have aL:=zTr BF ay;clear ay HP BF;go_wp2;go_ret2;exact⟨rfl,ae aL⟩
 ·have hd:decide (P<8)=true:=decide_eq_true (by omega);rw [if_neg h8,aA];rw [hd] at HP;clear h8 hd Ci;generalize Uk P=x at *;go_enter Tryz.func88,Tryz.ntmps88
  go_wp2_with fail
  refine(ae HP).mono ?_;rintro e w1 ⟨rfl,ay⟩;have aL:=zTr BF ay;clear ay HP BF;go_wp2;go_ret2;exact⟨rfl,ae aL⟩
section
variable {w:World} {B p g c:Nat} {L:List Int}
theorem vS(h:Hp w B p g c L)(hB:B<=w.heap.size)(i:Nat)(r:(ByteArray×Int))(hs:r.1.size<=140737488351232)(h0:BI L i r=0)(hf:aB (je L i r)) :
  Calls Tryz.prog 89 #[.pointer (some ⟨p,0,none⟩),.int .i64 i,.agg #[.string r.1,.int .i64 r.2]] w fun e w'=>e=.returned .nilIface/\∃ g' c',Hp w' B p g' c' (je L i r)/\aE (bA p g) (bA p g') w w':=by
 have mJ:Below w.heap.size w (w.alloc (.cells #[.string r.1,.int .i64 r.2] 152)):=zBr.alloc zNr _;have fS:=h.kV;have hlen:=h.len;have pM:=FG h0;have Cm:(w.alloc (.cells #[.string r.1,.int .i64 r.2] 152)).cell? ⟨w.heap.size,0,none⟩=some (.string r.1):=by rw [cell_of_row _ _ _ _ _ _ (heap_alloc_new w _)];rfl
 have dR:(w.alloc (.cells #[.string r.1,.int .i64 r.2] 152)).cell? ⟨w.heap.size,1,none⟩=some (.int .i64 r.2):=by rw [cell_of_row _ _ _ _ _ _ (heap_alloc_new w _)];rfl
 have ic:=af (fun(W:World) (hW:Below w.heap.size w W)=>cZ p g c B L W (h.below hW));have HPR:Hid (∀ (W W':World) a' c',Below w.heap.size w W->cj W W'.heap.size (.slice a' L.length c') L->Calls Tryz.prog 105 #[.slice a' L.length c',.int .i64 i,.agg #[.string r.1,.int .i64 r.2]] W fun e w'=>∃ a2 c2,e=.returned (.tuple #[.slice a2 L.length c2,.nilIface])/\Bs w' a2 c2 (je L i r)/\Below w.heap.size w w'/\Below W.heap.size W w'):=af (fun W W' a' c' hW hO=>by obtain⟨a2,c2,e2,aK⟩:=hO.bs fS (by omega);simp only [Value.slice.injEq,true_and] at e2;obtain⟨rfl,rfl⟩:=e2;have:=pr a' c' L i r W aK hs;rw [h0,aA] at this;refine this.mono ?_;rintro e w' ⟨a3,c3,rfl,bR,hb⟩;exact⟨a3,c3,by rw [pM],bR,hW.trans (hb.mono hW.size),hb⟩);have HRP:Hid (∀ W a2 c2,Below w.heap.size w W->Bs W a2 c2 (je L i r)->Calls Tryz.prog 37 #[.pointer (some ⟨p,0,none⟩),.slice a2 L.length c2] W fun e w'=>e=.returned .nilIface/\∃ g' c',Hp w' B p g' c' (je L i r)/\aE (bA p g) (bA p g') w w'):=af (fun W a2 c2 hW hb=>by have:=pz (h.below hW) (Nat.le_trans hB hW.size) hb hf pM;rw [pM] at this;refine this.mono ?_;rintro e w' ⟨rfl,g',c',hh,ht⟩;exact⟨rfl,g',c',hh,(aE.aW hW).trans ht⟩);have iw:=af mJ;obtain⟨rs,rh⟩:=r;dsimp only at *;clear h hf h0 fS pM hB;generalize je L i (rs,rh)=PL at *;generalize L.length=N at *;go_enter Tryz.func89,Tryz.ntmps89
 go_wp2_with fail
 generalize hwx:w.alloc (.cells #[.string rs,.int .i64 rh] 152)=wx at *;have KV:Hid (Calls Tryz.prog 9 #[.pointer (some ⟨p,0,none⟩)] wx.drew fun e w'=>∃ a' c',e=.returned (.slice a' N c')/\w'.cell? ⟨w.heap.size,0,none⟩=some (.string rs)/\w'.cell? ⟨w.heap.size,1,none⟩=some (.int .i64 rh)/\Hid (Calls Tryz.prog 105 #[.slice a' N c',.int .i64 i,.agg #[.string rs,.int .i64 rh]] w' fun e w'=>∃ a2 c2,e=.returned (.tuple #[.slice a2 N c2,.nilIface])/\w'.cell? ⟨w.heap.size,0,none⟩=some (.string rs)/\w'.cell? ⟨w.heap.size,1,none⟩=some (.int .i64 rh)/\Hid (Bs w' a2 c2 PL/\Below w.heap.size w w'))):=af (by have hd:=bq (ae iw);refine(ae ic wx.drew hd).mono ?_;rintro e w1 ⟨a',c',rfl,ho,ay⟩;have dm:=hd.trans (ay.mono hd.size);have Cf:=(ay.cell (p:=⟨w.heap.size,0,none⟩) (block_lt_of_cell Cm)).trans Cm;have hq1:=(ay.cell (p:=⟨w.heap.size,1,none⟩) (block_lt_of_cell dR)).trans dR;refine⟨a',c',rfl,Cf,hq1,af ((ae HPR w1 wx.drew a' c' dm ho).mono ?_)⟩;rintro e w2 ⟨a2,c2,rfl,fD,aK,GU⟩;exact⟨a2,c2,rfl,(GU.cell (p:=⟨w.heap.size,0,none⟩) (block_lt_of_cell Cf)).trans Cf,(GU.cell (p:=⟨w.heap.size,1,none⟩) (block_lt_of_cell hq1)).trans hq1,af ⟨fD,aK⟩⟩);clear ic HPR mJ iw;go_region_held3 (fun w'=>w'.cell? ⟨w.heap.size,0,none⟩=some (.string rs)/\w'.cell? ⟨w.heap.size,1,none⟩=some (.int .i64 rh)) (first | go_keep | (go_split_ands;refine⟨?_,?_⟩ <;> go_keep))
  (first | (go_at_call 9;refine(ae KV).mono ?_;rintro e w1 ⟨a',c',rfl,r0,r1,lK⟩) | (go_at_call 105;refine(ae lK).mono ?_;rintro e w2 ⟨a2,c2,rfl,s0,s1,HX2⟩))
 have zjr:=af (ae HRP w2 a2 c2 (ae HX2).2 (ae HX2).1);clear HX2 HRP s0 s1 r0 r1 KV lK;go_wp2_with fail
 refine(ae zjr).mono ?_;rintro e w3 ⟨rfl,g',c',hh,ht⟩;have HH:=af hh;have HT:=af ht;clear hh ht zjr;go_wp2;go_ret;exact⟨rfl,g',c',ae HH,ae HT⟩
theorem U7(p:Nat)(s:ByteArray)(x:Int)(w:World)(hn:du s=false)(hs:s.size<=140737488351232) :
  Calls Tryz.prog 31 #[.pointer (some ⟨p,0,none⟩),.string s,.int .i64 x] w fun e w'=>e=.returned (.tuple #[.bool false,aR 2])/\Below w.heap.size w w':=by
 have HP:=af (lC s w hs (fun h=>by rw [bZ.2 h] at hn;cases hn));rw [aC 2 (by decide)];clear hn;go_enter Tryz.func31,Tryz.ntmps31
 go_wp2_with fail
 refine(ae HP).mono ?_;rintro e w1 ⟨rfl,ay⟩;have aL:=af ay;clear ay HP;go_wp2;go_ret2;exact⟨rfl,ae aL⟩
theorem zaF(h:Hp w B p g c L)(s:ByteArray)(x:Int)(hn:du s=true)(hs:s.size<=140737488351232)(hc:aP L x≠0) :
  Calls Tryz.prog 31 #[.pointer (some ⟨p,0,none⟩),.string s,.int .i64 x] w fun e w'=>e=.returned (.tuple #[.bool false,aR (aP L x)])/\Below w.heap.size w w':=by
 have HP:=af (iY s w hs (bf s) 0 (.inl ⟨bZ.1 hn,rfl,rfl⟩));rw [aA] at HP;have HT:=af (fun(W:World) (hW:Below w.heap.size w W)=>oz p g c B L x W (h.below hW));rw [aC _ hc] at HT ⊢;clear hn h hc;generalize (gz L x).2.2.2=T at *;generalize aP L x=X at *;generalize bf s=NL at *;go_enter Tryz.func31,Tryz.ntmps31
 go_wp2_with fail
 refine(ae HP).mono ?_;rintro e w1 ⟨a1,c1,rfl,_,ay⟩;have EG:=af (ae HT w1 ay);have aL:=af ay;clear ay HP HT;go_wp2_with fail
 refine(ae EG).mono ?_;rintro e w2 ⟨rfl,aK⟩;have br:=zTr aL aK;clear aK EG aL;go_wp2;go_ret2;exact⟨rfl,ae br⟩
theorem Q8(h:Hp w B p g c L)(hB:B<=w.heap.size)(s:ByteArray)(x:Int)(hn:du s=true)(hs:s.size<=140737488351232)(hc:aP L x=0)(hp:ij L s<8) :
  Calls Tryz.prog 31 #[.pointer (some ⟨p,0,none⟩),.string s,.int .i64 x] w fun e w'=>e=.returned (.tuple #[.bool false,.nilIface])/\∃ g' c',Hp w' B p g' c' (oO L s x)/\aE (bA p g) (bA p g') w w':=by
 have wI:(bf s).length=8:=bD s (bZ.1 hn).2.1;have HP:Hid (Calls Tryz.prog 85 #[.string s] w fun e w'=>∃ a c,e=.returned (.tuple #[.slice a 8 c,.nilIface])/\Bs w' a c (bf s)/\Below w.heap.size w w'):=af (by have:=iY s w hs (bf s) 0 (.inl ⟨bZ.1 hn,rfl,rfl⟩);rw [aA] at this;exact this.mono fun e w' ⟨a,c,he,hb,hw⟩=>⟨a,c,by rw [he,wI],hb,hw⟩);have HT:=af (fun(W:World) (hW:Below w.heap.size w W)=>oz p g c B L x W (h.below hW));rw [hc,aA] at HT;have ic:=af (fun(W:World) (hW:Below w.heap.size w W)=>cZ p g c B L W (h.below hW));have hlen:=h.len;have fS:=h.kV;have yw:Hid (∀ (W:World) (la a':Option Addr) (lc c':Nat),Bs W la lc (bf s)->Bs W a' c' L->Calls Tryz.prog 87 #[.slice a' L.length c',.slice la 8 lc] W fun e w'=>e=.returned (.tuple #[.int .i64 (ij L s),.bool true])/\Below W.heap.size W w'):=af (fun W la a' lc c' h1 h2=>by have:=iX a' la c' lc L (bf s) W h2 h1 wI hlen.1 hlen.2.1;rw [qB fS hn,show Uk (ij L s)=(ij L s:Int) from if_neg (by omega),decide_eq_true hp] at this;exact this);have hI:nO L s=ij L s:=by unfold nO;rw [if_pos hp]
 have h0:oV L s x=0:=by unfold oV;rw [if_neg (by rw [hn];simp),if_neg (fun h=>h hc),hI,if_neg (by omega)]
 obtain⟨g1,g2,_,_⟩:=qw h.aV h0;obtain⟨k1,k2⟩:=Vd h.aV h0;have lh:Hid (∀ W,Below w.heap.size w W->Calls Tryz.prog 89 #[.pointer (some ⟨p,0,none⟩),.int .i64 (ij L s),.agg #[.string s,.int .i64 x]] W fun e w'=>e=.returned .nilIface/\∃ g' c',Hp w' B p g' c' (oO L s x)/\aE (bA p g) (bA p g') w w'):=af (fun W hW=>by rw [hI] at g1 k1 k2;have:=vS (h.below hW) (Nat.le_trans hB hW.size) (ij L s) (s,x) hs g1 k2;rw [k1] at this;refine this.mono ?_;rintro e w' ⟨rfl,g',c',hh,ht⟩;exact⟨rfl,g',c',hh,(aE.aW hW).trans ht⟩);clear g1 g2 k1 k2 h0 hI;have BW:Hid (∀ (W:World) (D:Nat) (a':Option Addr) (c':Nat),cj W D (.slice a' L.length c') L->Bs W a' c' L):=af (fun W D a' c' ho=>by obtain⟨a2,c2,e2,aK⟩:=ho.bs fS (by omega);simp only [Value.slice.injEq,true_and] at e2;obtain⟨rfl,rfl⟩:=e2;exact aK);clear h hn hc hB fS wI hp;generalize (gz L x).2.2.2=T at *;generalize bf s=NL at *;generalize oO L s x=SB at *;generalize ij L s=P at *;generalize L.length=N at *;go_enter Tryz.func31,Tryz.ntmps31
 go_wp2_with fail
 refine(ae HP).mono ?_;rintro e w1 ⟨a1,c1,rfl,jN,ay⟩;have EG:=af (ae HT w1 ay);have BY:=af jN;have aL:=af ay;clear ay jN HP HT;go_wp2_with fail
 refine(ae EG).mono ?_;rintro e w2 ⟨rfl,aK⟩;have cD:=zTs aL aK;have Cz:=af ((ae BY).below aK);have sk:=af (ae ic w2 cD);have br:=af cD;clear aK cD EG aL BY ic;go_wp2_with fail
 refine(ae sk).mono ?_;rintro e w3 ⟨a3,c3,rfl,uL,bR⟩;have j7:=ae BW w3 _ a3 c3 uL;have vq:=af (ae yw w3 a1 a3 c1 c3 ((ae Cz).below bR) j7);have HS3:=af j7;have cT:=zTr br bR;clear uL j7 bR sk br Cz yw BW;go_wp2_with fail
 refine(ae vq).mono ?_;rintro e w4 ⟨rfl,dO⟩;have np:=zTs cT dO;have KQ:=af (ae lh w4 np);clear dO np vq cT HS3 lh;go_wp2_with fail
 refine(ae KQ).mono ?_;rintro e w5 ⟨rfl,g',c',hh,ht⟩;have HH:=af hh;have Uw:=af ht;clear hh ht KQ;go_wp2;go_ret2;exact⟨rfl,g',c',ae HH,ae Uw⟩
theorem zaG(h:Hp w B p g c L)(hB:B<=w.heap.size)(s:ByteArray)(x:Int)(hn:du s=true)(hs:s.size<=140737488351232)(hc:aP L x=0)(hp:ij L s=8)(hf:AX L<8) :
  Calls Tryz.prog 31 #[.pointer (some ⟨p,0,none⟩),.string s,.int .i64 x] w fun e w'=>e=.returned (.tuple #[.bool true,.nilIface])/\∃ g' c',Hp w' B p g' c' (oO L s x)/\aE (bA p g) (bA p g') w w':=by
 have wI:(bf s).length=8:=bD s (bZ.1 hn).2.1;have HP:Hid (Calls Tryz.prog 85 #[.string s] w fun e w'=>∃ a c,e=.returned (.tuple #[.slice a 8 c,.nilIface])/\Bs w' a c (bf s)/\Below w.heap.size w w'):=af (by have:=iY s w hs (bf s) 0 (.inl ⟨bZ.1 hn,rfl,rfl⟩);rw [aA] at this;exact this.mono fun e w' ⟨a,c,he,hb,hw⟩=>⟨a,c,by rw [he,wI],hb,hw⟩);have HT:=af (fun(W:World) (hW:Below w.heap.size w W)=>oz p g c B L x W (h.below hW));rw [hc,aA] at HT;have ic:=af (fun(W:World) (hW:Below w.heap.size w W)=>cZ p g c B L W (h.below hW));have hlen:=h.len;have fS:=h.kV;have yw:Hid (∀ (W:World) (la a':Option Addr) (lc c':Nat),Bs W la lc (bf s)->Bs W a' c' L->Calls Tryz.prog 87 #[.slice a' L.length c',.slice la 8 lc] W fun e w'=>e=.returned (.tuple #[.int .i64 0,.bool false])/\Below W.heap.size W w'):=af (fun W la a' lc c' h1 h2=>by have:=iX a' la c' lc L (bf s) W h2 h1 wI hlen.1 hlen.2.1;rw [qB fS hn,show Uk (ij L s)=0 from if_pos hp,decide_eq_false (show ¬ ij L s<8 by omega)] at this;exact this);have HFN:Hid (∀ (W:World) (a':Option Addr) (c':Nat),Bs W a' c' L->Calls Tryz.prog 88 #[.slice a' L.length c'] W fun e w'=>e=.returned (.tuple #[.int .i64 (AX L),.nilIface])/\Below W.heap.size W w'):=af (fun W a' c' hb=>by have:=sG a' c' L W hb h.aV;rw [show Uk (AX L)=(AX L:Int) from if_neg (by omega),if_neg (by omega),aA] at this;exact this);have hI:nO L s=AX L:=by unfold nO;rw [if_neg (by omega)]
 have h0:oV L s x=0:=by unfold oV;rw [if_neg (by rw [hn];simp),if_neg (fun h=>h hc),hI,if_neg (by omega)]
 obtain⟨g1,g2,_,_⟩:=qw h.aV h0;obtain⟨k1,k2⟩:=Vd h.aV h0;have lh:Hid (∀ W,Below w.heap.size w W->Calls Tryz.prog 89 #[.pointer (some ⟨p,0,none⟩),.int .i64 (AX L),.agg #[.string s,.int .i64 x]] W fun e w'=>e=.returned .nilIface/\∃ g' c',Hp w' B p g' c' (oO L s x)/\aE (bA p g) (bA p g') w w'):=af (fun W hW=>by rw [hI] at g1 k1 k2;have:=vS (h.below hW) (Nat.le_trans hB hW.size) (AX L) (s,x) hs g1 k2;rw [k1] at this;refine this.mono ?_;rintro e w' ⟨rfl,g',c',hh,ht⟩;exact⟨rfl,g',c',hh,(aE.aW hW).trans ht⟩);clear g1 g2 k1 k2 h0 hI;have BW:Hid (∀ (W:World) (D:Nat) (a':Option Addr) (c':Nat),cj W D (.slice a' L.length c') L->Bs W a' c' L):=af (fun W D a' c' ho=>by obtain⟨a2,c2,e2,aK⟩:=ho.bs fS (by omega);simp only [Value.slice.injEq,true_and] at e2;obtain⟨rfl,rfl⟩:=e2;exact aK);clear h hn hc hB fS wI hp hf;generalize (gz L x).2.2.2=T at *;generalize bf s=NL at *;generalize oO L s x=SB at *;generalize AX L=P at *;generalize L.length=N at *;go_enter Tryz.func31,Tryz.ntmps31
 go_wp2_with fail
 refine(ae HP).mono ?_;rintro e w1 ⟨a1,c1,rfl,jN,ay⟩;have EG:=af (ae HT w1 ay);have BY:=af jN;have aL:=af ay;clear ay jN HP HT;go_wp2_with fail
 refine(ae EG).mono ?_;rintro e w2 ⟨rfl,aK⟩;have cD:=zTs aL aK;have Cz:=af ((ae BY).below aK);have sk:=af (ae ic w2 cD);have br:=af cD;clear aK cD EG aL BY ic;go_wp2_with fail
 refine(ae sk).mono ?_;rintro e w3 ⟨a3,c3,rfl,uL,bR⟩;have j7:=ae BW w3 _ a3 c3 uL;have vq:=af (ae yw w3 a1 a3 c1 c3 ((ae Cz).below bR) j7);have HS3:=af j7;have cT:=zTr br bR;clear uL j7 bR sk br Cz yw BW;go_wp2_with fail
 refine(ae vq).mono ?_;rintro e w4 ⟨rfl,dO⟩;have np:=zTs cT dO;have ZH:=af (ae HFN w4 a3 c3 ((ae HS3).below dO));have ez:=af np;clear dO np vq cT HS3 HFN;go_wp2_with fail
 refine(ae ZH).mono ?_;rintro e w5 ⟨rfl,gJ⟩;have zdc:=af (ae lh w5 (zTs ez gJ));clear gJ ZH ez lh;go_wp2_with fail
 refine(ae zdc).mono ?_;rintro e w6 ⟨rfl,g',c',hh,ht⟩;have HH:=af hh;have Uw:=af ht;clear hh ht zdc;go_wp2;go_ret2;exact⟨rfl,g',c',ae HH,ae Uw⟩
theorem U8(h:Hp w B p g c L)(hB:B<=w.heap.size)(s:ByteArray)(x:Int)(hn:du s=true)(hs:s.size<=140737488351232)(hc:aP L x=0)(hp:ij L s=8)(hf:AX L=8) :
  Calls Tryz.prog 31 #[.pointer (some ⟨p,0,none⟩),.string s,.int .i64 x] w fun e w'=>e=.returned (.tuple #[.bool false,aR 4])/\Below w.heap.size w w':=by
 have wI:(bf s).length=8:=bD s (bZ.1 hn).2.1;have HP:Hid (Calls Tryz.prog 85 #[.string s] w fun e w'=>∃ a c,e=.returned (.tuple #[.slice a 8 c,.nilIface])/\Bs w' a c (bf s)/\Below w.heap.size w w'):=af (by have:=iY s w hs (bf s) 0 (.inl ⟨bZ.1 hn,rfl,rfl⟩);rw [aA] at this;exact this.mono fun e w' ⟨a,c,he,hb,hw⟩=>⟨a,c,by rw [he,wI],hb,hw⟩);have HT:=af (fun(W:World) (hW:Below w.heap.size w W)=>oz p g c B L x W (h.below hW));rw [hc,aA] at HT;have ic:=af (fun(W:World) (hW:Below w.heap.size w W)=>cZ p g c B L W (h.below hW));have hlen:=h.len;have fS:=h.kV;have yw:Hid (∀ (W:World) (la a':Option Addr) (lc c':Nat),Bs W la lc (bf s)->Bs W a' c' L->Calls Tryz.prog 87 #[.slice a' L.length c',.slice la 8 lc] W fun e w'=>e=.returned (.tuple #[.int .i64 0,.bool false])/\Below W.heap.size W w'):=af (fun W la a' lc c' h1 h2=>by have:=iX a' la c' lc L (bf s) W h2 h1 wI hlen.1 hlen.2.1;rw [qB fS hn,show Uk (ij L s)=0 from if_pos hp,decide_eq_false (show ¬ ij L s<8 by omega)] at this;exact this);have HFN:Hid (∀ (W:World) (a':Option Addr) (c':Nat),Bs W a' c' L->Calls Tryz.prog 88 #[.slice a' L.length c'] W fun e w'=>e=.returned (.tuple #[.int .i64 0,.iface 81 (.int .i64 4)])/\Below W.heap.size W w'):=af (fun W a' c' hb=>by have:=sG a' c' L W hb h.aV;rw [show Uk (AX L)=0 from if_pos hf,if_pos hf,aC 4 (by decide)] at this;exact this);rw [aC 4 (by decide)];have BW:Hid (∀ (W:World) (D:Nat) (a':Option Addr) (c':Nat),cj W D (.slice a' L.length c') L->Bs W a' c' L):=af (fun W D a' c' ho=>by obtain⟨a2,c2,e2,aK⟩:=ho.bs fS (by omega);simp only [Value.slice.injEq,true_and] at e2;obtain⟨rfl,rfl⟩:=e2;exact aK);clear h hn hc hB fS wI hp hf;generalize (gz L x).2.2.2=T at *;generalize bf s=NL at *;generalize L.length=N at *;go_enter Tryz.func31,Tryz.ntmps31
 go_wp2_with fail
 refine(ae HP).mono ?_;rintro e w1 ⟨a1,c1,rfl,jN,ay⟩;have EG:=af (ae HT w1 ay);have BY:=af jN;have aL:=af ay;clear ay jN HP HT;go_wp2_with fail
 refine(ae EG).mono ?_;rintro e w2 ⟨rfl,aK⟩;have cD:=zTs aL aK;have Cz:=af ((ae BY).below aK);have sk:=af (ae ic w2 cD);have br:=af cD;clear aK cD EG aL BY ic;go_wp2_with fail
 refine(ae sk).mono ?_;rintro e w3 ⟨a3,c3,rfl,uL,bR⟩;have j7:=ae BW w3 _ a3 c3 uL;have vq:=af (ae yw w3 a1 a3 c1 c3 ((ae Cz).below bR) j7);have HS3:=af j7;have cT:=zTr br bR;clear uL j7 bR sk br Cz yw BW;go_wp2_with fail
 refine(ae vq).mono ?_;rintro e w4 ⟨rfl,dO⟩;have np:=zTs cT dO;have ZH:=af (ae HFN w4 a3 c3 ((ae HS3).below dO));have ez:=af np;clear dO np vq cT HS3 HFN;go_wp2_with fail
 refine(ae ZH).mono ?_;rintro e w5 ⟨rfl,gJ⟩;have lj:=zTr ez gJ;clear gJ ZH ez;go_wp2;go_ret2;exact⟨rfl,ae lj⟩
theorem C2(h:Hp w B p g c L)(hB:B<=w.heap.size)(s:ByteArray)(x:Int)(hs:s.size<=140737488351232) :
  Calls Tryz.prog 31 #[.pointer (some ⟨p,0,none⟩),.string s,.int .i64 x] w fun e w'=>e=.returned (.tuple #[.bool (seO L s x),aR (oV L s x)])/\∃ g' c',Hp w' B p g' c' (KX L s x)/\aE (bA p g) (bA p g') w w':=by
 have key:∀ E:Int,E≠0->oV L s x=E->Calls Tryz.prog 31 #[.pointer (some ⟨p,0,none⟩),.string s,.int .i64 x] w (fun e w'=>e=.returned (.tuple #[.bool false,aR E])/\Below w.heap.size w w')->Calls Tryz.prog 31 #[.pointer (some ⟨p,0,none⟩),.string s,.int .i64 x] w fun e w'=>e=.returned (.tuple #[.bool (seO L s x),aR (oV L s x)])/\∃ g' c',Hp w' B p g' c' (KX L s x)/\aE (bA p g) (bA p g') w w':=fun E hE he dj=>by
  have e1:seO L s x=false:=by unfold seO;rw [he,decide_eq_false hE];rfl
  have e2:KX L s x=L:=by unfold KX;rw [he,if_neg hE]
  rw [e1,e2,he];refine dj.mono ?_;rintro e w' ⟨rfl,hb⟩;exact⟨rfl,g,c,h.below hb,aE.aW hb⟩
 cases hn:du s with
 | false=>exact key 2 (by decide) (by unfold oV;rw [hn];rfl) (U7 p s x w hn hs)
 | true =>
  by_cases hc:aP L x=0
  ·have hle:=s9 L s;have hlf:=Ns L;by_cases hp:ij L s<8
   ·have hI:nO L s=ij L s:=by unfold nO;rw [if_pos hp]
    have h0:oV L s x=0:=by unfold oV;rw [if_neg (by rw [hn];simp),if_neg (fun h=>h hc),hI,if_neg (by omega)]
    have e1:seO L s x=false:=by unfold seO O1;rw [decide_eq_false (show ¬ ij L s=8 by omega),Bool.and_false]
    have e2:KX L s x=oO L s x:=by unfold KX;rw [if_pos h0]
    rw [e1,e2,h0,aA];exact Q8 h hB s x hn hs hc hp
   ·have hp8:ij L s=8:=by omega
    have hI:nO L s=AX L:=by unfold nO;rw [if_neg hp]
    by_cases hf:AX L<8
    ·have h0:oV L s x=0:=by unfold oV;rw [if_neg (by rw [hn];simp),if_neg (fun h=>h hc),hI,if_neg (by omega)]
     have e1:seO L s x=true:=by unfold seO O1;rw [decide_eq_true hp8,decide_eq_true h0];rfl
     have e2:KX L s x=oO L s x:=by unfold KX;rw [if_pos h0]
     rw [e1,e2,h0,aA];exact zaG h hB s x hn hs hc hp8 hf
    ·have hf8:AX L=8:=by omega
     exact key 4 (by decide) (by unfold oV;rw [if_neg (by rw [hn];simp),if_neg (fun h=>h hc),hI,if_pos hf8]) (U8 h hB s x hn hs hc hp8 hf8)
  ·exact key _ hc (by unfold oV;rw [if_neg (by rw [hn];simp),if_pos hc]) (zaF h s x hn hs hc)
end
section
variable {w:World} {B p g c:Nat} {L:List Int}
theorem Lq(p:Nat)(s:ByteArray)(w:World)(hn:du s=false)(hs:s.size<=140737488351232) :
  Calls Tryz.prog 32 #[.pointer (some ⟨p,0,none⟩),.string s] w fun e w'=>e=.returned (aR 2)/\Below w.heap.size w w':=by
 have HP:=af (lC s w hs (fun h=>by rw [bZ.2 h] at hn;cases hn));rw [aC 2 (by decide)];clear hn;go_enter Tryz.func32,Tryz.ntmps32
 go_wp2_with fail
 refine(ae HP).mono ?_;rintro e w1 ⟨rfl,ay⟩;have aL:=af ay;clear ay HP;go_wp2;go_ret;exact⟨rfl,ae aL⟩
theorem US(h:Hp w B p g c L)(hB:B<=w.heap.size)(s:ByteArray)(hn:du s=true)(hs:s.size<=140737488351232)(hp:ij L s=8) :
  Calls Tryz.prog 32 #[.pointer (some ⟨p,0,none⟩),.string s] w fun e w'=>e=.returned (aR 5)/\Below w.heap.size w w':=by
 have wI:(bf s).length=8:=bD s (bZ.1 hn).2.1;have HP:Hid (Calls Tryz.prog 85 #[.string s] w fun e w'=>∃ a c,e=.returned (.tuple #[.slice a 8 c,.nilIface])/\Bs w' a c (bf s)/\Below w.heap.size w w'):=af (by have:=iY s w hs (bf s) 0 (.inl ⟨bZ.1 hn,rfl,rfl⟩);rw [aA] at this;exact this.mono fun e w' ⟨a,c,he,hb,hw⟩=>⟨a,c,by rw [he,wI],hb,hw⟩);have ic:=af (fun(W:World) (hW:Below w.heap.size w W)=>cZ p g c B L W (h.below hW));have hlen:=h.len;have fS:=h.kV;have yw:Hid (∀ (W:World) (la a':Option Addr) (lc c':Nat),Bs W la lc (bf s)->Bs W a' c' L->Calls Tryz.prog 87 #[.slice a' L.length c',.slice la 8 lc] W fun e w'=>e=.returned (.tuple #[.int .i64 0,.bool false])/\Below W.heap.size W w'):=af (fun W la a' lc c' h1 h2=>by have:=iX a' la c' lc L (bf s) W h2 h1 wI hlen.1 hlen.2.1;rw [qB fS hn,show Uk (ij L s)=0 from if_pos hp,decide_eq_false (show ¬ ij L s<8 by omega)] at this;exact this);rw [aC 5 (by decide)];have BW:Hid (∀ (W:World) (D:Nat) (a':Option Addr) (c':Nat),cj W D (.slice a' L.length c') L->Bs W a' c' L):=af (fun W D a' c' ho=>by obtain⟨a2,c2,e2,aK⟩:=ho.bs fS (by omega);simp only [Value.slice.injEq,true_and] at e2;obtain⟨rfl,rfl⟩:=e2;exact aK);clear h hn hB fS wI hp;generalize bf s=NL at *;generalize L.length=N at *;go_enter Tryz.func32,Tryz.ntmps32
 go_wp2_with fail
 refine(ae HP).mono ?_;rintro e w1 ⟨a1,c1,rfl,jN,ay⟩;have sk:=af (ae ic w1 ay);have Cz:=af jN;have br:=af ay;clear ay jN HP ic;go_wp2_with fail
 refine(ae sk).mono ?_;rintro e w3 ⟨a3,c3,rfl,uL,bR⟩;have j7:=ae BW w3 _ a3 c3 uL;have vq:=af (ae yw w3 a1 a3 c1 c3 ((ae Cz).below bR) j7);have cT:=zTr br bR;clear uL j7 bR sk br Cz yw BW;go_wp2_with fail
 refine(ae vq).mono ?_;rintro e w4 ⟨rfl,dO⟩;have np:=zTs cT dO;have ez:=af np;clear dO np vq cT;go_wp2;go_ret;exact⟨rfl,ae ez⟩
theorem QN(h:Hp w B p g c L)(hB:B<=w.heap.size)(s:ByteArray)(hn:du s=true)(hs:s.size<=140737488351232)(hp:ij L s<8) :
  Calls Tryz.prog 32 #[.pointer (some ⟨p,0,none⟩),.string s] w fun e w'=>e=.returned .nilIface/\∃ g' c',Hp w' B p g' c' (Lr L s)/\aE (bA p g) (bA p g') w w':=by
 have wI:(bf s).length=8:=bD s (bZ.1 hn).2.1;have HP:Hid (Calls Tryz.prog 85 #[.string s] w fun e w'=>∃ a c,e=.returned (.tuple #[.slice a 8 c,.nilIface])/\Bs w' a c (bf s)/\Below w.heap.size w w'):=af (by have:=iY s w hs (bf s) 0 (.inl ⟨bZ.1 hn,rfl,rfl⟩);rw [aA] at this;exact this.mono fun e w' ⟨a,c,he,hb,hw⟩=>⟨a,c,by rw [he,wI],hb,hw⟩);have ic:=af (fun(W:World) (hW:Below w.heap.size w W)=>cZ p g c B L W (h.below hW));have hlen:=h.len;have fS:=h.kV;have yw:Hid (∀ (W:World) (la a':Option Addr) (lc c':Nat),Bs W la lc (bf s)->Bs W a' c' L->Calls Tryz.prog 87 #[.slice a' L.length c',.slice la 8 lc] W fun e w'=>e=.returned (.tuple #[.int .i64 (ij L s),.bool true])/\Below W.heap.size W w'):=af (fun W la a' lc c' h1 h2=>by have:=iX a' la c' lc L (bf s) W h2 h1 wI hlen.1 hlen.2.1;rw [qB fS hn,show Uk (ij L s)=(ij L s:Int) from if_neg (by omega),decide_eq_true hp] at this;exact this);have h0:B1 L s=0:=by unfold B1;rw [if_neg (by rw [hn];simp),if_neg (by omega)]
 have hfu:=yW h.aV h0;obtain⟨g1,g2⟩:=zdq h.aV hp;have lh:Hid (∀ W,Below w.heap.size w W->Calls Tryz.prog 89 #[.pointer (some ⟨p,0,none⟩),.int .i64 (ij L s),.agg #[.string { data:=#[]},.int .i64 0]] W fun e w'=>e=.returned .nilIface/\∃ g' c',Hp w' B p g' c' (Lr L s)/\aE (bA p g) (bA p g') w w'):=af (fun W hW=>by have:=vS (h.below hW) (Nat.le_trans hB hW.size) (ij L s) (({ data:=#[]}:ByteArray),0) (by decide) g1 (by rw [g2];exact hfu);rw [g2] at this;refine this.mono ?_;rintro e w' ⟨rfl,g',c',hh,ht⟩;exact⟨rfl,g',c',hh,(aE.aW hW).trans ht⟩);clear g1 g2 h0 hfu;have BW:Hid (∀ (W:World) (D:Nat) (a':Option Addr) (c':Nat),cj W D (.slice a' L.length c') L->Bs W a' c' L):=af (fun W D a' c' ho=>by obtain⟨a2,c2,e2,aK⟩:=ho.bs fS (by omega);simp only [Value.slice.injEq,true_and] at e2;obtain⟨rfl,rfl⟩:=e2;exact aK);clear h hn hB fS wI hp;generalize bf s=NL at *;generalize Lr L s=SB at *;generalize ij L s=P at *;generalize L.length=N at *;go_enter Tryz.func32,Tryz.ntmps32
 go_wp2_with fail
 refine(ae HP).mono ?_;rintro e w1 ⟨a1,c1,rfl,jN,ay⟩;have sk:=af (ae ic w1 ay);have Cz:=af jN;have br:=af ay;clear ay jN HP ic;go_wp2_with fail
 refine(ae sk).mono ?_;rintro e w3 ⟨a3,c3,rfl,uL,bR⟩;have j7:=ae BW w3 _ a3 c3 uL;have vq:=af (ae yw w3 a1 a3 c1 c3 ((ae Cz).below bR) j7);have cT:=zTr br bR;clear uL j7 bR sk br Cz yw BW;go_wp2_with fail
 refine(ae vq).mono ?_;rintro e w4 ⟨rfl,dO⟩;have np:=zTs cT dO;have KQ:=af (ae lh w4 np);clear dO np vq cT lh;go_wp2_with fail
 refine(ae KQ).mono ?_;rintro e w5 ⟨rfl,g',c',hh,ht⟩;have HH:=af hh;have Uw:=af ht;clear hh ht KQ;go_wp2;go_ret;exact⟨rfl,g',c',ae HH,ae Uw⟩
theorem Iw(h:Hp w B p g c L)(hB:B<=w.heap.size)(s:ByteArray)(hs:s.size<=140737488351232) :
  Calls Tryz.prog 32 #[.pointer (some ⟨p,0,none⟩),.string s] w fun e w'=>e=.returned (aR (B1 L s))/\∃ g' c',Hp w' B p g' c' (Uj L s)/\aE (bA p g) (bA p g') w w':=by
 have key:∀ E:Int,E≠0->B1 L s=E->Calls Tryz.prog 32 #[.pointer (some ⟨p,0,none⟩),.string s] w (fun e w'=>e=.returned (aR E)/\Below w.heap.size w w')->Calls Tryz.prog 32 #[.pointer (some ⟨p,0,none⟩),.string s] w fun e w'=>e=.returned (aR (B1 L s))/\∃ g' c',Hp w' B p g' c' (Uj L s)/\aE (bA p g) (bA p g') w w':=fun E hE he dj=>by
  have e2:Uj L s=L:=by unfold Uj;rw [he,if_neg hE]
  rw [e2,he];refine dj.mono ?_;rintro e w' ⟨rfl,hb⟩;exact⟨rfl,g,c,h.below hb,aE.aW hb⟩
 cases hn:du s with
 | false=>exact key 2 (by decide) (by unfold B1;rw [hn];rfl) (Lq p s w hn hs)
 | true =>
  have hle:=s9 L s;by_cases hp:ij L s<8
  ·have h0:B1 L s=0:=by unfold B1;rw [if_neg (by rw [hn];simp),if_neg (by omega)]
   have e2:Uj L s=Lr L s:=by unfold Uj;rw [if_pos h0]
   rw [e2,h0,aA];exact QN h hB s hn hs hp
  ·have hp8:ij L s=8:=by omega
   exact key 5 (by decide) (by unfold B1;rw [if_neg (by rw [hn];simp),if_pos hp8]) (US h hB s hn hs hp8)
end
theorem bT.Sd{α:Type}{enc:α->List Value}{k T:Nat}{w:World}{B B':Nat}{v:Value}{l:List α}(h:bT enc k T w B' v l)(hB:B<=B'):bT enc k T w B v l:=by
 refine⟨h.1,?_⟩;rcases h.2 with h0 | ⟨g,cap,cur,e,h1,h2⟩
 ·exact .inl h0
 ·exact .inr ⟨g,cap,cur,e,Nat.le_trans hB h1,h2⟩
theorem Ri(p g c B:Nat)(L:List Int)(w:World)(h:Hp w B p g c L) :
  Calls Tryz.prog 245 #[.pointer (some ⟨p,0,none⟩)] w fun e w'=>∃ v,e=.returned v/\bT yC 2 152 w' w.heap.size v (ak L 8)/\Below w.heap.size w w':=by
 have HB:=af (cZ p g c B L w h);have fS:=h.kV;have hlen:=h.len;have hq:=h.aV.cW;have HR:Hid (∀ W a' c',Below w.heap.size w W->cj W w.heap.size (.slice a' L.length c') L->Calls Tryz.prog 43 #[.slice a' L.length c'] W fun e w'=>∃ v,e=.returned (.tuple #[v,.nilIface])/\bT yC 2 152 w' w.heap.size v (ak L 8)/\Below w.heap.size w w'):=af (fun W a' c' hW hO=>by obtain⟨a2,c2,e2,aK⟩:=hO.bs fS (by omega);simp only [Value.slice.injEq,true_and] at e2;obtain⟨rfl,rfl⟩:=e2;refine(mj a' c' L W aK hq).mono ?_;rintro e w' ⟨v,rfl,hl,hb⟩;exact⟨v,rfl,hl.Sd hW.size,hW.trans (hb.mono hW.size)⟩);clear h fS hq;generalize ak L 8=RS at *;generalize hN:L.length=N at *;clear hN;go_enter Tryz.func245,Tryz.ntmps245
 go_wp2_with fail
 refine(ae HB).mono ?_;rintro e w1 ⟨a1,c1,rfl,DY,ay⟩;have vp:=af (ae HR w1 a1 c1 ay DY);clear DY ay HB HR;go_wp2_with fail
 refine(ae vp).mono ?_;rintro e w2 ⟨v2,rfl,lR,aK⟩;obtain⟨va,vm,vc,rfl⟩:=lR.shape;have HL:=af lR;have br:=af aK;clear lR aK vp;go_wp2;go_ret;exact⟨_,rfl,ae HL,ae br⟩
section
variable {w:World} {B p g c:Nat} {L:List Int}
end
end Go.Proofs.YtcimhnnendlblaaGreat
