/-
  Parts of the proofs.
-/
import Derived.Test.YtcimhnnendlblaaGreatJCh
set_option maxRecDepth 100000
set_option maxHeartbeats 16000000
set_option linter.all false
namespace Go.Proofs.YtcimhnnendlblaaGreat
open Go.RowKit
section
open Go.Shelf
theorem Yj(n:Nat)(w:World)(hn:n<=1000) :
  Calls Tryz.prog 157 #[.slice none 0 0,.int .i64 n] w fun r w'=>∃ v,r=.returned v/\bT Cs 2 168 w' w.heap.size v []/\Below w.heap.size w w':=by
 obtain⟨i0,eP,cY,dw,dz⟩:=info_parts uE;by_cases h0:n=0
 ·subst h0;have h:=Any8.slices_Grow_room Yp none 0 0 0 w zNr (by decide) (by decide) zNr;exact h.mono fun r w' ⟨hr,hw⟩=>⟨_,hr,bT.nil _ _,by rw [hw];exact zBr⟩
 ·have h:=Any8.slices_Grow_grow Yp i0 _ eP cY (by omega) none 0 0 n [] w zNr (by omega) (by rw [dz];omega) (by omega) (by simp) (fun _=>rfl) (fun a ha=>by cases ha);refine h.mono fun r w' ⟨hr,hw⟩=>⟨_,hr,?_,by rw [hw];exact(Below.refl _ w).drew.alloc zNr _⟩
  rw [hw];have hz:∀ m:Nat,(Builtin.zeroCells (Value.agg #[.int .i64 0,.int .i64 0]).cells m).size=m * 2:=fun m=>by simp [Builtin.zeroCells,Value.cells]
  have tJ:=grownCap_ge w (0+n) 0 (A2.t 25);refine⟨by simp,.inr ⟨w.heap.size,_,_,rfl,zNr,heap_alloc_new w.drew _,Nat.zero_le _,grownCap_le_maxLen w _ _ _ (by unfold maxLen;omega),?_,by simp⟩⟩;rw [Array.size_append,Array.size_append,hz,hz];generalize grownCap w (0+n) 0 _=G at *;simp;omega
theorem NR(g:Nat)(a1 a2:Option Addr)(c1 c2:Nat)(l1 l2:List (Int×Int))(w:World)(hg:w.heap[g]?=some (.cells #[.slice a1 l1.length c1,.slice a2 l2.length c2] 85 (0,0)))(h1:fG Cs 2 w a1 c1 l1)(h2:fG Cs 2 w a2 c2 l2)(hn1:l1.length<=400)(hn2:l2.length<=400) :
  Calls Tryz.prog 95 #[.slice (some ⟨g,0,none⟩) 2 2] w fun r w'=>∃ v,r=.returned v/\bT Cs 2 168 w' w.heap.size v (l1++l2)/\Below w.heap.size w w':=by
 obtain⟨i0,eP,cY,dw,dz⟩:=info_parts uE;have q0:w.cell? ⟨g,0,none⟩=some (.slice a1 l1.length c1):=by rw [cell_of_row _ _ _ _ _ _ hg];rfl
 have q1:w.cell? ⟨g,1,none⟩=some (.slice a2 l2.length c2):=by rw [cell_of_row _ _ _ _ _ _ hg];rfl
 have zbG:=block_lt_of_cell q0;dsimp only at zbG;have HG:=af (Yj (l1.length+l2.length) w (by omega));rw [show((l1.length+l2.length:Nat):Int)=(l1.length:Int)+l2.length by omega] at HG;have H1:=af h1;have H2:=af h2;clear h1 h2 hg;go_enter Tryz.func95,Tryz.ntmps95
 go_wp2_with fail
 go_loop [3,11] (fun sz iv=>(iv=.int .i64 0/\sz=.int .i64 0)\/(iv=.int .i64 1/\sz=.int .i64 (l1.length:Int))\/(iv=.int .i64 2/\sz=.int .i64 ((l1.length:Int)+l2.length))) (fun _ iv=>2-(intOf iv).toNat)
 case atStart=>exact .inl ⟨rfl,rfl⟩
 case round =>
  rcases hrel with ⟨rfl,rfl⟩ | ⟨rfl,rfl⟩ | ⟨rfl,rfl⟩
  ·go_wp2
   go_round
   case rel=>exact .inr (.inl ⟨rfl,rfl⟩)
   case measure=>simp [intOf]
  ·go_wp2
   go_round
   case rel=>exact .inr (.inr ⟨rfl,rfl⟩)
   case measure=>simp [intOf]
  ·go_wp2_with fail
   refine(ae HG).mono ?_;rintro e w1 ⟨v1,rfl,cz,ay⟩;obtain⟨va,vm,vc,rfl⟩:=cz.shape;have BX:=af cz;have aL:=af ay;clear cz ay HG;go_wp2_with fail
   go_loopw [6,27] (fun v iv wr=>Below w.heap.size w wr/\((iv=.int .i64 0/\bT Cs 2 168 wr w.heap.size v [])\/(iv=.int .i64 1/\bT Cs 2 168 wr w.heap.size v l1)\/(iv=.int .i64 2/\bT Cs 2 168 wr w.heap.size v (l1++l2)))) (fun _ iv _=>2-(intOf iv).toNat)
   case atStart=>exact⟨ae aL,.inl ⟨rfl,ae BX⟩⟩
   case round =>
    obtain⟨ao,hrel⟩:=hrel;have xZ:g<wr.heap.size:=Nat.lt_of_lt_of_le zbG ao.size;have cL:=ao.size;have r0:=(ao.cell (block_lt_of_cell q0)).trans q0;have r1:=(ao.cell (block_lt_of_cell q1)).trans q1;have mB:=af ((ae H1).below ao);have yU:=af ((ae H2).below ao);have aQ:=af ao;clear ao;rcases hrel with ⟨rfl,az⟩ | ⟨rfl,az⟩ | ⟨rfl,az⟩
    ·obtain⟨ya,ym,yc,rfl⟩:=az.shape;have HO:=af az;clear az;go_wp2_with (at_builtin;refine jj rfl _ _ 85 rfl w.heap.size i0 (.agg #[.int .i64 0,.int .i64 0]) 16 zu85 eP cY dw dz rfl (by decide) (by decide) _ _ rfl (ae HO) a1 c1 l1 rfl (ae mB) fM rV (by simp;omega) cL ?_)
     intro v9 w9 aZ en;have pS:=af aZ;have jI:=af ((ae aQ).trans en);obtain⟨a9,m9,c9,rfl⟩:=aZ.shape;clear aZ en HO aQ;go_wp2;go_roundw
     case rel=>exact⟨ae jI,.inr (.inl ⟨rfl,ae pS⟩)⟩
     case measure=>simp [intOf]
    ·obtain⟨ya,ym,yc,rfl⟩:=az.shape;have HO:=af az;clear az;go_wp2_with (at_builtin;refine jj rfl _ _ 85 rfl w.heap.size i0 (.agg #[.int .i64 0,.int .i64 0]) 16 zu85 eP cY dw dz rfl (by decide) (by decide) _ _ rfl (ae HO) a2 c2 l2 rfl (ae yU) fM rV (by omega) cL ?_)
     intro v9 w9 aZ en;have pS:=af aZ;have jI:=af ((ae aQ).trans en);obtain⟨a9,m9,c9,rfl⟩:=aZ.shape;clear aZ en HO aQ;go_wp2;go_roundw
     case rel=>exact⟨ae jI,.inr (.inr ⟨rfl,ae pS⟩)⟩
     case measure=>simp [intOf]
    ·obtain⟨ya,ym,yc,rfl⟩:=az.shape;have HO:=af az;clear az;go_wp2;go_ret;exact⟨_,rfl,ae HO,ae aQ⟩
end
def yP(L:List Int):List (Int×Int):=if b9 L.length=true then bh L else []
theorem Gv(a:Option Addr)(len cap:Nat)(w:World)(hl:len<=140737488351232)(hq:b9 len=false) :
  Calls Tryz.prog 41 #[.slice a len cap] w fun e w'=>e=.returned (.tuple #[.slice none 0 0,aR 3])/\w=w':=by
 have HE:=af (Jw a len cap w hl hq);rw [aC 3 (by decide)] at HE ⊢;clear hq;go_enter Tryz.func41,Tryz.ntmps41
 go_wp2_with fail
 refine(ae HE).mono ?_;rintro e w1 ⟨rfl,hw⟩;subst hw;go_wp2;go_ret2;exact⟨rfl,rfl⟩
theorem nz(a:Option Addr)(cap:Nat)(L:List Int)(w:World)(aX:Bs w a cap L)(hq:b9 L.length=true) :
  Calls Tryz.prog 41 #[.slice a L.length cap] w fun e w'=>∃ v,e=.returned (.tuple #[v,.nilIface])/\bT Cs 2 168 w' w.heap.size v (bh L)/\Below w.heap.size w w':=by
 have HE:=af (fQ a cap L w aX hq);have iq:=aX.2.2.1;have HB:=af aX;have HQ:=af hq;have ic:=af aX.1;clear hq aX;go_enter Tryz.func41,Tryz.ntmps41
 go_wp2_with fail
 refine(ae HE).mono ?_;rintro e w1 ⟨v1,rfl,cz,ay⟩;obtain⟨a1,c1,rfl,dL⟩:=cz.kk iI (Nat.le_trans (b8 L 40) (by decide));have HM:=af (Je L a1 c1 w1 (ae ic) (ae HQ) dL);have aL:=af ay;have SR:(entsK L 40).length<=40:=b8 L 40;generalize (entsK L 40).length=EN at *;clear cz dL ay HE;go_wp2_with fail
 refine(ae HM).mono ?_;rintro e w2 ⟨rfl,iP,aK⟩;have cD:=zTs aL aK;have HH:=af (Gp a cap L w1.heap.size w2 ((ae HB).below cD) (ae HQ) iP);have EH:=af iP;have br:=af cD;clear iP aK cD HM aL;go_wp2_with fail
 refine(ae HH).mono ?_;rintro e w3 ⟨v3,rfl,sy,bR⟩;have j8:=zTs br bR;have HR:=af (Nx a cap L w1.heap.size w3 ((ae HB).below j8) (ae HQ) ((ae EH).below bR));obtain⟨a3,c3,rfl,F5⟩:=sy.kk fM (Nat.le_trans (rT L 40) (by decide));have HS3:=af F5;have cT:=af j8;clear sy F5 bR j8 HH br EH;go_wp2_with fail
 refine(ae HR).mono ?_;rintro e w4 ⟨v4,rfl,zcR,dO⟩;obtain⟨a4,c4,rfl,Xm⟩:=zcR.kk fM (Nat.le_trans (rD L 8) (by decide));have np:=zTs cT dO;have fp:Below w4.heap.size w4 (w4.alloc (.cells #[.slice a3 (vC L 40).length c3,.slice a4 (vy L 8).length c4] 85)):=zBr.alloc zNr _;have HC:=af (NR w4.heap.size a3 a4 c3 c4 _ _ (w4.alloc (.cells #[.slice a3 (vC L 40).length c3,.slice a4 (vy L 8).length c4] 85)) (heap_alloc_new w4 _) (((ae HS3).below dO).below fp) (Xm.below fp) (Nat.le_trans (rT L 40) (by decide)) (Nat.le_trans (rD L 8) (by decide)));have lj:=af (np.trans (fp.mono np.size));have wK:(vC L 40).length<=40:=rT L 40;have JM:(vy L 8).length<=8:=rD L 8;have HF:Hid (bh L=vC L 40++vy L 8):=af rfl;generalize vC L 40=F1 at *;generalize vy L 8=F2 at *;clear zcR Xm dO np fp HR cT HS3;go_wp2_with fail
 refine(ae HC).mono ?_;rintro e w6 ⟨v6,rfl,Xu,tK⟩;have HO6:=af (Xu.base (ae lj).size);have UB:=zTr lj tK;obtain⟨a6,m6,c6,rfl⟩:=Xu.shape;clear Xu tK HC lj;go_wp2;go_ret2;exact⟨_,rfl,by rw [ae HF];exact ae HO6,ae UB⟩
theorem Qk(a:Option Addr)(cap:Nat)(L:List Int)(w:World)(aX:Bs w a cap L) :
  Calls Tryz.prog 41 #[.slice a L.length cap] w fun e w'=>∃ v,e=.returned (.tuple #[v,aR (wv L.length)])/\bT Cs 2 168 w' w.heap.size v (yP L)/\Below w.heap.size w w':=by
 unfold wv yP;cases hq:b9 L.length with
 | true =>rw [if_pos rfl,if_pos rfl,aA];exact nz a cap L w aX hq
 | false =>rw [if_neg (by simp),if_neg (by simp)];exact(Gv a L.length cap w aX.2.2.1 hq).mono fun e w' ⟨he,hw⟩=>⟨_,he,bT.nil _ _,by rw [hw];exact zBr⟩
theorem wP(a:Option Addr)(cap:Nat)(L:List Int)(w:World)(aX:Bs w a cap L)(hf:aB L) :
  Calls Tryz.prog 18 #[.slice a L.length cap] w fun e w'=>∃ p g c,e=.returned (.tuple #[.pointer (some ⟨p,0,none⟩),.nilIface])/\Hp w' w.heap.size p g c L/\Below w.heap.size w w':=by
 have HC:=af (nz a cap L w aX hf.cW);rw [hf.ok] at HC;have iq:=aX.2.2.1;have hl:=hf.len;have HBC:=af (fun(W:World) (hW:Below w.heap.size w W)=>kg a cap L W (aX.below hW));have ic:=af aX.1;have HF:=af hf;have aO:L≠[]:=by intro e;rw [e] at hl;simp at hl
 clear aX hf;go_enter Tryz.func18,Tryz.ntmps18
 go_wp2_with fail
 refine(ae HC).mono ?_;rintro e w1 ⟨v1,rfl,cz,ay⟩;obtain⟨a1,c1,rfl,dL⟩:=cz.kk fM (by simp);have zjN:=af (ae HBC w1 ay);have aL:=af ay;clear cz dL ay HC HBC;go_wp2_with fail
 refine(ae zjN).mono ?_;rintro e w2 ⟨a2,c2,rfl,K2,aK⟩;obtain⟨g,cur,rfl,bn⟩:∃ g cur,a2=some ⟨g,0,none⟩/\Row w2 w1.heap.size g c2 cur L:=by
  rcases K2.2 with ⟨e,h0⟩ | ⟨g,cap',cur,e,hB,hc,h3,h4,h5,h6⟩
  ·exact absurd (List.eq_nil_of_length_eq_zero h0) aO
  ·simp only [Value.slice.injEq,true_and] at e;obtain⟨rfl,rfl⟩:=e;exact⟨g,cur,rfl,hB,hc,h3,by omega,by rw [Nat.mul_one] at h6;exact h6⟩
 have HR:=af (bn.low (ae aL).size);have br:=zTr aL aK;clear K2 bn aK zjN aL;go_wp2;go_ret2;exact⟨w2.heap.size,g,c2,rfl,Hp.made (w:=w) (ae HR) (ae br).size (ae ic) (ae HF),(ae br).alloc (ae br).size _⟩
section
variable {w w':World} {B p g c:Nat} {L:List Int}
theorem pz(h:Hp w B p g c L)(hB:B<=w.heap.size){a:Option Addr}{cap:Nat}{I:List Int}(aX:Bs w a cap I)(hf:aB I)(hl:I.length=L.length) :
  Calls Tryz.prog 37 #[.pointer (some ⟨p,0,none⟩),.slice a I.length cap] w fun e w'=>e=.returned .nilIface/\∃ g' c',Hp w' B p g' c' I/\aE (bA p g) (bA p g') w w':=by
 have HL:=af (wP a cap I w aX hf);have HH:=af h;have hc:=h.cell;have nJ:=h.len;have ic:=af aX.1;have HF:=af hf;rw [<- hl] at hc nJ;clear h aX hf hl;obtain⟨N,hN⟩:∃ N,I.length=N:=⟨_,rfl⟩;rw [hN] at hc nJ HL ⊢;have HN:=af hN;clear hN;go_enter Tryz.func37,Tryz.ntmps37
 go_wp2_with fail
 refine(ae HL).mono ?_;rintro e w1 ⟨p1,g1,c1,rfl,wK,ay⟩;have dR:=wK.cell;have zc2:=(ay.block p (ae HH).BJ).trans (ae HH).lT;have zmD:w1.frozen? ⟨p,0,none⟩=false:=frozen_of_row _ _ 0 _ _ zc2;have hcc:=(ay.cell (p:=⟨p,0,none⟩) (ae HH).BJ).trans hc;have KO:Hid (Hp (w1.setCell ⟨p,0,none⟩ (.slice (some ⟨g1,0,none⟩) N c1)) B p g1 c1 I/\aE (bA p g) (bA p g1) w (w1.setCell ⟨p,0,none⟩ (.slice (some ⟨g1,0,none⟩) N c1))):=af (by obtain⟨cur,hr⟩:=wK.row;rw [<- ae HN];exact(ae HH).set ay hr (ae ic) (ae HF) hB);rw [ae HN] at dR;clear wK zc2 ay HL HH ic HF HN hc;go_wp2;go_ret;exact⟨rfl,g1,c1,(ae KO).1,(ae KO).2⟩
end
end Go.Proofs.YtcimhnnendlblaaGreat
