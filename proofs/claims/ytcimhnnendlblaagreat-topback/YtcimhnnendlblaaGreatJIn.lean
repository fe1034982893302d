/-
  Parts of the proofs.
-/
import Derived.Test.YtcimhnnendlblaaGreatJIm
set_option maxRecDepth 100000
set_option maxHeartbeats 16000000
set_option linter.all false
namespace Go.Proofs.YtcimhnnendlblaaGreat
open Go.RowKit
def wv(n:Int):Int:=if b9 n=true then 0 else 3
theorem zau{l:List Int}{h:Int}(hq:b9 l.length=true)(h1:1<=h)(h2:h<=40)(ht:aq l h≠0):aP l h=0:=aJ.2 ⟨hq,aF.2 ⟨h1,h2⟩,ht⟩
theorem wV{l:List Int}{k:Nat}(ht:aq l ((k:Int)+1)≠0):entsK l (k+1)=entsK l k++[ai l ((k:Int)+1)]:=by
 show entsK l k++_=_
 rw [if_neg ht]
theorem A7{l:List Int}{k:Nat}(ht:aq l ((k:Int)+1)=0):entsK l (k+1)=entsK l k:=by
 show entsK l k++_=_
 rw [if_pos ht,List.append_nil]
theorem Jw(a:Option Addr)(len cap:Nat)(w:World)(hl:len<=140737488351232)(hq:b9 len=false) :
  Calls Tryz.prog 17 #[.slice a len cap] w fun e w'=>e=.returned (.tuple #[.slice none 0 0,aR 3])/\w=w':=by
 rw [aC 3 (by decide)];have HL:=af (fun W=>cK len W);rw [hq] at HL;clear hq;go_enter Tryz.func17,Tryz.ntmps17
 go_wp2_with (go_at_call 61;refine(ae HL _).mono ?_;rintro e w1 ⟨rfl,rfl⟩)
 go_ret2;exact⟨rfl,rfl⟩
theorem fQ(a:Option Addr)(cap:Nat)(l:List Int)(w:World)(hb:Bs w a cap l)(hq:b9 l.length=true) :
  Calls Tryz.prog 17 #[.slice a l.length cap] w fun e w'=>∃ v,e=.returned (.tuple #[v,.nilIface])/\bT tM 4 125 w' w.heap.size v (entsK l 40)/\Below w.heap.size w w':=by
 have HL:=af (fun W=>cK l.length W);have hl:=bF.1 hq;have HQ:=af hq;rw [hq] at HL;clear hq;obtain⟨i0,eP,cY,dw,dz⟩:=info_parts WW;have HB:=af hb;have iq:=hb.2.2.1;clear hb;go_enter Tryz.func17,Tryz.ntmps17
 go_wp2_with (go_at_call 61;refine(ae HL _).mono ?_;rintro e w1 ⟨rfl,rfl⟩)
 go_loopw [4,5] (fun v hv wr=>∃ k:Nat,k<=40/\hv=.int .i64 ((k:Int)+1)/\bT tM 4 125 wr w.heap.size v (entsK l k)/\Below w.heap.size w wr) (fun _ hv _=>41-(intOf hv).toNat)
 case atStart=>exact⟨0,by omega,rfl,bT.nil _ _,zBr⟩
 case round =>
  obtain⟨k,hk,rfl,az,ao⟩:=hrel;obtain⟨va,vm,vc,rfl⟩:=az.shape;by_cases aM:k<40
  ·have aX:=(ae HB).below ao;have HH:=af (PS a cap l ((k:Int)+1) wr aX (by omega) (by omega) (by omega));by_cases ht:aq l ((k:Int)+1)=0
   ·rw [ht] at HH;have HE:=af (A7 ht);have HO:=af az;have aQ:=af ao;clear ht az ao aX;go_wp2_with (go_at_call 62;refine(ae HH).mono ?_;rintro e w1 ⟨rfl,fR⟩;subst fR)
    go_roundw
    case rel=>exact⟨k+1,by omega,by go_num,by rw [ae HE];exact ae HO,ae aQ⟩
    case measure=>simp [intOf];omega
   ·rw [bne_iff_ne.2 ht] at HH;have HG:=af (uI a cap l ((k:Int)+1) wr aX (zau (ae HQ) (by omega) (by omega) ht));have HE:=af (wV ht);have vG:=af (b8 l k);have HO:=af az;have aQ:=af ao;clear ht az ao aX;generalize uR:ai l ((k:Int)+1)=jB at *;clear uR;obtain⟨x,y,z,t⟩:=jB;unfold k8 at HG;dsimp only at HG;go_wp2_with (first | (go_at_call 62;refine(ae HH).mono ?_;rintro e w1 ⟨rfl,fR⟩;subst fR))
    refine(ae HG).mono ?_;rintro e w1 ⟨rfl,ay⟩;have dm:=zTs aQ ay;have cD:=dm.alloc dm.size (.cells #[.int .i64 x,.int .i64 y,.int .i64 z,.int .i64 t] 125);have cT:=af (cD.alloc cD.size (.cells #[.int .i64 x,.int .i64 y,.int .i64 z,.int .i64 t] 125));have nB:=af ((((ae HO).below ay).below (zBr.alloc zNr (.cells #[.int .i64 x,.int .i64 y,.int .i64 z,.int .i64 t] 125))).below (zBr.alloc zNr (.cells #[.int .i64 x,.int .i64 y,.int .i64 z,.int .i64 t] 125)));have cL:=(ae aQ).size;have nF:=ay.size;have jK:Hid (((w1.alloc (.cells #[.int .i64 x,.int .i64 y,.int .i64 z,.int .i64 t] 125)).alloc (.cells #[.int .i64 x,.int .i64 y,.int .i64 z,.int .i64 t] 125)).heap[w1.heap.size+1]?=some (.cells (tM (x,y,z,t)).toArray 125 (0,0))):=af (by have:=heap_alloc_new (w1.alloc (.cells #[.int .i64 x,.int .i64 y,.int .i64 z,.int .i64 t] 125)) (.cells #[.int .i64 x,.int .i64 y,.int .i64 z,.int .i64 t] 125);rw [aH] at this;exact this);clear ay dm cD HO aQ HG HH;go_wp2_with (at_builtin;refine bM rfl _ _ 49 rfl w.heap.size i0 (.agg #[.int .i64 0,.int .i64 0,.int .i64 0,.int .i64 0]) 32 Tryz.underlying49 eP cY dw dz rfl (by decide) (by decide) _ _ rfl (ae nB) (w1.heap.size+1) (x,y,z,t) rfl (ae jK) rfl (zb4 _) (Nat.le_trans (ae vG) (by omega)) (by simp;omega) ?_)
    intro v9 w9 aZ en;have pS:=af aZ;have jI:=af ((ae cT).trans en);obtain⟨a9,m9,c9,rfl⟩:=aZ.shape;clear aZ en nB cT jK;go_wp2;go_roundw
    case rel=>exact⟨k+1,by omega,by go_num,by rw [ae HE];exact ae pS,ae jI⟩
    case measure=>simp [intOf];omega
  ·obtain rfl:k=40:=by omega
   have HO:=af az;have aQ:=af ao;clear az ao;go_wp2;go_ret2;exact⟨_,rfl,ae HO,ae aQ⟩
theorem St(a:Option Addr)(cap:Nat)(l:List Int)(w:World)(hb:Bs w a cap l) :
  Calls Tryz.prog 17 #[.slice a l.length cap] w fun e w'=>∃ v,e=.returned (.tuple #[v,aR (wv l.length)])/\bT tM 4 125 w' w.heap.size v (yN l)/\Below w.heap.size w w':=by
 unfold wv yN;cases hq:b9 l.length with
 | true =>rw [if_pos rfl,if_pos rfl,aA];exact fQ a cap l w hb hq
 | false =>rw [if_neg (by simp),if_neg (by simp)];exact(Jw a l.length cap w hb.2.2.1 hq).mono fun e w' ⟨he,hw⟩=>⟨_,he,bT.nil _ _,by rw [hw];exact zBr⟩
theorem zdQ(b:Option Addr)(len cap:Nat)(i:Int)(s:ByteArray)(h:Int)(w:World)(hb:len<=140737488351232)(hq:b9 len=false) :
  Calls Tryz.prog 105 #[.slice b len cap,.int .i64 i,.agg #[.string s,.int .i64 h]] w (Ends w [] (aR 3)):=by
 rw [aC 3 (by decide)];have HL:=af (fun W=>cK len W);rw [hq] at HL;clear hq;go_enter Tryz.func105,Tryz.ntmps105
 go_wp2_with (go_at_call 61;refine(ae HL _).mono ?_;rintro e w1 ⟨rfl,rfl⟩)
 go_ret2;exact⟨none,0,rfl,eC _,zBr.alloc zNr _⟩
theorem Vz(b:Option Addr)(len cap:Nat)(i:Int)(s:ByteArray)(h:Int)(w:World)(hb:len<=140737488351232)(hq:b9 len=true)(hi:i<0\/7<i) :
  Calls Tryz.prog 105 #[.slice b len cap,.int .i64 i,.agg #[.string s,.int .i64 h]] w (Ends w [] (aR 1)):=by
 rw [aC 1 (by decide)];have HL:=af (fun W=>cK len W);have HI:=af (fun W=>qL i W);rw [hq] at HL;have hp:IL i=false:=by unfold IL;rw [Bool.and_eq_false_iff,decide_eq_false_iff_not,decide_eq_false_iff_not];omega
 rw [hp] at HI;clear hq hi hp;go_enter Tryz.func105,Tryz.ntmps105
 go_wp2_with (first | (go_at_call 61;refine(ae HL _).mono ?_;rintro e w1 ⟨rfl,rfl⟩) | (go_at_call 171;refine(ae HI _).mono ?_;rintro e w1 ⟨rfl,rfl⟩))
 go_ret2;exact⟨none,0,rfl,eC _,zBr.alloc zNr _⟩
theorem zdP(b:Option Addr)(cap:Nat)(L:List Int)(i:Nat)(r:(ByteArray×Int))(w:World)(aX:Bs w b cap L)(hq:b9 L.length=true)(hi:i<=7)(hs:r.1.size<=140737488351232) :
  Calls Tryz.prog 105 #[.slice b L.length cap,.int .i64 i,.agg #[.string r.1,.int .i64 r.2]] w (Ends w (if eF r=0 then splice L (200+11 * i) (fX r) else []) (aR (eF r))):=by
 have HL:=af (fun W=>cK L.length W);have hlen:=bF.1 hq;have Qv:=af (Iu r (w.alloc (.cells #[.string r.1,.int .i64 r.2] 152)) hs);have HRL:=af (fun h=>kC (r:=r) h);have HP:=af (fun W=>oX i W (by omega));have bR:=aX.2.2.1;have nC:=af aX;have iw:Hid (Below w.heap.size w (w.alloc (.cells #[.string r.1,.int .i64 r.2] 152))):=af (zBr.alloc zNr _);have HI:=af (fun W=>qL i W);have hp:IL i=true:=by unfold IL;rw [Bool.and_eq_true,decide_eq_true_iff,decide_eq_true_iff];omega
 rw [hp] at HI;rw [hq] at HL;clear hp;unfold xK at Qv;clear hq aX;generalize fX r=R at *;generalize eF r=c at *;by_cases hc:c=0
 ·subst hc;rw [if_pos rfl] at Qv ⊢;rw [aA] at Qv ⊢;have uJ:=ae HRL rfl;have HW:=af (fun(W:World) (ra:Option Addr) (rc:Nat) (h5:Bs W b cap L) (h6:Bs W ra rc R)=>zo b cap L (200+11 * i) ra rc R W h5 h6 (by intro e;rw [e] at uJ;simp at uJ) (by omega));have qc:=af (length_splice (z:=L) (l:=R) (off:=200+11 * i) (by omega));rw [uJ] at HW;generalize 200+11 * i=p at *;clear HRL;go_enter Tryz.func105,Tryz.ntmps105
  go_wp2_with (first | (go_at_call 61;refine(ae HL _).mono ?_;rintro e w1 ⟨rfl,rfl⟩) | (go_at_call 171;refine(ae HI _).mono ?_;rintro e w1 ⟨rfl,rfl⟩))
  refine(ae Qv).mono ?_;rintro e w2 ⟨a2,c2,rfl,fD,aK⟩;have cD:=zTs iw aK;have GZ:=af (ae HW w2 a2 c2 ((ae nC).below cD) fD);have br:=af cD;rw [uJ];clear fD aK cD HW iw Qv;go_wp2_with (go_at_call 98;refine(ae HP _).mono ?_;rintro e w3 ⟨rfl,nE⟩;subst nE)
  refine(ae GZ).mono ?_;rintro e w4 ⟨a4,c4,rfl,oy,dO⟩;have ez:=zTr br dO;have ZL:=af oy;clear oy dO br GZ;go_wp2;go_ret2;exact⟨a4,c4,by rw [ae qc];rfl,ae ZL,ae ez⟩
 ·rw [if_neg hc] at Qv ⊢;rw [aC _ hc] at Qv ⊢;clear HRL HP nC hc;go_enter Tryz.func105,Tryz.ntmps105
  go_wp2_with (first | (go_at_call 61;refine(ae HL _).mono ?_;rintro e w1 ⟨rfl,rfl⟩) | (go_at_call 171;refine(ae HI _).mono ?_;rintro e w1 ⟨rfl,rfl⟩))
  refine(ae Qv).mono ?_;rintro e w2 ⟨a2,c2,rfl,fD,aK⟩;have br:=zTr iw aK;clear fD aK;go_wp2;go_ret2;exact⟨none,0,rfl,eC _,ae br⟩
theorem pr(b:Option Addr)(cap:Nat)(L:List Int)(i:Int)(r:(ByteArray×Int))(w:World)(aX:Bs w b cap L)(hs:r.1.size<=140737488351232) :
  Calls Tryz.prog 105 #[.slice b L.length cap,.int .i64 i,xK r] w (Ends w (je L i r) (aR (BI L i r))):=by
 have hl:=aX.2.2.1;unfold xK;cases hq:b9 L.length with
 | false =>
  have e:BI L i r=3:=by unfold BI;rw [if_pos hq]
  have e2:je L i r=[]:=by unfold je;rw [e,if_neg (by decide)]
  rw [e,e2];exact zdQ b L.length cap i r.1 r.2 w hl hq
 | true =>
  by_cases hi:i<0\/7<i
  ·have e:BI L i r=1:=by unfold BI;rw [if_neg (by rw [hq];simp),if_pos hi]
   have e2:je L i r=[]:=by unfold je;rw [e,if_neg (by decide)]
   rw [e,e2];exact Vz b L.length cap i r.1 r.2 w hl hq hi
  ·have e:BI L i r=eF r:=by unfold BI;rw [if_neg (by rw [hq];simp),if_neg hi]
   obtain⟨I,rfl⟩:=Int.eq_ofNat_of_zero_le (show 0<=i by omega);unfold je;rw [e,zTn];exact zdP b cap L I r w aX hq (by omega) hs
theorem LS(c:Int)(w:World):Calls Tryz.prog 100 #[.int .u8 c] w fun e w'=>e=.returned (.bool (c != 0))/\w=w':=by
 go_enter Tryz.func100,Tryz.ntmps100
 go_wp2;go_ret;exact⟨rfl,rfl⟩
theorem Cd(a:Option Addr)(cap:Nat)(l:List Int)(w:World)(aX:Bs w a cap l) :
  Calls Tryz.prog 161 #[.slice a l.length cap,.func (.func 100) #[] #[]] w fun e w'=>e=.returned (.int .i64 (fN l))/\w=w':=by
 have hl:l.length<=140737488351232:=aX.2.2.1;have HN:=af (fun k=>yg (l:=l) (k:=k));have HM:=af (yf (l:=l));generalize fN l=F at *;go_enter Tryz.func161,Tryz.ntmps161
 go_wp2
 go_loop [5,8] (fun _ i=>∃ k:Nat,k<=l.length/\i=.int .i64 k/\∀ j,j<k->(l.getD j 0 != 0)=false) (fun _ i=>l.length-(intOf i).toNat)
 case atStart=>exact⟨0,by omega,rfl,fun j hj=>absurd hj (Nat.not_lt_zero j)⟩
 case round =>
  obtain⟨k,hk,rfl,bB⟩:=hrel;have HA:Hid (∀ j,j<k->(l.getD j 0 != 0)=false):=bB;clear bB;by_cases aM:k<l.length
  ·obtain⟨b,off,rfl,bk⟩:=aX.at k aM;have HC:=af (LS (l.getD k 0) w);have HK:=af (ae HN k aM);clear aX;have HF:=af (fun h=>cF.step (f:=fun j=>(l.getD j 0 != 0)) (ae HA) h);generalize l.getD k 0=c at *;cases hb:(c != 0)
   ·rw [hb] at HC;have HS:=af (ae HF hb);clear hb;go_wp2_with (go_at_call 100;refine(ae HC).mono ?_;rintro e w' ⟨rfl,rfl⟩)
    go_round
    case rel=>exact⟨k+1,by omega,by go_num,ae HS⟩
    case measure=>simp [intOf];omega
   ·rw [hb] at HC;have HS:=af (ae HK hb (ae HA));clear hb;go_wp2_with (go_at_call 100;refine(ae HC).mono ?_;rintro e w' ⟨rfl,rfl⟩)
    go_ret;exact⟨by rw [ae HS];rfl,rfl⟩
  ·obtain rfl:k=l.length:=by omega
   go_wp2;go_ret;exact⟨by rw [ae HM (ae HA)];rfl,rfl⟩
theorem Gt(a:Option Addr)(cap:Nat)(l:List Int)(w:World)(aX:Bs w a cap l) :
  Calls Tryz.prog 99 #[.slice a l.length cap,.func (.func 100) #[] #[]] w fun e w'=>e=.returned (.bool (isRoot l))/\w=w':=by
 have HI:=af (Cd a cap l w aX);have hv:fN l=-1/\isRoot l=false\/0<=fN l/\isRoot l=true:=by
  unfold fN;cases isRoot l with
  | true=>rw [if_pos rfl];exact .inr ⟨by omega,rfl⟩
  | false=>rw [if_neg (by simp)];exact .inl ⟨rfl,rfl⟩
 generalize fN l=F at *;generalize isRoot l=R at *;generalize l.length=N at *;rcases hv with ⟨rfl,rfl⟩ | ⟨h,rfl⟩
 all_goals
  go_enter Tryz.func99,Tryz.ntmps99
  go_wp2_with (go_at_call 161;refine(ae HI).mono ?_;rintro e w1 ⟨rfl,rfl⟩)
  go_ret;exact⟨rfl,rfl⟩
theorem Q6:(Tryz.prog.info? 152).map (·.size)=some 2:=by kernel_rfl
theorem GX.set{w:World}{g:Nat}{r:(ByteArray×Int)}(h:GX w g r)(s:ByteArray)(x:Int):GX ((w.setCell ⟨g,0,none⟩ (.string s)).setCell ⟨g,1,none⟩ (.int .i64 x)) g (s,x):=by have h1:=heap_setCell_same w g 0 _ _ (.string s) h;exact heap_setCell_same _ g 1 _ _ (.int .i64 x) h1
theorem LV(a:Option Addr)(cap:Nat)(r:List Int)(w:World)(hb:Bs w a cap r)(h11:r.length=11) :
  Calls Tryz.prog 101 #[.slice a 11 cap] w fun e w'=>e=.returned (.agg #[.string (rootOf r).1,.int .i64 (rootOf r).2])/\Below w.heap.size w w':=by
 have gy:Below w.heap.size w (w.alloc (.cells #[.string { data:=#[]},.int .i64 0] 152)):=zBr.alloc zNr _;have ay:=hb.below gy;obtain⟨a',hhi,aK⟩:=jm (P:=Tryz.prog) (t:=30) zu30 aN ay 8 (by omega);rw [h11,show((8:Nat):Int)=8 from rfl] at hhi;have h8:(r.take 8).length=8:=by rw [zLt];omega
 have HG:=af (qS a' cap (r.take 8) _ aK);rw [h8] at HG;have HN:=af (GX.new w (({ data:=#[]}:ByteArray),0));have nC:=af hb;have iw:=af gy;unfold rootOf;dsimp only;generalize (aT (r.take 8)).1=s at *;generalize (aT (r.take 8)).2=c at *;generalize hx:r.getD 10 0=x;have HX:=af hx;clear hb ay aK gy hx;go_enter Tryz.func101,Tryz.ntmps101
 go_wp2_with fail
 refine(ae HG).mono ?_;rintro e w1 ⟨rfl,ay⟩;have DU:=(ae HN).below ay (by simp);obtain⟨c0,c1⟩:=DU.cells;have f0:=frozen_of_row _ _ 0 _ _ DU;have f1:=frozen_of_row _ _ 1 _ _ DU;have dm:=zTs iw ay;have jN:=(ae nC).below dm;obtain⟨b,off,rfl,bk⟩:=jN.at 10 (by omega);have sE:=jN.1.getD 10;have Qv:=af DU;have aL:=af dm;dsimp only at c0 c1;clear DU dm jN ay iw HN HG nC;rw [ae HX] at bk sE;go_wp2;refine bodyPost_ret (results_cell_row rfl _ _ w.heap.size 152 _ (0,0) _ rfl ((ae Qv).set s x) Tryz.underlying152 rfl (by rw [Q6];rfl)) rfl ?_;exact⟨rfl,((ae aL).setCell zNr _).setCell zNr _⟩
theorem Ss(a:Option Addr)(len cap:Nat)(w:World)(hl:len<=140737488351232)(hq:b9 len=false) :
  Calls Tryz.prog 43 #[.slice a len cap] w fun e w'=>e=.returned (.tuple #[.slice none 0 0,aR 3])/\w=w':=by
 rw [aC 3 (by decide)];have HL:=af (fun W=>cK len W);rw [hq] at HL;clear hq;go_enter Tryz.func43,Tryz.ntmps43
 go_wp2_with (go_at_call 61;refine(ae HL _).mono ?_;rintro e w1 ⟨rfl,rfl⟩)
 go_ret2;exact⟨rfl,rfl⟩
theorem LR{l:List Int}{k:Nat}(ht:isRoot (rowAt l k)=true):ak l (k+1)=ak l k++[rootOf (rowAt l k)]:=by
 show ak l k++_=_
 rw [if_pos ht]
theorem Rh{l:List Int}{k:Nat}(ht:isRoot (rowAt l k)=false):ak l (k+1)=ak l k:=by
 show ak l k++_=_
 rw [if_neg (by rw [ht];simp),List.append_nil]
theorem mj(a:Option Addr)(cap:Nat)(l:List Int)(w:World)(hb:Bs w a cap l)(hq:b9 l.length=true) :
  Calls Tryz.prog 43 #[.slice a l.length cap] w fun e w'=>∃ v,e=.returned (.tuple #[v,.nilIface])/\bT yC 2 152 w' w.heap.size v (ak l 8)/\Below w.heap.size w w':=by
 have HL:=af (fun W=>cK l.length W);have hl:=bF.1 hq;rw [hq] at HL;clear hq;obtain⟨i0,eP,cY,dw,dz⟩:=info_parts DM;have HB:=af hb;have iq:=hb.2.2.1;clear hb;go_enter Tryz.func43,Tryz.ntmps43
 go_wp2_with (go_at_call 61;refine(ae HL _).mono ?_;rintro e w1 ⟨rfl,rfl⟩)
 go_loopw [4,12] (fun v hv wr=>∃ k:Nat,k<=8/\hv=.int .i64 k/\bT yC 2 152 wr w.heap.size v (ak l k)/\Below w.heap.size w wr) (fun _ hv _=>8-(intOf hv).toNat)
 case atStart=>exact⟨0,by omega,rfl,bT.nil _ _,zBr⟩
 case round =>
  obtain⟨k,hk,rfl,az,ao⟩:=hrel;obtain⟨va,vm,vc,rfl⟩:=az.shape;by_cases aM:k<8
  ·have aX:=(ae HB).below ao;have lK:=af (oX k wr (by omega));have T7:=af (oX (k+1) wr (by omega));have ek:((k+1:Nat):Int)=(k:Int)+1:=by omega
   rw [ek] at T7;obtain⟨a',hlh,aK⟩:=eU (P:=Tryz.prog) (t:=30) zu30 aN aX (200+11 * k) (200+11 * (k+1)) (by omega) (by omega);have e11:200+11 * (k+1)-(200+11 * k)=11:=by omega
   rw [e11] at hlh aK;have zev:(rowAt l k).length=11:=aS (by omega);have HC:=af (Gt a' (cap-(200+11 * k)) (rowAt l k) wr aK);have HR:=af (LV a' (cap-(200+11 * k)) (rowAt l k) wr aK zev);rw [zev] at HC;have HO:=af az;have aQ:=af ao;have SD:(200+11 * k:Nat)<=l.length:=by omega
   clear az ao aX aK zev e11 ek;generalize 200+11 * (k+1)=p2 at *;generalize 200+11 * k=p1 at *;by_cases ht:isRoot (rowAt l k)=true
   ·rw [ht] at HC;have HE:=af (LR ht);have vG:=af (eA l k);clear ht;generalize uR:rootOf (rowAt l k)=jB at *;clear uR;obtain⟨s,x⟩:=jB;dsimp only at HR;go_wp2_with (first | (go_at_call 98;refine(ae lK).mono ?_;rintro e w1 ⟨rfl,fR⟩;subst fR) | (go_at_call 98;refine(ae T7).mono ?_;rintro e w1 ⟨rfl,fR⟩;subst fR) | (go_at_call 99;refine(ae HC).mono ?_;rintro e w1 ⟨rfl,fR⟩;subst fR))
    refine(ae HR).mono ?_;rintro e w1 ⟨rfl,ay⟩;have dm:=zTs aQ ay;have cT:=af (dm.alloc dm.size (.cells #[.string s,.int .i64 x] 152));have nB:=af (((ae HO).below ay).below (zBr.alloc zNr (.cells #[.string s,.int .i64 x] 152)));have cL:=(ae aQ).size;have nF:=ay.size;have jK:Hid ((w1.alloc (.cells #[.string s,.int .i64 x] 152)).heap[w1.heap.size]?=some (.cells (yC (s,x)).toArray 152 (0,0))):=af (heap_alloc_new w1 _);clear ay dm HO aQ HR HC;go_wp2_with (at_builtin;refine bM rfl _ _ 91 rfl w.heap.size i0 (.agg #[.string ByteArray.empty,.int .i64 0]) 24 Tryz.underlying91 eP cY dw dz rfl (by decide) (by decide) _ _ rfl (ae nB) w1.heap.size (s,x) rfl (ae jK) rfl (O4 _) (Nat.le_trans (ae vG) (by omega)) (by simp;omega) ?_)
    intro v9 w9 aZ en;have pS:=af aZ;have jI:=af ((ae cT).trans en);obtain⟨a9,m9,c9,rfl⟩:=aZ.shape;clear aZ en nB cT jK;go_wp2;go_roundw
    case rel=>exact⟨k+1,by omega,by go_num,by rw [ae HE];exact ae pS,ae jI⟩
    case measure=>simp [intOf];omega
   ·have ht':isRoot (rowAt l k)=false:=by simpa using ht
    rw [ht'] at HC;have HE:=af (Rh ht');clear ht ht' HR;go_wp2_with (first | (go_at_call 98;refine(ae lK).mono ?_;rintro e w1 ⟨rfl,fR⟩;subst fR) | (go_at_call 98;refine(ae T7).mono ?_;rintro e w1 ⟨rfl,fR⟩;subst fR) | (go_at_call 99;refine(ae HC).mono ?_;rintro e w1 ⟨rfl,fR⟩;subst fR))
    go_roundw
    case rel=>exact⟨k+1,by omega,by go_num,by rw [ae HE];exact ae HO,ae aQ⟩
    case measure=>simp [intOf];omega
  ·obtain rfl:k=8:=by omega
   have HO:=af az;have aQ:=af ao;clear az ao;go_wp2;go_ret2;exact⟨_,rfl,ae HO,ae aQ⟩
theorem MY(a:Option Addr)(cap:Nat)(l:List Int)(w:World)(hb:Bs w a cap l) :
  Calls Tryz.prog 43 #[.slice a l.length cap] w fun e w'=>∃ v,e=.returned (.tuple #[v,aR (wv l.length)])/\bT yC 2 152 w' w.heap.size v (roots l)/\Below w.heap.size w w':=by
 unfold wv roots;cases hq:b9 l.length with
 | true =>rw [if_pos rfl,if_pos rfl,aA];exact mj a cap l w hb hq
 | false =>rw [if_neg (by simp),if_neg (by simp)];exact(Ss a l.length cap w hb.2.2.1 hq).mono fun e w' ⟨he,hw⟩=>⟨_,he,bT.nil _ _,by rw [hw];exact zBr⟩
end Go.Proofs.YtcimhnnendlblaaGreat
