/-
  Parts of the proofs.
-/
import Derived.Test.YtcimhnnendlblaaGreatJHc
import Derived.Test.YtcimhnnendlblaaGreatJCi
set_option maxRecDepth 100000
set_option maxHeartbeats 16000000
set_option linter.all false
namespace Go.Proofs.YtcimhnnendlblaaGreat
open Go.RowKit Go.Sort
theorem Ah(x y:Int)(w:World)(hx:0<=x/\x<=100000)(hy:0<=y/\y<=100000) :
  Calls Tryz.prog 188 #[.agg #[.int .i64 x,.int .i64 y]] w fun e w'=>e=.returned (.int .i64 (x+y))/\∃ q os,w'=grow (w.drewN q) os:=by
 go_enter Tryz.func188,Tryz.ntmps188
 go_wp2;go_ret;exact⟨rfl,0,_,by rw [alloc_eq_grow];rfl⟩
theorem zb2{l:List (Int×Int×Int×Int)}{k:Nat}{e:(Int×Int×Int×Int)}(h:l[k]?=some e):(0,288) :: ((l.map tL).take (k+1))=((0,288) :: (l.map tL).take k)++[(e.2.1,e.2.2.1)]:=by rw [List.take_add_one,List.getElem?_map,h];rfl
theorem QV(a:Option Addr)(cap:Nat)(l:List (Int×Int×Int×Int))(w:World)(hs:fG tM 4 w a cap l)(hl:l.length<=40) :
  Calls Tryz.prog 185 #[.slice a l.length cap] w fun e w'=>∃ v,e=.returned v/\bT nI 2 123 w' w.heap.size v ((0,288) :: l.map tL)/\Below w.heap.size w w':=by
 obtain⟨i0,eP,cY,dw,dz⟩:=info_parts Jr;have py:=hs.2.2.1;have HS:=af hs;clear hs;have qh:Hid (bT nI 2 123 (w.alloc (.cells #[.int .i64 0,.int .i64 288] 123)) w.heap.size (.slice (some ⟨w.heap.size,0,none⟩) 1 1) [(0,288)]):=af ⟨rfl,.inr ⟨w.heap.size,1,#[.int .i64 0,.int .i64 288],rfl,zNr,heap_alloc_new w _,zNr,by decide,rfl,rfl⟩⟩;go_enter Tryz.func185,Tryz.ntmps185
 go_wp2_with fail
 go_loopw [3,10] (fun v iv wr=>∃ k:Nat,k<=l.length/\iv=.int .i64 k/\bT nI 2 123 wr w.heap.size v ((0,288) :: (l.map tL).take k)/\Below w.heap.size w wr) (fun _ iv _=>l.length-(intOf iv).toNat)
 case atStart=>exact⟨0,Nat.zero_le _,rfl,ae qh,zBr.alloc zNr _⟩
 case round =>
  obtain⟨k,hk,rfl,az,ao⟩:=hrel;obtain⟨va,vm,vc,rfl⟩:=az.shape;by_cases aM:k<l.length
  ·have aO:l≠[]:=by intro e;rw [e] at aM;simp at aM
   obtain⟨b1,o1,rfl,dR⟩:=((ae HS).below ao).2.2.2 aO;obtain⟨f,hf⟩:∃ f,l[k]?=some f:=⟨l[k],zLg aM⟩;obtain⟨q0,q1,q2,q3⟩:=fG.jB (cap:=0) dR hf;have HT:=af (zb2 hf);have tH:((0,288) :: (l.map tL).take k).length<=41:=by simp;omega
   obtain⟨x,y,z,t⟩:=f;dsimp only at *;have dm:=ao.alloc ao.size (.cells #[.int .i64 x,.int .i64 y,.int .i64 z,.int .i64 t] 125);have cT:=af (dm.alloc dm.size (.cells #[.int .i64 y,.int .i64 z] 123));have nB:=af ((az.below (zBr.alloc zNr (.cells #[.int .i64 x,.int .i64 y,.int .i64 z,.int .i64 t] 125))).below (zBr.alloc zNr (.cells #[.int .i64 y,.int .i64 z] 123)));have jK:Hid (((wr.alloc (.cells #[.int .i64 x,.int .i64 y,.int .i64 z,.int .i64 t] 125)).alloc (.cells #[.int .i64 y,.int .i64 z] 123)).heap[wr.heap.size+1]?=some (.cells (nI (y,z)).toArray 123 (0,0))):=af (by have:=heap_alloc_new (wr.alloc (.cells #[.int .i64 x,.int .i64 y,.int .i64 z,.int .i64 t] 125)) (.cells #[.int .i64 y,.int .i64 z] 123);rw [aH] at this;exact this);have cL:=ao.size;clear dR hf aO ao dm az;generalize (0,288) :: (l.map tL).take k=TK at *;go_wp2_with (at_builtin;refine bM rfl _ _ 214 rfl w.heap.size i0 (.agg #[.int .i64 0,.int .i64 0]) 16 zu214 eP cY dw dz rfl (by decide) (by decide) _ _ rfl (ae nB) (wr.heap.size+1) (y,z) rfl (ae jK) rfl (P5 _) (by omega) (by simp;omega) ?_)
   intro v9 w9 aZ en;rw [<- ae HT] at aZ;have pS:=af aZ;have jI:=af ((ae cT).trans en);obtain⟨a9,m9,c9,rfl⟩:=aZ.shape;clear aZ en nB cT jK q0 q1 q2 q3;go_wp2;go_roundw
   case rel=>exact⟨k+1,by omega,by go_num,ae pS,ae jI⟩
   case measure=>simp [intOf];omega
  ·obtain rfl:k=l.length:=by omega
   rw [List.take_of_length_le (by simp)] at az;have HO:=af az;have HB:=af ao;clear az ao;go_wp2;go_ret;exact⟨_,rfl,ae HO,ae HB⟩
theorem Q1(q:Nat)(e:(Int×Int×Int×Int))(x y:Int)(w:World)(hx:0<=x/\x<=100000)(hy:0<=y/\y<=100000)(h0:w.cell? ⟨q,0,none⟩=some (.int .i64 x))(h1:w.cell? ⟨q,1,none⟩=some (.int .i64 y)) :
  Calls Tryz.prog 187 #[.agg #[.int .i64 e.1,.int .i64 e.2.1,.int .i64 e.2.2.1,.int .i64 e.2.2.2],.pointer (some ⟨q,0,none⟩)] w fun r w'=>r=.returned (.bool (e.2.1 == x+y))/\Below w.heap.size w w':=by
 obtain⟨z1,z2,z3,z4⟩:=e;dsimp only;have mixed:Tryz.prog.follows .mixedOrders=true:=by kernel_rfl
 have HC:=af (fun W=>Ah x y W hx hy);have hq:=block_lt_of_cell h0;dsimp only at hq;have fc:=rf.new w (z1,z2,z3,z4);obtain⟨c0,c1,c2,c3⟩:=fc.cells;have d0:(w.alloc (.cells #[.int .i64 z1,.int .i64 z2,.int .i64 z3,.int .i64 z4] 125)).cell? ⟨q,0,none⟩=some (.int .i64 x):=(((Below.refl w.heap.size w).alloc zNr _).cell (block_lt_of_cell h0)).trans h0;have d1:(w.alloc (.cells #[.int .i64 z1,.int .i64 z2,.int .i64 z3,.int .i64 z4] 125)).cell? ⟨q,1,none⟩=some (.int .i64 y):=(((Below.refl w.heap.size w).alloc zNr _).cell (block_lt_of_cell h1)).trans h1;dsimp only at c1;have l0:=fun n os=>cell_grown (w:=w.alloc (.cells #[.int .i64 z1,.int .i64 z2,.int .i64 z3,.int .i64 z4] 125)) (by simp;omega) d0 n os
 have l1:=fun n os=>cell_grown (w:=w.alloc (.cells #[.int .i64 z1,.int .i64 z2,.int .i64 z3,.int .i64 z4] 125)) (by simp;omega) d1 n os
 have l2:=fun n os=>cell_grown (w:=w.alloc (.cells #[.int .i64 z1,.int .i64 z2,.int .i64 z3,.int .i64 z4] 125)) (by simp) c1 n os
 have hB:Below w.heap.size w (w.alloc (.cells #[.int .i64 z1,.int .i64 z2,.int .i64 z3,.int .i64 z4] 125)):=zBr.alloc zNr _;have HF:=af (fun n os=>hB.trans ((fE (w:=w.alloc (.cells #[.int .i64 z1,.int .i64 z2,.int .i64 z3,.int .i64 z4] 125)) (q:=n) (os:=os)).mono hB.size));clear fc c0 c1 c2 c3 d0 d1 h0 h1 hB;generalize x+y=s at *;go_enter Tryz.func187,Tryz.ntmps187
 go_wp2_with fail
 generalize w.alloc (.cells #[.int .i64 z1,.int .i64 z2,.int .i64 z3,.int .i64 z4] 125)=W at *;go_quiet_grown ((go_at_call 188;with_reducible exact Calls.grown_of (ae HC _)))
 go_wp2;go_ret;exact⟨rfl,ae HF _ _⟩
theorem xQ(q:Nat)(x y:Int)(a:Option Addr)(cap:Nat)(l:List (Int×Int×Int×Int))(w:World)(hx:0<=x/\x<=100000)(hy:0<=y/\y<=100000)(hs:fG tM 4 w a cap l)(h0:w.cell? ⟨q,0,none⟩=some (.int .i64 x))(h1:w.cell? ⟨q,1,none⟩=some (.int .i64 y)) :
  Calls Tryz.prog 186 #[.slice a l.length cap,.func (.func 187) #[] #[.pointer (some ⟨q,0,none⟩)]] w fun e w'=>∃ i:Int,e=.returned (.int .i64 i)/\((i=-1/\∀ f∈l,f.2.1≠x+y)\/∃ (k:Nat) (f:(Int×Int×Int×Int)),i=k/\l[k]?=some f/\f.2.1=x+y)/\Below w.heap.size w w':=by
 have hl:=hs.2.2.1;have HS:=af hs;have H0:=af h0;have H1:=af h1;clear hs h0 h1;go_enter Tryz.func186,Tryz.ntmps186
 go_wp2;go_loopw [5,8] (fun _ iv wr=>∃ k:Nat,k<=l.length/\iv=.int .i64 k/\(∀ f∈l.take k,f.2.1≠x+y)/\Below w.heap.size w wr) (fun _ iv _=>l.length-(intOf iv).toNat)
 case atStart=>exact⟨0,Nat.zero_le _,rfl,fun f hf=>by simp at hf,zBr⟩
 case round =>
  obtain⟨k,hk,rfl,hV,ao⟩:=hrel;by_cases aM:k<l.length
  ·have aO:l≠[]:=by intro e;rw [e] at aM;simp at aM
   obtain⟨b1,o1,rfl,dR⟩:=((ae HS).below ao).2.2.2 aO;obtain⟨f,hf⟩:∃ f,l[k]?=some f:=⟨l[k],zLg aM⟩;obtain⟨q0,q1,q2,q3⟩:=fG.jB (cap:=0) dR hf;have g0:=(ao.cell (block_lt_of_cell (ae H0))).trans (ae H0);have g1:=(ao.cell (block_lt_of_cell (ae H1))).trans (ae H1);have HC:=af (Q1 q f x y wr hx hy g0 g1);have jw:l.take (k+1)=l.take k++[f]:=by rw [List.take_add_one,hf];rfl
   have HFK:=af hf;have qh:=af jw;have HV:=af hV;have aQ:=af ao;obtain⟨z1,z2,z3,z4⟩:=f;dsimp only at *;clear dR hf aO g0 g1 ao jw hV;generalize SA:x+y=s at *;have HS9:=af SA;clear SA;cases he:(z2 == s)
   ·rw [he] at HC;have T8:=af (beq_eq_false_iff_ne.1 he);clear he;go_wp2_with (go_at_call 187;refine(ae HC).mono ?_;rintro e w1 ⟨rfl,ay⟩;have aL:=zTr aQ ay;clear ay)
    go_roundw
    case rel =>
     refine⟨k+1,by omega,by go_num,fun f hf=>?_,ae aL⟩;rw [ae qh] at hf;rcases zMa hf with hf | hf
     ·exact ae HV f hf
     ·rw [zMs hf];exact ae T8
    case measure=>simp [intOf];omega
   ·rw [he] at HC;have Uz:=af (eq_of_beq he);clear he;go_wp2_with (go_at_call 187;refine(ae HC).mono ?_;rintro e w1 ⟨rfl,ay⟩;have aL:=zTr aQ ay;clear ay)
    go_ret;exact⟨k,rfl,.inr ⟨k,_,rfl,ae HFK,(ae Uz).trans (ae HS9).symm⟩,ae aL⟩
  ·have AJ:k=l.length:=by omega
   rw [AJ,List.take_length] at hV;have tJ:¬ ((k:Int)<(l.length:Int)):=by omega
   have HV:=af hV;have aQ:=af ao;clear hV AJ aM hk ao;go_wp2;go_ret
   first
    | exact⟨-1,rfl,.inl ⟨rfl,ae HV⟩,ae aQ⟩
    | exact⟨-1,rfl,.inl ⟨rfl,fun a b c d hm=>ae HV (a,b,c,d) hm⟩,ae aQ⟩
theorem rf.at1{w:World}{g:Nat}{e:(Int×Int×Int×Int)}(h:rf w g e)(z:Int):rf (w.setCell ⟨g,1,none⟩ (.int .i64 z)) g (e.1,z,e.2.2):=heap_setCell_same w g 1 _ _ (.int .i64 z) h
theorem RW(a:Option Addr)(cap:Nat)(L:List Int)(h:Int)(x:Nat)(w:World)(aX:Bs w a cap L)(hf:aB L)(h1:1<=h)(h2:h<=40)(ht:aq L h≠0)(hx:288<=x)(hle:(x:Int)<=(ai L h).2.1) :
  Calls Tryz.prog 189 #[.slice a L.length cap,.agg #[.int .i64 (ai L h).1,.int .i64 (ai L h).2.1,.int .i64 (ai L h).2.2.1,.int .i64 (ai L h).2.2.2],.int .i64 x] w (EJ w (tf L h x) .nilIface):=by
 have mixed:Tryz.prog.follows .mixedOrders=true:=by kernel_rfl
 have fc:=hf.jB h1 h2 ht;have he:di L (h,(x:Int),(ai L h).2.2.1,(ai L h).2.2.2)=0:=bS.2 ⟨hf.cW,aF.2 ⟨h1,h2⟩,fc.2.2.2.2.1,fc.2.2.2.2.2,fc.2.1,fc.2.2.1,by dsimp only;omega,by dsimp only;omega⟩;have hPl:=lZ he;have tG:(aD L h).2=(L.drop (ai L h).2.1.toNat).take (ai L h).2.2.1.toNat:=by unfold aD gu cP;rw [if_neg ht]
 have hl:=hf.len;have Tg:=aX.2.2.1;have AG:tf L h x=splice (bP L (h,(x:Int),(ai L h).2.2.1,(ai L h).2.2.2)) x (aD L h).2:=rfl;have heq:(ai L h).1=h:=rfl;have Sz:splice L (cJ h) (dB (h,(x:Int),(ai L h).2.2.1,(ai L h).2.2.2))=bP L (h,(x:Int),(ai L h).2.2.1,(ai L h).2.2.2):=by unfold bP;rw [if_pos he]
 have HP:=af (fun(W:World) (hW:Below w.heap.size w W)=>uH a cap L h (x:Int) (ai L h).2.2.1 (ai L h).2.2.2 W (aX.below hW) he);rw [Sz] at HP;unfold EJ at HP;rw [hPl] at HP;rw [heq,AG,tG];clear AG tG he Sz heq;generalize ai L h=E at *;obtain⟨e1,e2,e3,e4⟩:=E;dsimp only at *;obtain⟨n1,n2,n3,n4,n5,n6⟩:=fc;obtain⟨X,rfl⟩:=Int.eq_ofNat_of_zero_le (show 0<=e2 by omega);obtain⟨Y,rfl⟩:=Int.eq_ofNat_of_zero_le (show 0<=e3 by omega);rw [zTn,zTn];obtain⟨p1,gP,ay⟩:=eU (P:=Tryz.prog) (t:=30) zu30 aN aX X (X+Y) (by omega) (by omega);rw [show X+Y-X=Y by omega,show((X+Y:Nat):Int)=(X:Int)+Y by omega] at gP;rw [show X+Y-X=Y by omega] at ay;have iq:((L.drop X).take Y).length=Y:=by simp;omega
 have SX:(L.drop X).take Y≠[]:=by intro e;rw [e] at iq;simp at iq;omega
 have zjK:=af ay;have vr:=af iq;have zl5:=af SX;have HC:=af (fun W=>Ah (X:Int) (Y:Int) W (by omega) (by omega));have mJ:Below w.heap.size w (w.alloc (.cells #[.int .i64 h,.int .i64 X,.int .i64 Y,.int .i64 e4] 125)):=zBr.alloc zNr _;have SQ:=rf.new w (h,(X:Int),(Y:Int),e4);obtain⟨c0,c1,c2,c3⟩:=SQ.cells;dsimp only at c1 c2;have k1:=fun n os=>cell_grown SQ.lt c1 n os
 have k2:=fun n os=>cell_grown SQ.lt c2 n os
 have HG:=af (fun n os=>(show Below w.heap.size w (grow ((w.alloc (.cells #[.int .i64 h,.int .i64 X,.int .i64 Y,.int .i64 e4] 125)).drewN n) os)/\rf (grow ((w.alloc (.cells #[.int .i64 h,.int .i64 X,.int .i64 Y,.int .i64 e4] 125)).drewN n) os) w.heap.size (h,(X:Int),(Y:Int),e4) from⟨mJ.trans (fE.mono mJ.size),SQ.below fE SQ.lt⟩));have nC:=af aX;have zfz:Hid (x+Y<=(bP L (h,(x:Int),(Y:Int),e4)).length):=af (by rw [hPl];omega);have yw:=af hPl;clear aX hf ht ay iq SX SQ c0 c1 c2 c3 mJ hPl;generalize bP L (h,(x:Int),(Y:Int),e4)=P at *;generalize (L.drop X).take Y=BO at *;generalize hN:L.length=N at *;have HN:=af hN;clear hN;go_enter Tryz.func189,Tryz.ntmps189
 go_wp2_with fail
 generalize w.alloc (.cells #[.int .i64 h,.int .i64 X,.int .i64 Y,.int .i64 e4] 125)=W at *;go_quiet_grown ((go_at_call 188;with_reducible exact Calls.grown_of (ae HC _)))
 obtain⟨aK,j6⟩:=ae HG nq osq;clear HG HC k1 k2;generalize grow (W.drewN nq) osq=w2 at *;obtain⟨c0,c1,c2,c3⟩:=j6.cells;have zln:=j6.fr 1;have Xx:=j6.lt;have Cj:=j6.at1 (x:Int);have bR:Below w.heap.size w (w2.setCell ⟨w.heap.size,1,none⟩ (.int .i64 x)):=aK.setCell zNr _;have HP3:=af (ae HP _ bR);obtain⟨d0,d1,d2,d3⟩:=Cj.cells;have cT:=af bR;dsimp only at c0 c1 c2 c3 d0 d1 d2 d3;clear j6 aK Cj bR HP;go_wp2_with fail
 refine(ae HP3).mono ?_;rintro e w4 ⟨g4,c4,cur4,rfl,tF,dO⟩;have hc4:=tF.2.2.1;rw [ae yw] at hc4;have hcut:=rY (P:=Tryz.prog) zu30 aN g4 c4 N x (by omega) hc4 (by omega);have np:=zTs cT dO;have nj:Sem.run Tryz.prog (Builtin.copy_ #[30,30] 3 #[.slice (some ⟨g4,x,none⟩) (N-x) (c4-x),.slice p1 Y (cap-X)]) w4=.ok (.int .i64 Y) (fJ w4 g4 cur4 x BO):=by have:=fz (P:=Tryz.prog) w4 30 30 3 zu30 aN _ g4 x (N-x) (c4-x) c4 cur4 p1 (cap-X) P BO (by rw [ae vr];omega) (ae zl5) (by rw [ae vr];exact ae zfz) tF ((ae zjK).below np);rw [ae vr] at this;exact this
 have HR:=af ((jb tF (show x+BO.length<=_ by rw [ae vr];exact ae zfz)).low (ae cT).size);have HB:=af (gh (cur:=cur4) (l:=BO) (off:=x) np (Nat.le_trans (ae cT).size tF.1));have qc:=af (length_splice (z:=P) (l:=BO) (off:=x) (by rw [ae vr];exact ae zfz));clear tF dO np HP3 c0 c1 c2 c3 d0 d1 d2 d3 zln;go_wp2;go_ret2;exact⟨g4,c4,_,by rw [ae qc,ae yw];rfl,ae HR,ae HB⟩
theorem NJ{L:List Int}(hf:aB L){x y:(Int×Int×Int×Int)}(hx:x∈entsK L 40)(hy:y∈entsK L 40)(h:x.2.1=y.2.1):x=y:=by
 by_cases aO:x.1=y.1
 ·exact A6 hx hy aO
 ·have h1:=my hf hx hy aO;have h2:=cR hf hx;have h3:=cR hf hy;unfold gi at h1;omega
theorem zgQ{L:List Int}(hf:aB L):∀ e∈kW L,yv e:=fun e he=>by
 have hl:=hf.len;unfold kW at he;unfold yv;rcases zMc he with rfl | he
 ·dsimp only;omega
 ·obtain⟨x,hx,rfl⟩:=List.mem_map.1 he;have:=cR hf hx;unfold tL;dsimp only;omega
theorem CQ{w:World}{a:Option Addr}{cap:Nat}{L:List Int}(aX:Bs w a cap L)(hf:aB L) :
  Calls Tryz.prog 17 #[.slice a L.length cap] w fun e w1=>∃ a1 c1,e=.returned (.tuple #[.slice a1 (entsK L 40).length c1,.nilIface])/\fG tM 4 w1 a1 c1 (entsK L 40)/\Below w.heap.size w w1 /\
   Hid (Calls Tryz.prog 185 #[.slice a1 (entsK L 40).length c1] w1 fun e w2=>∃ a2 c2,e=.returned (.slice a2 (kW L).length c2) /\
    Hid (Calls Tryz.prog 184 #[.int .i64 L.length,.slice a2 (kW L).length c2] w2 fun e w3=>∃ a3 c3,e=.returned (.tuple #[.slice a3 (dS (L.length:Int) (kW L)).length c3,.nilIface])/\GF w3 a3 c3 (dS (L.length:Int) (kW L))/\fG tM 4 w3 a1 c1 (entsK L 40)/\Below w.heap.size w w3)):=by
 have SR:=b8 L 40;have wL:=EZ hf;have F4:=kM wL;have hl:=hf.len;refine(fQ a cap L w aX hf.cW).mono ?_;rintro e w1 ⟨v1,rfl,DY,ay⟩;obtain⟨a1,c1,rfl,gP⟩:=DY.kk iI (by omega);refine⟨a1,c1,rfl,gP,ay,af ?_⟩;refine(QV a1 c1 (entsK L 40) w1 gP SR).mono ?_;rintro e w2 ⟨v2,rfl,K2,aK⟩;have zk4:re w2 w1.heap.size v2 (kW L):=K2;obtain⟨a2,c2,rfl,k7⟩:=zk4.exs (zgQ hf) (by have:=tS L;omega);refine⟨a2,c2,rfl,af ?_⟩;refine(rU (L.length:Int) a2 c2 (kW L) w2 k7).mono ?_;rintro e w3 ⟨v3,rfl,uL,bR⟩;obtain⟨a3,c3,rfl,lF⟩:=uL.exs (fun e he=>by have:=F4.1 e he;unfold yv;omega) (by omega);have cD:=ay.trans (aK.mono ay.size);exact⟨a3,c3,by rw [wL];rfl,lF,(gP.below aK).below bR,cD.trans (bR.mono cD.size)⟩
theorem RU(a:Option Addr)(cap:Nat)(L:List Int)(w:World)(aX:Bs w a cap L)(hf:aB L)(h:pX L=none) :
  Calls Tryz.prog 129 #[.slice a L.length cap] w fun e w'=>e=.returned (.tuple #[.slice none 0 0,.bool false,.nilIface])/\Below w.heap.size w w':=by
 have HR:=af (CQ aX hf);have hl:=hf.len;have SR:=b8 L 40;have mm:=tS L;have JR:=zba hf h;have F4:=(kM (EZ hf)).1;clear aX hf h;generalize dS (L.length:Int) (kW L)=FR at *;generalize entsK L 40=EN at *;generalize (kW L).length=TN at *;generalize L.length=N at *;rcases JR with rfl | ⟨⟨x,y⟩,rfl,gI⟩
 ·go_enter Tryz.func129,Tryz.ntmps129
  go_wp2_with fail
  refine(ae HR).mono ?_;rintro e w1 ⟨a1,c1,rfl,_,_,HT⟩;clear HR;go_wp2_with fail
  refine(ae HT).mono ?_;rintro e w2 ⟨a2,c2,rfl,HF⟩;clear HT;go_wp2_with fail
  refine(ae HF).mono ?_;rintro e w3 ⟨a3,c3,rfl,_,_,bR⟩;have HB:=af bR;clear HF bR;go_wp2;go_ret3;exact⟨rfl,ae HB⟩
 ·have DN:=F4 (x,y) (by simp);dsimp only at DN gI;have HNO:=af gI;clear F4 gI;go_enter Tryz.func129,Tryz.ntmps129
  go_wp2_with fail
  refine(ae HR).mono ?_;rintro e w1 ⟨a1,c1,rfl,_,_,HT⟩;clear HR;go_wp2_with fail
  refine(ae HT).mono ?_;rintro e w2 ⟨a2,c2,rfl,HF⟩;clear HT;go_wp2_with fail
  refine(ae HF).mono ?_;rintro e w3 ⟨a3,c3,rfl,lF,oq,bR⟩;obtain⟨b3,o3,rfl,BS⟩:=lF.2.2.2 (by simp);obtain⟨q0,q1⟩:=BS 0 (by simp);simp only [Nat.zero_mul,Nat.add_zero,List.getD_cons_zero] at q0 q1;have np:Below w3.heap.size w3 (w3.alloc (.cells #[.int .i64 x,.int .i64 y] 123)):=zBr.alloc zNr _;have HI:=af (xQ w3.heap.size x y a1 c1 EN (w3.alloc (.cells #[.int .i64 x,.int .i64 y] 123)) (by omega) (by omega) (oq.below np) (by rw [cell_of_row _ _ _ _ _ (0,0) (heap_alloc_new w3 _)];rfl) (by rw [cell_of_row _ _ _ _ _ (0,0) (heap_alloc_new w3 _)];rfl));have HB:=af (bR.trans (np.mono bR.size));clear HF bR lF oq BS np;go_wp2_with fail
  refine(ae HI).mono ?_;rintro e w5 ⟨i,rfl,hi,gJ⟩;have lj:=zTr HB gJ;rcases hi with ⟨rfl,_⟩ | ⟨k,f,_,hk,wO⟩
  ·clear gJ HI HB HNO;go_wp2;go_ret3;exact⟨rfl,ae lj⟩
  ·exact absurd wO (ae HNO f (List.mem_of_getElem? hk))
theorem Mw(a:Option Addr)(cap:Nat)(L:List Int)(w:World)(aX:Bs w a cap L)(hf:aB L){c:List Int}(h:pX L=some c) :
  Calls Tryz.prog 129 #[.slice a L.length cap] w fun e w'=>∃ g cp cur,e=.returned (.tuple #[.slice (some ⟨g,0,none⟩) L.length cp,.bool true,.nilIface])/\Row w' w.heap.size g cp cur c/\Below w.heap.size w w':=by
 have HR:=af (CQ aX hf);have hl:=hf.len;have SR:=b8 L 40;have mm:=tS L;have has:=(lA hf h).1;obtain⟨⟨x,y⟩,r,i,E,Ci,hi,wO,_,hc,hx,hy⟩:=za9 hf h;have XM:=List.mem_of_getElem? hi;have eQ:=cR hf XM;have F4:=(kM (EZ hf)).1 (x,y) (by rw [Ci];simp);have HUN:=af (fun(f:(Int×Int×Int×Int)) (hfm:f∈entsK L 40) (he:f.2.1=x+y)=>NJ hf hfm XM (he.trans wO.symm));dsimp only at *;obtain⟨X,rfl⟩:=Int.eq_ofNat_of_zero_le (show 0<=x by omega);rw [zTn] at hc;have HM:=af (fun(W:World) (hW:Below w.heap.size w W)=>RW a cap L E.1 X W (aX.below hW) hf eQ.2.1 eQ.2.2.1 eQ.2.2.2.1 (by omega) (by rw [<- eQ.1];omega));rw [<- eQ.1,<- hc] at HM;unfold EJ at HM;rw [has.len] at HM;have T8:=af (show ∃ f∈entsK L 40,f.2.1=(X:Int)+y from⟨E,XM,wO⟩);rw [Ci] at HR;clear aX hf h Ci hi wO XM eQ hc has;generalize entsK L 40=EN at *;generalize (kW L).length=TN at *;generalize L.length=N at *;have hr0:¬ ((r.length:Int)+1=0):=by omega
 go_enter Tryz.func129,Tryz.ntmps129
 go_wp2_with fail
 refine(ae HR).mono ?_;rintro e w1 ⟨a1,c1,rfl,_,_,HT⟩;clear HR;go_wp2_with fail
 refine(ae HT).mono ?_;rintro e w2 ⟨a2,c2,rfl,HF⟩;clear HT;go_wp2_with fail
 refine(ae HF).mono ?_;rintro e w3 ⟨a3,c3,rfl,lF,oq,bR⟩;obtain⟨b3,o3,rfl,BS⟩:=lF.2.2.2 (by simp);obtain⟨q0,q1⟩:=BS 0 (by simp);simp only [Nat.zero_mul,Nat.add_zero,List.getD_cons_zero] at q0 q1;have uJ:((X:Int),y) :: r≠[]:=by simp
 have np:Below w3.heap.size w3 (w3.alloc (.cells #[.int .i64 X,.int .i64 y] 123)):=zBr.alloc zNr _;have f0:(w3.alloc (.cells #[.int .i64 X,.int .i64 y] 123)).cell? ⟨w3.heap.size,0,none⟩=some (.int .i64 X):=by rw [cell_of_row _ _ _ _ _ (0,0) (heap_alloc_new w3 _)];rfl
 have f1:(w3.alloc (.cells #[.int .i64 X,.int .i64 y] 123)).cell? ⟨w3.heap.size,1,none⟩=some (.int .i64 y):=by rw [cell_of_row _ _ _ _ _ (0,0) (heap_alloc_new w3 _)];rfl
 have HI:=af (xQ w3.heap.size X y a1 c1 EN (w3.alloc (.cells #[.int .i64 X,.int .i64 y] 123)) (by omega) (by omega) (oq.below np) f0 f1);have HS:=af (oq.below np);have F0:=af f0;have HB:=af (bR.trans (np.mono bR.size));have Ge:=lF.2.2.1;rw [zLc] at Ge ⊢;clear HF bR lF oq BS np f0 f1;generalize hRL:r.length+1=RL at *;have zmM:(0:Int)<(RL:Int):=by omega
 clear hRL;go_wp2_with fail
 refine(ae HI).mono ?_;rintro e w5 ⟨i5,rfl,hi5,gJ⟩;have zc:=zTs HB gJ;rcases hi5 with ⟨rfl,gI⟩ | ⟨k,f,rfl,hk,ziF⟩
 ·obtain⟨f,K4,hf2⟩:=ae T8;exact absurd hf2 (gI f K4)
 ·obtain rfl:=ae HUN f (List.mem_of_getElem? hk) ziF;have BR:=(zLs hk).1;obtain⟨b1,o1,rfl,dR⟩:=((ae HS).below gJ).2.2.2 (by intro e;rw [e] at BR;simp at BR);obtain⟨e0,e1,e2,e3⟩:=fG.jB (cap:=0) dR hk;have g0:=(gJ.cell (p:=⟨w3.heap.size,0,none⟩) (block_lt_of_cell (ae F0))).trans (ae F0);have sE:Below w5.heap.size w5 w5.drew:=bq zBr;have ZA:Hid (Calls Tryz.prog 189 #[.slice a N cap,.agg #[.int .i64 f.1,.int .i64 f.2.1,.int .i64 f.2.2.1,.int .i64 f.2.2.2],.int .i64 X] w5.drew fun e w'=>∃ g cp cur,e=.returned (.tuple #[.slice (some ⟨g,0,none⟩) N cp,.nilIface])/\Row w' w.heap.size g cp cur c/\Below w.heap.size w w'/\w'.cell? ⟨b1,o1+k * 4,none⟩=some (.int .i64 f.1)/\w'.cell? ⟨b1,o1+k * 4+1,none⟩=some (.int .i64 f.2.1)/\w'.cell? ⟨b1,o1+k * 4+2,none⟩=some (.int .i64 f.2.2.1)/\w'.cell? ⟨b1,o1+k * 4+3,none⟩=some (.int .i64 f.2.2.2)/\w'.cell? ⟨w3.heap.size,0,none⟩=some (.int .i64 X)):=af (by have hBd:=zc.trans (sE.mono zc.size);refine(ae HM _ hBd).mono ?_;rintro e w' ⟨g,cp,cur,rfl,hr,hb⟩;have tp:=sE.trans (hb.mono sE.size);exact⟨g,cp,cur,rfl,hr.low hBd.size,hBd.trans (hb.mono hBd.size),(tp.cell (block_lt_of_cell e0)).trans e0,(tp.cell (block_lt_of_cell e1)).trans e1,(tp.cell (block_lt_of_cell e2)).trans e2,(tp.cell (block_lt_of_cell e3)).trans e3,(tp.cell (p:=⟨w3.heap.size,0,none⟩) (block_lt_of_cell g0)).trans g0⟩);obtain⟨z1,z2,z3,z4⟩:=f;dsimp only at *;have hkE:(k:Int)<(EN.length:Int):=by omega
  clear gJ zc HI HS HB T8 HUN HM hk dR F0 ziF sE;generalize EN.length=M at *;go_wp2_with fail
  go_region_held3 (fun w'=>w'.cell? ⟨b1,o1+k * 4,none⟩=some (.int .i64 z1)/\w'.cell? ⟨b1,o1+k * 4+1,none⟩=some (.int .i64 z2)/\w'.cell? ⟨b1,o1+k * 4+2,none⟩=some (.int .i64 z3)/\w'.cell? ⟨b1,o1+k * 4+3,none⟩=some (.int .i64 z4)/\w'.cell? ⟨w3.heap.size,0,none⟩=some (.int .i64 X)) (first | go_keep | (go_split_ands;refine⟨?_,?_,?_,?_,?_⟩ <;> go_keep))
   ((go_at_call 189;refine(ae ZA).mono ?_;rintro e w6 ⟨g6,c6,cur6,rfl,JE,tK,r0,r1,r2,r3,r4⟩))
  have Zs:=af JE;have UB:=af tK;clear JE tK ZA e0 e1 e2 e3 g0 r0 r1 r2 r3 r4;go_wp2_with fail
  go_quiet (fail)
  go_wp2;go_ret3;exact⟨g6,c6,cur6,rfl,⟨(ae Zs).1,(ae Zs).2⟩,yo (ae UB) nq⟩
theorem zbc{L c:List Int}(hb:bj L)(h:pX L=some c):bj c:=by
 unfold pX at h;cases h2:mvOn 288 (dh L) with
 | none=>rw [h2] at h;cases h
 | some x =>
  rw [h2] at h;obtain rfl:tf L x.1.1 x.2.toNat=c:=by simpa using h
  exact Mv hb _ _
theorem I6(a:Option Addr)(cap:Nat)(L:List Int)(w:World)(aX:Bs w a cap L)(hf:aB L) :
  Calls Tryz.prog 64 #[.slice a L.length cap] w fun e w'=>∃ a' c',e=.returned (.tuple #[.slice a' L.length c',.int .i64 (wg 288 (dh L)),.nilIface])/\Bs w' a' c' (Dp L)/\Below w.heap.size w w':=by
 have h40:=we (L:=L);have qh:Hid (∃ M:List Int,aB M/\M.length=L.length/\0+wg 288 (dh M)=wg 288 (dh L)/\Dp M=Dp L/\Bs w a cap M):=af ⟨L,hf,rfl,Nat.zero_add _,rfl,aX⟩;have Tg:=aX.2.2.1;clear aX hf;generalize wg 288 (dh L)=K at *;generalize Dp L=MA at *;generalize hN:L.length=N at *;clear hN;go_enter Tryz.func64,Tryz.ntmps64
 go_wp2_with fail
 go_loopw [0,5] (fun bv nv wr=>∃ (k:Nat) (q:Option Addr) (cq:Nat) (M:List Int),k<=K/\bv=.slice q N cq/\nv=.int .i64 k/\aB M/\M.length=N/\k+wg 288 (dh M)=K/\Dp M=MA/\Bs wr q cq M/\Below w.heap.size w wr) (fun _ nv _=>41-(intOf nv).toNat)
 case atStart =>obtain⟨M,m1,m2,m3,m4,m5⟩:=ae qh;exact⟨0,a,cap,M,Nat.zero_le _,rfl,rfl,m1,m2,m3,m4,m5,zBr⟩
 case round =>
  obtain⟨k,q,cq,M,hk,rfl,rfl,m1,m2,m3,m4,m5,ao⟩:=hrel;cases hq:pX M with
  | none =>
   have HC:=af (RU q cq M wr m5 m1 hq);rw [m2] at HC;have hK:k=K:=by have:=(I7 m1 hq).2;omega
   have HA:Hid (M=MA):=af (by rw [<- m4,Wi hq]);have nC:=af m5;have aQ:=af ao;have HK:=af hK;clear m1 m2 m3 m4 m5 ao hK hq qh;go_wp2_with fail
   refine(ae HC).mono ?_;rintro e w1 ⟨rfl,ay⟩;have aL:=zTr aQ ay;have zfH:=af ((ae nC).below ay);clear ay HC nC aQ;go_wp2;go_ret3;exact⟨q,cq,by rw [ae HK];rfl,by rw [<- ae HA];exact ae zfH,ae aL⟩
  | some c =>
   have HC:=af (Mw q cq M wr m5 m1 hq);rw [m2] at HC;obtain⟨has,hn⟩:=lA m1 hq;have ik:=zbc m5.1 hq;have mH:c.length=N:=by rw [has.len];exact m2
   have H1:=af has.aV;have H2:=af mH;have H3:Hid (k+1+wg 288 (dh c)=K):=af (by omega);have H4:Hid (Dp c=MA):=af (by rw [<- m4,Wh m1 hq]);have hkK:k+1<=K:=by omega
   have ic:=af ik;have aQ:=af ao;clear m1 m2 m3 m4 m5 ao hq qh has hn ik mH;go_wp2_with fail
   refine(ae HC).mono ?_;rintro e w1 ⟨g1,c1,cur1,rfl,sx,ay⟩;have aL:=zTr aQ ay;have zfH:=af (sx.bs (ae ic) (by rw [ae H2];omega));clear ay HC aQ sx;go_wp2;go_roundw
   case rel=>exact⟨k+1,some ⟨g1,0,none⟩,c1,c,hkK,rfl,by go_num,ae H1,ae H2,ae H3,ae H4,ae zfH,ae aL⟩
   case measure=>simp [intOf];omega
section
variable {w:World} {B p g c:Nat} {L:List Int}
theorem wh(h:Hp w B p g c L)(hB:B<=w.heap.size) :
  Calls Tryz.prog 19 #[.pointer (some ⟨p,0,none⟩)] w fun e w'=>e=.returned (.tuple #[.int .i64 (wg 288 (dh L)),.nilIface])/\∃ g' c',Hp w' B p g' c' (Dp L)/\aE (bA p g) (bA p g') w w':=by
 have HB:=af (cZ p g c B L w h);obtain⟨has,_⟩:=My h.aV;have fS:=h.kV;have hlen:=h.len;have HS:=af (fun(W:World) (a1:Option Addr) (c1:Nat) (aX:Bs W a1 c1 L)=>I6 a1 c1 L W aX h.aV);have HR:=af (fun(W:World) (hW:Below w.heap.size w W) (a2:Option Addr) (c2:Nat) (aX:Bs W a2 c2 (Dp L))=>pz (h.below hW) (Nat.le_trans hB hW.size) aX has.aV has.len);rw [has.len] at HR;have ic:=af fS;clear h fS has;generalize wg 288 (dh L)=K at *;generalize Dp L=MA at *;generalize hN:L.length=N at *;have HN:=af hN;clear hN;go_enter Tryz.func19,Tryz.ntmps19
 go_wp2_with fail
 refine(ae HB).mono ?_;rintro e w1 ⟨a1,c1,rfl,DY,ay⟩;obtain⟨a1',c1',e1,jN⟩:=DY.bs (ae ic) (by rw [ae HN];omega);rw [ae HN] at e1;simp only [Value.slice.injEq,true_and] at e1;obtain⟨rfl,rfl⟩:=e1;have mB:=af (ae HS w1 a1 c1 jN);have aL:=af ay;clear DY ay jN HB HS;go_wp2_with fail
 refine(ae mB).mono ?_;rintro e w2 ⟨a2,c2,rfl,fD,aK⟩;have cD:=zTs aL aK;have tN:=af (ae HR w2 cD a2 c2 fD);have br:=af cD;clear fD aK cD mB HR aL;go_wp2_with fail
 refine(ae tN).mono ?_;rintro e w3 ⟨rfl,g3,c3,hh3,tD⟩;have HH3:=af hh3;have Ux:=af ((aE.aW (S:=bA p g) (ae br)).trans tD);clear hh3 tD tN br;go_wp2;go_ret2
 first
  | exact⟨rfl,g3,c3,ae HH3,ae Ux⟩
  | exact⟨rfl,g3,⟨c3,ae HH3⟩,ae Ux⟩
end
end Go.Proofs.YtcimhnnendlblaaGreat
