import Derived.Test.YtoiebmeajhpgcaaGreatDoorJMvp
import Derived.Test.YtoiebmeajhpgcaaGreatDoorJHq
set_option maxRecDepth 100000
set_option maxHeartbeats 16000000
set_option linter.all false
namespace Go.Proofs.YtoiebmeajhpgcaaGreatDoor
variable {e:(Int×I3)}{w:World}{L c:LI}
open Tryz
open Go.RowKit Go.Sort
theorem EL x y w(hx:0<=x/\x<=100000)(hy:0<=y/\y<=100000) :
  zC 256 #[.agg #[zi x,zi y]] w (zr (zi (x+y)) fun w'=>∃q os,w'=grow (w.drewN q) os):=by
 go_enter func256,ntmps256
 exact zi1
theorem zhG{l:List (Int×I3)}{k}(h:l[k]?=some e):(0,288)::((l.map yX).take (k+1))=((0,288)::(l.map yX).take k)++[(e.2.1,e.2.2.1)]:=zjj
theorem Xx a cap l w(hs:fF xY 4 w a cap l)(hl:l.length<=40) :
  zC 253 #[.slice a l.length cap] w fun e w'=>∃v,e=.returned v/\cX lG 2 122 w' w.heap.size v ((0,288)::l.map yX)/\zB w w':=by
 obtain⟨i0,dU,cO,cU,cV⟩:=qAO E7;have ma:=hs.2.2.1;have HS:=ae hs;have fP:Hid (cX lG 2 122 (w.alloc (.cells #[zi 0,zi 288] 122)) w.heap.size (.slice (some (zp w.heap.size)) 1 1) [(0,288)]):=ae ⟨rfl,.inr ⟨w.heap.size,1,#[zi 0,zi 288],rfl,zNr,qAB w _,zNr,Si,rfl,rfl⟩⟩;go_enter func253,ntmps253
 go_wp2_with fail
 go_loopw [3,10] (fun v iv wr=>∃k:Nat,k<=l.length/\iv=zi k/\cX lG 2 122 wr w.heap.size v ((0,288)::(l.map yX).take k)/\zB w wr) (fun _ iv _=>l.length-(intOf iv).toNat)
 case atStart=>exact⟨0,qAH _,rfl,fP,zBr.alloc zNr _⟩
 case round =>
  obtain⟨k,hk,rfl,az,ai⟩:=hrel;obtain⟨va,vm,vc,rfl⟩:=az.shape;by_cases aB:k<l.length
  ·have aG:l≠[]:=by intro e;rw[e]at aB;simp at aB
   obtain⟨b1,o1,rfl,eT⟩:=(HS.below ai).2.2.2 aG;obtain⟨f,hf⟩:∃f,l[k]?=some f:=⟨l[k],zLg aB⟩;obtain⟨q0,q1,q2,q3⟩:=fF.nE (cap:=0) eT hf;have HT:=ae (zhG hf);have tM:((0,288)::(l.map yX).take k).length<=41:=Tb;obtain⟨x,y,z,t⟩:=f;dsimp only at*;have ia:=ai.alloc ai.size (.cells #[zi x,zi y,zi z,zi t] 124);have dF:=ae (ia.alloc ia.size (.cells #[zi y,zi z] 122));have oE:=ae ((az.below (zBr.alloc zNr (.cells #[zi x,zi y,zi z,zi t] 124))).below (zBr.alloc zNr (.cells #[zi y,zi z] 122)));have kq:=ae (by have:=qAB (wr.alloc (.cells #[zi x,zi y,zi z,zi t] 124)) (.cells #[zi y,zi z] 122);rw[cJ]at this;exact this);have bW:=ai.size;generalize (0,288)::(l.map yX).take k=TK at*;go_wp2_with (at_builtin;refine aS rfl _ _ 94 rfl w.heap.size i0 (.agg #[zi 0,zi 0]) 16 underlying94 dU cO cU cV rfl Si Si _ _ rfl oE (wr.heap.size+1) (y,z) rfl kq rfl (LR _) Sg Tb ?_)
   intro v9 w9 aU dS;rw[<-aa HT]at aU;have pO:=ae aU;have kE:=ae (dF.trans dS);obtain⟨a9,m9,c9,rfl⟩:=aU.shape;exact nd
  ·exact Le
theorem XC q(e:(Int×I3)) x y w(hx:0<=x/\x<=100000)(hy:0<=y/\y<=100000)(h0:w.cell? (zp q)=some (zi x))(h1:w.cell? (zw q 1)=some (zi y)) :
  zC 255 #[.agg #[zi e.1,zi e.2.1,zi e.2.2.1,zi e.2.2.2],zq q] w fun r w'=>r=.returned (.bool (e.2.1 == x+y))/\zB w w':=by
 obtain⟨z1,z2,z3,z4⟩:=e;dsimp only;have mixed:prog.follows .mixedOrders=true:=SQ;have HC:=ae (fun W=>EL x y W hx hy);have hq:=qAA h0;dsimp only at hq;have gj:=qB.new w (z1,z2,z3,z4);obtain⟨c0,c1,c2,c3⟩:=gj.cells;have d0:(w.alloc (.cells #[zi z1,zi z2,zi z3,zi z4] 124)).cell? (zp q)=some (zi x):=(((Below.refl w.heap.size w).alloc zNr _).cell (qAA h0)).trans h0;have d1:(w.alloc (.cells #[zi z1,zi z2,zi z3,zi z4] 124)).cell? (zw q 1)=some (zi y):=(((Below.refl w.heap.size w).alloc zNr _).cell (qAA h1)).trans h1;dsimp only at c1;have l0:=fun n os=>cell_grown (w:=w.alloc (.cells #[zi z1,zi z2,zi z3,zi z4] 124)) Tb d0 n os
 have l1:=fun n os=>cell_grown (w:=w.alloc (.cells #[zi z1,zi z2,zi z3,zi z4] 124)) Tb d1 n os
 have l2:=fun n os=>cell_grown (w:=w.alloc (.cells #[zi z1,zi z2,zi z3,zi z4] 124)) Sk c1 n os
 have hB:zB w (w.alloc (.cells #[zi z1,zi z2,zi z3,zi z4] 124)):=zBr.alloc zNr _;have HF:=ae (fun n os=>hB.trans ((mT (w:=w.alloc (.cells #[zi z1,zi z2,zi z3,zi z4] 124)) (q:=n) (os:=os)).mono hB.size));generalize x+y=s at*;go_enter func255,ntmps255
 go_wp2_with fail
 generalize w.alloc (.cells #[zi z1,zi z2,zi z3,zi z4] 124)=W at*;go_quiet_grown ((go_at_call 256;with_reducible exact Calls.grown_of (aa HC _)))
 exact zlW
theorem Ck q x y a cap l w(hx:0<=x/\x<=100000)(hy:0<=y/\y<=100000)(hs:fF xY 4 w a cap l)(h0:w.cell? (zp q)=some (zi x))(h1:w.cell? (zw q 1)=some (zi y)) :
  zC 254 #[.slice a l.length cap,.func (.func 255) #[] #[zq q]] w fun e w'=>∃i:Int,e=.returned (zi i)/\((i=-1/\∀f∈l,f.2.1≠x+y)\/∃ (k:Nat) (f:(Int×I3)),i=k/\l[k]?=some f/\f.2.1=x+y)/\zB w w':=by
 have hl:=hs.2.2.1;have HS:=ae hs;have H0:=ae h0;have H1:=ae h1;go_enter func254,ntmps254
 go_wp2;go_loopw [5,8] (fun _ iv wr=>∃k:Nat,k<=l.length/\iv=zi k/\(∀f∈l.take k,f.2.1≠x+y)/\zB w wr) (fun _ iv _=>l.length-(intOf iv).toNat)
 case atStart=>exact⟨0,qAH _,rfl,fun f hf=>by simp at hf,zBr⟩
 case round =>
  obtain⟨k,hk,rfl,hV,ai⟩:=hrel;by_cases aB:k<l.length
  ·have aG:l≠[]:=by intro e;rw[e]at aB;simp at aB
   obtain⟨b1,o1,rfl,eT⟩:=(HS.below ai).2.2.2 aG;obtain⟨f,hf⟩:∃f,l[k]?=some f:=⟨l[k],zLg aB⟩;obtain⟨q0,q1,q2,q3⟩:=fF.nE (cap:=0) eT hf;have g0:=(ai.cell (qAA H0)).trans H0;have g1:=(ai.cell (qAA H1)).trans H1;have HC:=ae (XC q f x y wr hx hy g0 g1);have eF:l.take (k+1)=l.take k++[f]:=by rw[qAv,hf];rfl
   have HFK:=ae hf;have fP:=ae eF;have HV:=ae hV;have aJ:=ae ai;obtain⟨z1,z2,z3,z4⟩:=f;dsimp only at*;generalize We:x+y=s at*;have HS9:=ae We;cases he:(z2 == s)
   ·rw[he]at HC;have HNE:=ae (qAU.1 he);go_wp2_with (go_at_call 255;refine HC.m ?_;intro w1 ay;have aQ:=zTr aJ ay)
    go_roundw
    case rel =>
     refine⟨k+1,Sg,Tc,fun f hf=>?_,aQ⟩;rw[aa fP]at hf;rcases zMa hf with hf | hf
     ·exact HV f hf
     ·rw[zMs hf];exact HNE
    case measure=>exact Te
   ·rw[he]at HC;have JY:=ae (eq_of_beq he);go_wp2_with (go_at_call 255;refine HC.m ?_;intro w1 ay;have aQ:=zTr aJ ay)
    go_ret;exact⟨k,rfl,.inr ⟨k,_,rfl,HFK,JY.trans HS9.symm⟩,aQ⟩
  ·have Rn:k=l.length:=by omega
   rw[Rn,qAk]at hV;have HV:=ae hV;have aJ:=ae ai;go_wp2;go_ret
   first
    | exact⟨-1,rfl,.inl ⟨rfl,HV⟩,aJ⟩
    | exact⟨-1,rfl,.inl ⟨rfl,fun a b c d hm=>HV (a,b,c,d) hm⟩,aJ⟩
theorem qB.at1{g}(h:qB w g e) z:qB (w.setCell (zw g 1) (zi z)) g (e.1,z,e.2.2):=qAI w g 1 _ _ (zi z) h
theorem YO a cap L h(x:Nat) w(aH:Bs w a cap L)(hf:aD L)(h1:1<=h)(h2:h<=40)(ht:aw L h≠0)(hx:288<=x)(hle:(x:Int)<=(ao L h).2.1) :
  zC 257 #[.slice a L.length cap,.agg #[zi (ao L h).1,zi (ao L h).2.1,zi (ao L h).2.2.1,zi (ao L h).2.2.2],zi x] w (Q6 w (wY L h x) .nilIface):=by
 have mixed:prog.follows .mixedOrders=true:=SQ;have gj:=hf.nE h1 h2 ht;have he:dJ L (h,(x:Int),(ao L h).2.2.1,(ao L h).2.2.2)=0:=df.2 ⟨hf.gR,aN.2 ⟨h1,h2⟩,gj.2.2.2.2.1,gj.2.2.2.2.2,gj.2.1,gj.2.2.1,Tu,Tu⟩;have hPl:=nP he;have yG:(bw L h).2=(L.drop (ao L h).2.1.toNat).take (ao L h).2.2.1.toNat:=by unfold bw nQ ju;rw[zn ht]
 have hl:=hf.len;have hLl:=aH.2.2.1;have CZ:wY L h x=splice (cR L (h,(x:Int),(ao L h).2.2.1,(ao L h).2.2.2)) x (bw L h).2:=rfl;have heq:(ao L h).1=h:=rfl;have Lk:splice L (bT h) (fg (h,(x:Int),(ao L h).2.2.1,(ao L h).2.2.2))=cR L (h,(x:Int),(ao L h).2.2.1,(ao L h).2.2.2):=zlg;have HP:=ae (fun(W:World) (hW:zB w W)=>Pf a cap L h (x:Int) (ao L h).2.2.1 (ao L h).2.2.2 W (aH.below hW) he);rw[Lk]at HP;unfold Q6 at HP;rw[hPl]at HP;rw[heq,CZ,yG];clear CZ yG he Lk heq;generalize ao L h=E at*;obtain⟨e1,e2,e3,e4⟩:=E;dsimp only at*;obtain⟨n1,n2,n3,n4,n5,n6⟩:=gj;obtain⟨X,rfl⟩:=qAN (show 0<=e2 by omega);obtain⟨Y,rfl⟩:=qAN (show 0<=e3 by omega);rw[zTn,zTn];obtain⟨p1,fQ,ay⟩:=dP (P:=prog) (t:=29) underlying29 aT aH X (X+Y) Sg Sg;rw[show X+Y-X=Y by omega,show((X+Y:Nat):Int)=(X:Int)+Y by omega]at fQ;rw[show X+Y-X=Y by omega]at ay;have fC:((L.drop X).take Y).length=Y:=Tb;have zhp:(L.drop X).take Y≠[]:=by intro e;rw[e]at fC;simp at fC;omega
 have zoX:=ae ay;have pQ:=ae fC;have zro:=ae zhp;have HC:=ae (fun W=>EL (X:Int) (Y:Int) W Sg Sg);have uD:zB w (w.alloc (.cells #[zi h,zi X,zi Y,zi e4] 124)):=zBr.alloc zNr _;have ZH:=qB.new w (h,(X:Int),(Y:Int),e4);obtain⟨c0,c1,c2,c3⟩:=ZH.cells;dsimp only at c1 c2;have k1:=fun n os=>cell_grown ZH.lt c1 n os
 have k2:=fun n os=>cell_grown ZH.lt c2 n os
 have HG:=ae (fun n os=>(show zB w (grow ((w.alloc (.cells #[zi h,zi X,zi Y,zi e4] 124)).drewN n) os)/\qB (grow ((w.alloc (.cells #[zi h,zi X,zi Y,zi e4] 124)).drewN n) os) w.heap.size (h,(X:Int),(Y:Int),e4)from⟨uD.trans (mT.mono uD.size),ZH.below mT ZH.lt⟩));have qp:=ae aH;have zlP:Hid (x+Y<=(cR L (h,(x:Int),(Y:Int),e4)).length):=ae (by rw[hPl];omega);have yZ:=ae hPl;generalize cR L (h,(x:Int),(Y:Int),e4)=P,(L.drop X).take Y=BO at*;generalize hN:L.length=N at*;have HN:=ae hN;go_enter func257,ntmps257
 go_wp2_with fail
 generalize w.alloc (.cells #[zi h,zi X,zi Y,zi e4] 124)=W at*;go_quiet_grown ((go_at_call 256;with_reducible exact Calls.grown_of (aa HC _)))
 obtain⟨aK,qc⟩:=HG nq osq;clear HG HC k1 k2;generalize grow (W.drewN nq) osq=w2 at*;obtain⟨c0,c1,c2,c3⟩:=qc.cells;have zqo:=qc.fr 1;have Pt:=qc.lt;have Lx:=qc.at1 (x:Int);have bD:zB w (w2.setCell (zw w.heap.size 1) (zi x)):=aK.setCell zNr _;have HP3:=ae (HP _ bD);obtain⟨d0,d1,d2,d3⟩:=Lx.cells;have dF:=ae bD;dsimp only at c0 c1 c2 c3 d0 d1 d2 d3;clear qc aK Lx bD HP;go_wp2_with fail
 refine HP3.mono ?_;rintro e w4 ⟨g4,c4,cur4,rfl,rG,eU⟩;have hc4:=rG.2.2.1;rw[aa yZ]at hc4;have hcut:=LX (P:=prog) underlying29 aT g4 c4 N x Sg hc4 Sg;have qW:=zTs dF eU;have l9:Sem.run prog (Builtin.copy_ #[29,29] 3 #[.slice (some (zw g4 x)) (N-x) (c4-x),.slice p1 Y (cap-X)]) w4=.ok (zi Y) (lB w4 g4 cur4 x BO):=by have:=nk (P:=prog) w4 29 29 3 underlying29 aT _ g4 x (N-x) (c4-x) c4 cur4 p1 (cap-X) P BO (by rw[aa pQ];omega) zro (by rw[aa pQ];exact zlP) rG (zoX.below qW);rw[aa pQ]at this;exact this
 have HR:=ae ((sf rG (show x+BO.length<=_ by rw[aa pQ];exact zlP)).low dF.size);have HB:=ae (qS (cur:=cur4) (l:=BO) (off:=x) qW (qAF dF.size rG.1));have Db:=ae (length_splice (z:=P) (l:=BO) (off:=x) (by rw[aa pQ];exact zlP));clear rG eU qW HP3 c0 c1 c2 c3 d0 d1 d2 d3 zqo;go_wp2;go_ret2;exact⟨g4,c4,_,by rw[aa Db,aa yZ];rfl,HR,HB⟩
theorem Uy(hf:aD L){x y}(hx:x∈entsK L 40)(hy:y∈entsK L 40)(h:x.2.1=y.2.1):x=y:=by
 by_cases aG:x.1=y.1
 ·exact FH hx hy aG
 ·have h1:=qj hf hx hy aG;have h2:=eN hf hx;have h3:=eN hf hy;unfold iK at h1;omega
theorem zmF(hf:aD L):∀e∈om L,uc e:=fun e he=>by
 have hl:=hf.len;unfold om at he;unfold uc;rcases zMc he with rfl|he
 ·exact Tu
 ·obtain⟨x,hx,rfl⟩:=qAT.1 he;have:=eN hf hx;exact zhF
theorem Ij{a}{cap}(aH:Bs w a cap L)(hf:aD L) :
  zC 128 #[.slice a L.length cap] w fun e w1=>∃a1 c1,e=zt #[.slice a1 (entsK L 40).length c1,.nilIface]/\fF xY 4 w1 a1 c1 (entsK L 40)/\zB w w1 /\
   Hid (zC 253 #[.slice a1 (entsK L 40).length c1] w1 fun e w2=>∃a2 c2,e=.returned (.slice a2 (om L).length c2) /\
    Hid (zC 210 #[zi L.length,.slice a2 (om L).length c2] w2 fun e w3=>∃a3 c3,e=zt #[.slice a3 (aO (L.length:Int) (om L)).length c3,.nilIface]/\xB w3 a3 c3 (aO (L.length:Int) (om L))/\fF xY 4 w3 a1 c1 (entsK L 40)/\zB w w3)):=by
 have hel:=dt L 40;have yK:=Kd hf;have tL:=ez yK;have hl:=hf.len;refine(mQ a cap L w aH hf.gR).mono ?_;rintro e w1 ⟨v1,rfl,ru,ay⟩;obtain⟨a1,c1,rfl,fQ⟩:=ru.uM pd Sg;refine⟨a1,c1,rfl,fQ,ay,ae ?_⟩;refine(Xx a1 c1 (entsK L 40) w1 fQ hel).mono ?_;rintro e w2 ⟨v2,rfl,nU,aK⟩;have zp8:oe w2 w1.heap.size v2 (om L):=nU;obtain⟨a2,c2,rfl,mh⟩:=zp8.Z9 (zmF hf) (by have:=zb L;omega);refine⟨a2,c2,rfl,ae ?_⟩;refine(pK (L.length:Int) a2 c2 (om L) w2 mh).mono ?_;rintro e w3 ⟨v3,rfl,xi,bD⟩;obtain⟨a3,c3,rfl,yE⟩:=xi.Z9 (fun e he=>by have:=tL.1 e he;unfold uc;omega) Sg;have dr:=ay.trans (aK.mono ay.size);exact⟨a3,c3,by rw[yK];rfl,yE,(fQ.below aK).below bD,dr.trans (bD.mono dr.size)⟩
theorem YM a cap L w(aH:Bs w a cap L)(hf:aD L)(h:rW L=none) :
  zC 206 #[.slice a L.length cap] w (zr (.tuple #[.slice none 0 0,.bool false,.nilIface]) fun w'=>zB w w'):=by
 have HR:=ae (Ij aH hf);have hl:=hf.len;have hel:=dt L 40;have htl:=zb L;have uo:=zgH hf h;have tL:=(ez (Kd hf)).1;generalize aO (L.length:Int) (om L)=FR,entsK L 40=EN,(om L).length=TN at*;generalize L.length=N at*;rcases uo with rfl|⟨⟨x,y⟩,rfl,ig⟩
 ·go_enter func206,ntmps206
  go_wp2_with fail
  refine HR.mono ?_;rintro e w1 ⟨a1,c1,rfl,_,_,HT⟩;clear HR;go_wp2_with fail
  refine HT.mono ?_;rintro e w2 ⟨a2,c2,rfl,HF⟩;clear HT;go_wp2_with fail
  refine HF.mono ?_;rintro e w3 ⟨a3,c3,rfl,_,_,bD⟩;have HB:=ae bD;clear HF bD;go_wp2;go_ret3;exact zpQ
 ·have Gv:=tL (x,y) Sk;dsimp only at Gv ig;have Mi:=ae ig;clear tL ig;go_enter func206,ntmps206
  go_wp2_with fail
  refine HR.mono ?_;rintro e w1 ⟨a1,c1,rfl,_,_,HT⟩;clear HR;go_wp2_with fail
  refine HT.mono ?_;rintro e w2 ⟨a2,c2,rfl,HF⟩;clear HT;go_wp2_with fail
  refine HF.mono ?_;rintro e w3 ⟨a3,c3,rfl,yE,xF,bD⟩;obtain⟨b3,o3,rfl,uQ⟩:=yE.2.2.2 Sk;obtain⟨q0,q1⟩:=uQ 0 Sk;simp only[Nat.zero_mul,qAq,List.getD_cons_zero]at q0 q1;have qW:zB w3 (w3.alloc (.cells #[zi x,zi y] 122)):=zBr.alloc zNr _;have HI:=ae (Ck w3.heap.size x y a1 c1 EN (w3.alloc (.cells #[zi x,zi y] 122)) Sg Sg (xF.below qW) zfT zfT);have HB:=ae (bD.trans (qW.mono bD.size));clear HF bD yE xF uQ qW;go_wp2_with fail
  refine HI.mono ?_;rintro e w5 ⟨i,rfl,hi,il⟩;have oM:=zTr HB il;rcases hi with ⟨rfl,_⟩|⟨k,f,_,hk,rI⟩
  ·clear il HI HB Mi;go_wp2;go_ret3;exact⟨rfl,oM⟩
  ·exact absurd rI (Mi f (qAs hk))
theorem Tr a cap L w(aH:Bs w a cap L)(hf:aD L)(h:rW L=some c) :
  zC 206 #[.slice a L.length cap] w fun e w'=>∃g cp cur,e=zt #[.slice (zo g) L.length cp,.bool true,.nilIface]/\Row w' w.heap.size g cp cur c/\zB w w':=by
 have HR:=ae (Ij aH hf);have hl:=hf.len;have hel:=dt L 40;have htl:=zb L;have has:=(oS hf h).1;obtain⟨⟨x,y⟩,r,i,E,kA,hi,rI,_,hc,hx,hy⟩:=zgG hf h;have Ly:=qAs hi;have fu:=eN hf Ly;have tL:=(ez (Kd hf)).1 (x,y) (by rw[kA];simp);have HUN:=ae (fun(f:(Int×I3)) (hfm:f∈entsK L 40) (he:f.2.1=x+y)=>Uy hf hfm Ly (he.trans rI.symm));dsimp only at*;obtain⟨X,rfl⟩:=qAN (show 0<=x by omega);rw[zTn]at hc;have HM:=ae (fun(W:World) (hW:zB w W)=>YO a cap L E.1 X W (aH.below hW) hf fu.2.1 fu.2.2.1 fu.2.2.2.1 Sg (by rw[<-fu.1];omega));rw[<-fu.1,<-hc]at HM;unfold Q6 at HM;rw[has.len]at HM;have HNE:=ae (show ∃f∈entsK L 40,f.2.1=(X:Int)+y from⟨E,Ly,rI⟩);rw[kA]at HR;clear aH hf h kA hi rI Ly fu hc has;generalize entsK L 40=EN at*;generalize (om L).length=TN at*;generalize L.length=N at*;go_enter func206,ntmps206
 go_wp2_with fail
 refine HR.mono ?_;rintro e w1 ⟨a1,c1,rfl,_,_,HT⟩;go_wp2_with fail
 refine HT.mono ?_;rintro e w2 ⟨a2,c2,rfl,HF⟩;go_wp2_with fail
 refine HF.mono ?_;rintro e w3 ⟨a3,c3,rfl,yE,xF,bD⟩;obtain⟨b3,o3,rfl,uQ⟩:=yE.2.2.2 Sk;obtain⟨q0,q1⟩:=uQ 0 Sk;simp only[Nat.zero_mul,qAq,List.getD_cons_zero]at q0 q1;have qW:zB w3 (w3.alloc (.cells #[zi X,zi y] 122)):=zBr.alloc zNr _;have f0:(w3.alloc (.cells #[zi X,zi y] 122)).cell? (zp w3.heap.size)=some (zi X):=zfT;have f1:(w3.alloc (.cells #[zi X,zi y] 122)).cell? (zw w3.heap.size 1)=some (zi y):=zfT;have HI:=ae (Ck w3.heap.size X y a1 c1 EN (w3.alloc (.cells #[zi X,zi y] 122)) Sg Sg (xF.below qW) f0 f1);have HS:=ae (xF.below qW);have F0:=ae f0;have HB:=ae (bD.trans (qW.mono bD.size));have Lz:=yE.2.2.1;rw[zLc]at Lz ⊢;clear HF bD yE xF uQ qW f0 f1;generalize hRL:r.length+1=RL at*;have zsA:(0:Int)<(RL:Int):=Sg;clear hRL;go_wp2_with fail
 refine HI.mono ?_;rintro e w5 ⟨i5,rfl,hi5,il⟩;have LF:=zTs HB il;rcases hi5 with ⟨rfl,ig⟩|⟨k,f,rfl,hk,zog⟩
 ·obtain⟨f,Fl,hf2⟩:=aa HNE;exact absurd hf2 (ig f Fl)
 ·obtain rfl:=HUN f (qAs hk) zog;have tP:=(zLs hk).1;obtain⟨b1,o1,rfl,eT⟩:=(HS.below il).2.2.2 zlG;obtain⟨e0,e1,e2,e3⟩:=fF.nE (cap:=0) eT hk;have g0:=(il.cell (p:=⟨w3.heap.size,0,none⟩) (qAA F0)).trans F0;have iT:zB w5 w5.drew:=bF zBr;have HM5:Hid (zC 257 #[.slice a N cap,.agg #[zi f.1,zi f.2.1,zi f.2.2.1,zi f.2.2.2],zi X] w5.drew fun e w'=>∃g cp cur,e=zt #[.slice (zo g) N cp,.nilIface]/\Row w' w.heap.size g cp cur c/\zB w w'/\w'.cell? ⟨b1,o1+k*4,none⟩=some (zi f.1)/\w'.cell? ⟨b1,o1+k*4+1,none⟩=some (zi f.2.1)/\w'.cell? ⟨b1,o1+k*4+2,none⟩=some (zi f.2.2.1)/\w'.cell? ⟨b1,o1+k*4+3,none⟩=some (zi f.2.2.2)/\w'.cell? (zp w3.heap.size)=some (zi X)):=ae (by have hBd:=LF.trans (iT.mono LF.size);refine(HM _ hBd).mono ?_;rintro e w' ⟨g,cp,cur,rfl,hr,hb⟩;have pI:=iT.trans (hb.mono iT.size);exact⟨g,cp,cur,rfl,hr.low hBd.size,hBd.trans (hb.mono hBd.size),(pI.cell (qAA e0)).trans e0,(pI.cell (qAA e1)).trans e1,(pI.cell (qAA e2)).trans e2,(pI.cell (qAA e3)).trans e3,(pI.cell (p:=⟨w3.heap.size,0,none⟩) (qAA g0)).trans g0⟩);obtain⟨z1,z2,z3,z4⟩:=f;dsimp only at*;have hkE:(k:Int)<(EN.length:Int):=by omega
  clear il LF HI HS HB HNE HUN HM hk eT F0 zog iT;generalize EN.length=M at*;go_wp2_with fail
  go_region_held3 (fun w'=>w'.cell? ⟨b1,o1+k*4,none⟩=some (zi z1)/\w'.cell? ⟨b1,o1+k*4+1,none⟩=some (zi z2)/\w'.cell? ⟨b1,o1+k*4+2,none⟩=some (zi z3)/\w'.cell? ⟨b1,o1+k*4+3,none⟩=some (zi z4)/\w'.cell? (zp w3.heap.size)=some (zi X)) (first | go_keep | (go_split_ands;refine⟨?_,?_,?_,?_,?_⟩ <;> go_keep))
   ((go_at_call 257;refine HM5.mono ?_;rintro e w6 ⟨g6,c6,cur6,rfl,hr6,uS,r0,r1,r2,r3,r4⟩))
  have HR6:=ae hr6;have HB6:=ae uS;clear hr6 uS HM5 e0 e1 e2 e3 g0 r0 r1 r2 r3 r4;go_wp2_with fail
  go_quiet (fail)
  go_wp2;go_ret3;exact⟨g6,c6,cur6,rfl,⟨HR6.1,HR6.2⟩,below_draws HB6 nq⟩
theorem zgJ(hb:bZ L)(h:rW L=some c):bZ c:=by
 unfold rW at h;cases h2:mvOn 288 (dC L)with
 | none=>rw[h2]at h;cases h
 | some x =>rw[h2]at h;obtain rfl:wY L x.1.1 x.2.toNat=c:=TH;exact K6 hb _ _
theorem OJ a cap L w(aH:Bs w a cap L)(hf:aD L) :
  zC 158 #[.slice a L.length cap] w fun e w'=>∃a' c',e=zt #[.slice a' L.length c',zi (tD 288 (dC L)),.nilIface]/\Bs w' a' c' (sU L)/\zB w w':=by
 have h40:=pH (L:=L);have fP:Hid (∃M:LI,aD M/\M.length=L.length/\0+tD 288 (dC M)=tD 288 (dC L)/\sU M=sU L/\Bs w a cap M):=ae ⟨L,hf,rfl,qAl _,rfl,aH⟩;have hLl:=aH.2.2.1;clear aH hf;generalize tD 288 (dC L)=K at*;generalize sU L=MA at*;generalize hN:L.length=N at*;clear hN;go_enter func158,ntmps158
 go_wp2_with fail
 go_loopw [0,5] (fun bv nv wr=>∃ (k:Nat) (q:OA) (cq:Nat) (M:LI),k<=K/\bv=.slice q N cq/\nv=zi k/\aD M/\M.length=N/\k+tD 288 (dC M)=K/\sU M=MA/\Bs wr q cq M/\zB w wr) (fun _ nv _=>41-(intOf nv).toNat)
 case atStart =>obtain⟨M,m1,m2,m3,m4,m5⟩:=aa fP;exact⟨0,a,cap,M,qAH _,rfl,rfl,m1,m2,m3,m4,m5,zBr⟩
 case round =>
  obtain⟨k,q,cq,M,hk,rfl,rfl,m1,m2,m3,m4,m5,ai⟩:=hrel;cases hq:rW M with
  | none =>
   have HC:=ae (YM q cq M wr m5 m1 hq);rw[m2]at HC;have hK:k=K:=by have:=(EK m1 hq).2;omega
   have HA:Hid (M=MA):=ae (by rw[<-m4,OL hq]);have qp:=ae m5;have aJ:=ae ai;have HK:=ae hK;clear m1 m2 m3 m4 m5 ai hK hq fP;go_wp2_with fail
   refine HC.m ?_;intro w1 ay;have aQ:=zTr aJ ay;have zlU:=ae (qp.below ay);clear ay HC qp aJ;go_wp2;go_ret3;exact⟨q,cq,by rw[aa HK];rfl,by rw[<-aa HA];exact zlU,aQ⟩
  | some c =>
   have HC:=ae (Tr q cq M wr m5 m1 hq);rw[m2]at HC;obtain⟨has,hn⟩:=oS m1 hq;have iF:=zgJ m5.1 hq;have kS:c.length=N:=by rw[has.len];exact m2
   have H1:=ae has.bC;have H2:=ae kS;have H3:Hid (k+1+tD 288 (dC c)=K):=ae Sg;have H4:Hid (sU c=MA):=ae (by rw[<-m4,OK m1 hq]);have hkK:k+1<=K:=Sg;have iE:=ae iF;have aJ:=ae ai;clear m1 m2 m3 m4 m5 ai hq fP has hn iF kS;go_wp2_with fail
   refine HC.mono ?_;rintro e w1 ⟨g1,c1,cur1,rfl,Lm,ay⟩;have aQ:=zTr aJ ay;have zlU:=ae (Lm.bs iE (by rw[aa H2];omega));clear ay HC aJ Lm;go_wp2;go_roundw
   case rel=>exact⟨k+1,some (zp g1),c1,c,hkK,rfl,Tc,H1,H2,H3,H4,zlU,aQ⟩
   case measure=>exact Te
section
variable {w:World} {B p g c:Nat} {L:LI}
theorem YN(h:Hp w B p g c L)(hB:B<=w.heap.size) :
  zC 103 #[zq p] w (zr (.tuple #[zi (tD 288 (dC L)),.nilIface]) fun w'=>∃g' c',Hp w' B p g' c' (sU L)/\au (bA p g) (bA p g') w w'):=by
 have HB:=ae (ei p g c B L w h);obtain⟨has,_⟩:=vC h.bC;have jm:=h.B2;have hlen:=h.len;have HS:=ae (fun W a1 c1(aH:Bs W a1 c1 L)=>OJ a1 c1 L W aH h.bC);have HR:=ae (fun W hW a2 c2(aH:Bs W a2 c2 (sU L))=>tR (h.below hW) (qAF hB hW.size) aH has.bC has.len);rw[has.len]at HR;have iE:=ae jm;generalize tD 288 (dC L)=K,sU L=MA at*;generalize hN:L.length=N at*;have HN:=ae hN;go_enter func103,ntmps103
 go_wp2_with fail
 refine HB.mono ?_;rintro e w1 ⟨a1,c1,rfl,ru,ay⟩;obtain⟨a1',c1',e1,kT⟩:=ru.bs iE (by rw[aa HN];omega);rw[aa HN]at e1;simp only[qAS,qBL]at e1;obtain⟨rfl,rfl⟩:=e1;have sN:=ae (HS w1 a1 c1 kT);have aQ:=ae ay;go_wp2_with fail
 refine sN.mono ?_;rintro e w2 ⟨a2,c2,rfl,gy,aK⟩;have dr:=zTs aQ aK;have lJ:=ae (HR w2 dr a2 c2 gy);have bz:=ae dr;go_wp2_with fail
 refine lJ.m ?_;rintro w3 ⟨g3,c3,hh3,rp⟩;have HH3:=ae hh3;have MD:=ae ((au.aI (S:=bA p g) bz).trans rp);go_wp2;go_ret2
 first
  | exact⟨rfl,g3,c3,HH3,MD⟩
  | exact⟨rfl,g3,⟨c3,HH3⟩,MD⟩
