import Derived.Test.YtoiebmeajhpgcaaGreatDoorJRb
import Derived.Lib.ItoaLen
set_option maxRecDepth 100000
set_option maxHeartbeats 16000000
set_option linter.all false
namespace Go.Proofs.YtoiebmeajhpgcaaGreatDoor
variable {w:World}{b:Addr}
open Tryz
open Go.RowKit Go.Shelf
theorem zdb:Builder.Extra prog JU:={ sizeBuilder:=SQ,liesBuilder:=SQ,t5:=underlying5,a5:=isAgg5,z5:=sizeOf5,v5:=zeroValue5,infoByte:=SQ,cellsByte:=SQ,sizeByte:=SQ,neB5:=by decide }
theorem C9{B bk}(n:Nat)(h:Bu w B bk (.slice none 0 0) [])(hB:B<=w.heap.size)(hn:n<=1000000):zC 209 #[zq bk,zi n] w (zr (.tuple #[]) fun w'=>∃v,Bu w' B bk v []/\Below B w w'):=by
 have HC:=ae (rA h);have uK:=ae (fun k hk=>h.le k hk);have mi:=h.ge;go_enter func209,ntmps209
 go_wp2_with fail
 refine HC.m ?_;rintro w1 ⟨ay,ru,mS⟩;have fC:=mS.below uK hB;have fQ:=fC.size;have c1:w1.cell? (zw bk 1)=some (.slice none 0 0):=ziQ;have aQ:=ae fC;have HK:=ae ay;by_cases h0:n=0
 ·subst h0;go_wp2_with fail
  go_quiet (fail)
  go_wp2
  go_end0
  exact⟨rfl,.slice none 0 0,⟨mi,⟨_,.inr rfl,HK⟩,cW.nil _ _,fun e=>TB⟩,below_drewN aQ _⟩
 ·have Lr:(0:Int)<(n:Int):=by omega
  go_wp2_with fail
  go_quiet (fail)
  have HG:=ae (Any.Builder_grow_fresh zou zdb B bk n (w1.drewN nq) mi HK (by have:(w1.drewN nq).heap.size=w1.heap.size:=rfl;omega) Sg);go_wp2_with fail
  refine HG.m ?_;rintro w2 ⟨rI,aK⟩;obtain⟨g1,v,g2,g3,g4⟩:=rI;have HR:Hid (Bu w2 B bk v []/\Below B w w2):=ae ⟨⟨g1,⟨_,.inr rfl,g2⟩,g3,g4⟩,(below_drewN aQ nq).trans aK⟩;go_wp2
  go_end0
  exact⟨rfl,v,HR⟩
theorem zfW g off n(hn:5<=n) w:(Instr.slice 60 (.slice (some ⟨g,off,none⟩) 5 n) (some (zi 1)) none none).run prog w=.ok (.slice (some ⟨g,off+1,none⟩) 4 (n-1)) w:=by
 have bW:(sizeOf 9).run prog w=.ok 1 w:=by
  have bW:=Il;cases hq:prog.info? 9 with
  | none=>simp[hq]at bW
  | some i =>exact EP
 have he:prog.elem 60=9:=by simp[Program.elem,underlying60]
 have h:=qDT (P:=prog) (w:=w) 60 (some ⟨g,off,none⟩) 5 n (by rw[he];exact underlying60) .i64 (1:Nat) Sg Sg;rw[he,bW]at h;refine Eq.trans h ?_;simp[Result.andThen,sliced,Addr.add];intro h1;omega
def stC(s:BA):List Value:=[.string s]
theorem zfU s:(stC s).length=1:=rfl
theorem tn s:∀u∈stC s,u.oneCell'=true:=fun u hu=>by rw[zMs hu];rfl
def jn5(x0 x1 x2 x3 x4:BA):LI:=c7 x0++(c7 ⟨#[32]⟩++(c7 x1++(c7 ⟨#[32]⟩++(c7 x2++(c7 ⟨#[32]⟩++(c7 x3++(c7 ⟨#[32]⟩++c7 x4)))))))
theorem zg1 x0 x1 x2 x3 x4:bZ (jn5 x0 x1 x2 x3 x4):=fun y hy=>by
 unfold jn5 at hy;simp only[List.mem_append]at hy;rcases hy with hy|hy|hy|hy|hy|hy|hy|hy|hy
 all_goals exact AD _ y hy
theorem Zb b0 off c x0 x1 x2 x3 x4(ma:5<=c)(vP:w.cell? ⟨b0,off,none⟩=some (.string x0))(eT:w.cell? ⟨b0,off+1,none⟩=some (.string x1))(lI:w.cell? ⟨b0,off+2,none⟩=some (.string x2))(uQ:w.cell? ⟨b0,off+3,none⟩=some (.string x3))(hc4:w.cell? ⟨b0,off+4,none⟩=some (.string x4))(s0:x0.size<=100)(s1:x1.size<=100)(s2:x2.size<=100)(s3:x3.size<=100)(s4:x4.size<=100) :
  zC 160 #[.slice (some ⟨b0,off,none⟩) 5 c,.string ⟨#[32]⟩] w (zr (.string (strOf (jn5 x0 x1 x2 x3 x4))) fun w'=>zB w w'):=by
 have MG:=ae (fun(W:World) (hW:zB w W)=>And.intro (aP vP hW) (And.intro (aP eT hW) (And.intro (aP lI hW) (And.intro (aP uQ hW) (aP hc4 hW)))));have lE:∀W:World,(Instr.slice 60 (.slice (some ⟨b0,off,none⟩) 5 c) (some (zi 1)) none none).run prog W=.ok (.slice (some ⟨b0,off+1,none⟩) 4 (c-1)) W:=fun W=>zfW b0 off c ma W
 have rK:=ae (Bu.new (B:=w.heap.size) w zNr);have eh:zB w (w.alloc (.cells #[.pointer none,.slice none 0 0] 41)):=zBr.alloc zNr _;have Rj:=eh.size;have HG:=ae (C9 (4+x0.size+x1.size+x2.size+x3.size+x4.size) rK Rj Sg);rw[show(((4+x0.size+x1.size+x2.size+x3.size+x4.size:Nat)):Int)=4+(x0.size:Int)+(x1.size:Int)+(x2.size:Int)+(x3.size:Int)+(x4.size:Int) by omega]at HG;have HJB:=ae (zg1 x0 x1 x2 x3 x4);have oF:=ae eh;clear eh rK;go_enter func160,ntmps160
 go_wp2_with fail
 refine wp_loop_rounds 6 ?_;rw[qBh];go_wp2_with fail
 rw[qBh];go_wp2_with fail
 rw[qBh];go_wp2_with fail
 rw[qBh];go_wp2_with fail
 rw[qBh];go_wp2_with fail
 rw[qBh];go_wp2_with fail
 refine HG.m ?_;rintro wa ⟨va,uR,hb⟩;have hB:=oF.trans hb;obtain⟨d0,d1,d2,d3,d4⟩:=MG wa hB;have HB:=ae hB;have rK:=ae uR;clear hb hB uR HG oF vP eT lI uQ hc4;have MC:=ae (dM rK HB.size x0 (by have Aj:(({ data:=#[32]}:BA)).size=1:=rfl;simp[zLa,bY,Aj];omega));have uK:=ae (fun k hk=>rK.le k hk);have bW:=HB.size;clear rK;go_wp2_with fail
 refine MC.m ?_;rintro w0 ⟨v0,uR,ht⟩;have hB:=HB.trans (ht.below uK bW);clear d0 d1 d2 d3 d4;obtain⟨d0,d1,d2,d3,d4⟩:=MG w0 hB;clear HB;have HB:=ae hB;have rK:=ae uR;clear hB uR ht uK bW MC;go_wp2_with fail
 refine wp_loop_rounds 5 ?_;rw[qBh];have jF:=ae (dM rK HB.size (⟨#[32]⟩:BA) (by have Aj:(({ data:=#[32]}:BA)).size=1:=rfl;simp[zLa,bY,Aj];omega));have uK:=ae (fun k hk=>rK.le k hk);have bW:=HB.size;clear rK;go_wp2_with fail
 refine jF.m ?_;rintro w1 ⟨v1,uR,ht⟩;have hB:=HB.trans (ht.below uK bW);clear d0 d1 d2 d3 d4;obtain⟨d0,d1,d2,d3,d4⟩:=MG w1 hB;clear HB;have HB:=ae hB;have rK:=ae uR;clear hB uR ht uK bW jF;have CO:=ae (dM rK HB.size x1 (by have Aj:(({ data:=#[32]}:BA)).size=1:=rfl;simp[zLa,bY,Aj];omega));have uK:=ae (fun k hk=>rK.le k hk);have bW:=HB.size;clear rK;go_wp2_with fail
 refine CO.m ?_;rintro w2 ⟨v2,uR,ht⟩;have hB:=HB.trans (ht.below uK bW);clear d0 d1 d2 d3 d4;obtain⟨d0,d1,d2,d3,d4⟩:=MG w2 hB;clear HB;have HB:=ae hB;have rK:=ae uR;clear hB uR ht uK bW CO;go_wp2_with fail
 rw[qBh];have HW3:=ae (dM rK HB.size (⟨#[32]⟩:BA) (by have Aj:(({ data:=#[32]}:BA)).size=1:=rfl;simp[zLa,bY,Aj];omega));have uK:=ae (fun k hk=>rK.le k hk);have bW:=HB.size;clear rK;go_wp2_with fail
 refine HW3.m ?_;rintro w3 ⟨v3,uR,ht⟩;have hB:=HB.trans (ht.below uK bW);clear d0 d1 d2 d3 d4;obtain⟨d0,d1,d2,d3,d4⟩:=MG w3 hB;clear HB;have HB:=ae hB;have rK:=ae uR;clear hB uR ht uK bW HW3;have HW4:=ae (dM rK HB.size x2 (by have Aj:(({ data:=#[32]}:BA)).size=1:=rfl;simp[zLa,bY,Aj];omega));have uK:=ae (fun k hk=>rK.le k hk);have bW:=HB.size;clear rK;go_wp2_with fail
 refine HW4.m ?_;rintro w4 ⟨v4,uR,ht⟩;have hB:=HB.trans (ht.below uK bW);clear d0 d1 d2 d3 d4;obtain⟨d0,d1,d2,d3,d4⟩:=MG w4 hB;clear HB;have HB:=ae hB;have rK:=ae uR;clear hB uR ht uK bW HW4;go_wp2_with fail
 rw[qBh];have HW5:=ae (dM rK HB.size (⟨#[32]⟩:BA) (by have Aj:(({ data:=#[32]}:BA)).size=1:=rfl;simp[zLa,bY,Aj];omega));have uK:=ae (fun k hk=>rK.le k hk);have bW:=HB.size;clear rK;go_wp2_with fail
 refine HW5.m ?_;rintro w5 ⟨v5,uR,ht⟩;have hB:=HB.trans (ht.below uK bW);clear d0 d1 d2 d3 d4;obtain⟨d0,d1,d2,d3,d4⟩:=MG w5 hB;clear HB;have HB:=ae hB;have rK:=ae uR;clear hB uR ht uK bW HW5;have HW6:=ae (dM rK HB.size x3 (by have Aj:(({ data:=#[32]}:BA)).size=1:=rfl;simp[zLa,bY,Aj];omega));have uK:=ae (fun k hk=>rK.le k hk);have bW:=HB.size;clear rK;go_wp2_with fail
 refine HW6.m ?_;rintro w6 ⟨v6,uR,ht⟩;have hB:=HB.trans (ht.below uK bW);clear d0 d1 d2 d3 d4;obtain⟨d0,d1,d2,d3,d4⟩:=MG w6 hB;clear HB;have HB:=ae hB;have rK:=ae uR;clear hB uR ht uK bW HW6;go_wp2_with fail
 rw[qBh];have HW7:=ae (dM rK HB.size (⟨#[32]⟩:BA) (by have Aj:(({ data:=#[32]}:BA)).size=1:=rfl;simp[zLa,bY,Aj];omega));have uK:=ae (fun k hk=>rK.le k hk);have bW:=HB.size;clear rK;go_wp2_with fail
 refine HW7.m ?_;rintro w7 ⟨v7,uR,ht⟩;have hB:=HB.trans (ht.below uK bW);clear d0 d1 d2 d3 d4;obtain⟨d0,d1,d2,d3,d4⟩:=MG w7 hB;clear HB;have HB:=ae hB;have rK:=ae uR;clear hB uR ht uK bW HW7;have HW8:=ae (dM rK HB.size x4 (by have Aj:(({ data:=#[32]}:BA)).size=1:=rfl;simp[zLa,bY,Aj];omega));have uK:=ae (fun k hk=>rK.le k hk);have bW:=HB.size;clear rK;go_wp2_with fail
 refine HW8.m ?_;rintro w8 ⟨v8,uR,ht⟩;have hB:=HB.trans (ht.below uK bW);clear d0 d1 d2 d3 d4;obtain⟨d0,d1,d2,d3,d4⟩:=MG w8 hB;clear HB;have HB:=ae hB;have rK:=ae uR;clear hB uR ht uK bW HW8;go_wp2_with fail
 rw[qBh];have HS:=ae (AG rK (fun y hy=>HJB y (by unfold jn5;simpa using hy)) HB.size);go_wp2_with fail
 refine HS.m ?_;intro wz hbz;have HZ:=ae (HB.trans hbz);clear hbz HS;go_wp2;go_ret;exact⟨rfl,HZ⟩
def nsS(o u f m r k:Int):BA:=if k=0 then strOf (jn5 (jQ o) (jQ u) (jQ f) (jQ m) (jQ r))else nJ k
theorem gJ n(h0:-9223372036854775808<=n)(h1:n<=9223372036854775807):(jQ n).size<=100:=by
 have:=Go.Lib.itoa_length_le n h0 h1
 show(Go.Lib.itoa n).toArray.size<=100
 simp;omega
theorem Ou(hw:sL w b) n0 n1 n2 n3 n4(h0:0<=n0/\n0<=1000000)(h1:0<=n1/\n1<=1000000)(h2:0<=n2/\n2<=1000000)(h3:0<=n3/\n3<=1000000)(h4:0<=n4/\n4<=1000000) :
  zC 105 #[.agg #[zi n0,zi n1,zi n2,zi n3,zi n4],.nilIface] w (zr (.string (strOf (jn5 (jQ n0) (jQ n1) (jQ n2) (jQ n3) (jQ n4)))) fun w'=>zB w w'):=by
 obtain⟨i0,dU,cO,cU,cV⟩:=qAO BF;have gT:zB w ((w.alloc (.cells #[zi n0,zi n1,zi n2,zi n3,zi n4] 92)).alloc (.cells #[zi n0,zi n1,zi n2,zi n3,zi n4] 3)):=(zBr.alloc zNr _).alloc Sk _;obtain⟨w0,e0⟩:∃x,((w.alloc (.cells #[zi n0,zi n1,zi n2,zi n3,zi n4] 92)).alloc (.cells #[zi n0,zi n1,zi n2,zi n3,zi n4] 3))=x:=⟨_,rfl⟩;have c0:w0.cell? ⟨w.heap.size+1,0,none⟩=some (zi n0):=zby;have c1:w0.cell? ⟨w.heap.size+1,1,none⟩=some (zi n1):=zby;have c2:w0.cell? ⟨w.heap.size+1,2,none⟩=some (zi n2):=zby;have c3:w0.cell? ⟨w.heap.size+1,3,none⟩=some (zi n3):=zby;have c4:w0.cell? ⟨w.heap.size+1,4,none⟩=some (zi n4):=zby;rw[e0]at gT;have HC0:=ae (fun(W:World) (hW:zB w0 W)=>aP c0 hW);have HI0:=ae (fun(W:World) (hW:zB w0 W)=>qb (hw.below (gT.trans (hW.mono gT.size))) n0 Sg Sg);have s0:=gJ n0 Sg Sg;have qt:=ae (fun(W:World) (hW:zB w0 W)=>aP c1 hW);have HI1:=ae (fun(W:World) (hW:zB w0 W)=>qb (hw.below (gT.trans (hW.mono gT.size))) n1 Sg Sg);have s1:=gJ n1 Sg Sg;have RJ:=ae (fun(W:World) (hW:zB w0 W)=>aP c2 hW);have HI2:=ae (fun(W:World) (hW:zB w0 W)=>qb (hw.below (gT.trans (hW.mono gT.size))) n2 Sg Sg);have s2:=gJ n2 Sg Sg;have HC3:=ae (fun(W:World) (hW:zB w0 W)=>aP c3 hW);have HI3:=ae (fun(W:World) (hW:zB w0 W)=>qb (hw.below (gT.trans (hW.mono gT.size))) n3 Sg Sg);have s3:=gJ n3 Sg Sg;have HC4:=ae (fun(W:World) (hW:zB w0 W)=>aP c4 hW);have HI4:=ae (fun(W:World) (hW:zB w0 W)=>qb (hw.below (gT.trans (hW.mono gT.size))) n4 Sg Sg);have s4:=gJ n4 Sg Sg;have MC:=ae e0;have iX:=ae gT;clear e0 gT hw c0 c1 c2 c3 c4;generalize jQ n0=S0 at*;generalize jQ n1=S1 at*;generalize jQ n2=S2 at*;generalize jQ n3=S3 at*;generalize jQ n4=S4 at*;go_enter func105,ntmps105
 go_wp2_with fail
 rw[aa MC];clear MC;have HL0:Hid (cX stC 1 9 w0 w0.heap.size (.slice none 0 0) []):=ae (cX.nil _ _);have zeY:=ae (Below.refl w0.heap.size w0);refine wp_loop_rounds 6 ?_;rw[qBh];have d0:=HC0 w0 zeY;have HK0:=ae (HI0 w0 zeY);go_wp2_with fail
 refine HK0.m ?_;intro u0 gT;have zk1:zB u0 (u0.alloc (.cells #[.string S0] 9)):=zBr.alloc zNr _;have HM0:=ae ((HL0.below gT).below zk1);have HG0:Hid ((u0.alloc (.cells #[.string S0] 9)).heap[u0.heap.size]?=some (.cells (stC S0).toArray 9 (0,0))):=ae (qAB _ _);have uD:=zeY.trans ((gT.trans (zk1.mono gT.size)).mono zeY.size);have G7:=uD.size;have zo4:=ae uD;clear d0 HK0 gT zk1 uD HL0 zeY;go_wp2_with (at_builtin;refine aS rfl _ _ 60 rfl w0.heap.size i0 _ 16 underlying60 dU cO cU cV rfl Si Si _ _ rfl HM0 u0.heap.size S0 rfl HG0 rfl (tn _) Sk G7 ?_)
 intro x0 y1 oz AT;obtain⟨a0,m0,k0,rfl⟩:=oz.shape;have Gl:=ae oz;have zeX:=ae (zo4.trans AT);clear oz AT HM0 HG0 zo4 G7;go_wp2_with fail
 rw[qBh];have d1:=qt y1 zeX;have DH:=ae (HI1 y1 zeX);go_wp2_with fail
 refine DH.m ?_;intro u1 ay;have zk0:zB u1 (u1.alloc (.cells #[.string S1] 9)):=zBr.alloc zNr _;have ME:=ae ((Gl.below ay).below zk0);have RG:Hid ((u1.alloc (.cells #[.string S1] 9)).heap[u1.heap.size]?=some (.cells (stC S1).toArray 9 (0,0))):=ae (qAB _ _);have ia:=zeX.trans ((ay.trans (zk0.mono ay.size)).mono zeX.size);have fQ:=ia.size;have zo3:=ae ia;clear d1 DH ay zk0 ia Gl zeX;go_wp2_with (at_builtin;refine aS rfl _ _ 60 rfl w0.heap.size i0 _ 16 underlying60 dU cO cU cV rfl Si Si _ _ rfl ME u1.heap.size S1 rfl RG rfl (tn _) Sk fQ ?_)
 intro x1 y2 jC CX;obtain⟨a1,m1,k1,rfl⟩:=jC.shape;have Q0:=ae jC;have zeW:=ae (zo3.trans CX);clear jC CX ME RG zo3 fQ;go_wp2_with fail
 rw[qBh];have d2:=RJ y2 zeW;have Q1:=ae (HI2 y2 zeW);go_wp2_with fail
 refine Q1.m ?_;intro u2 aK;have zkZ:zB u2 (u2.alloc (.cells #[.string S2] 9)):=zBr.alloc zNr _;have AN:=ae ((Q0.below aK).below zkZ);have MF:Hid ((u2.alloc (.cells #[.string S2] 9)).heap[u2.heap.size]?=some (.cells (stC S2).toArray 9 (0,0))):=ae (qAB _ _);have dr:=zeW.trans ((aK.trans (zkZ.mono aK.size)).mono zeW.size);have gN:=dr.size;have zo2:=ae dr;clear d2 Q1 aK zkZ dr Q0 zeW;go_wp2_with (at_builtin;refine aS rfl _ _ 60 rfl w0.heap.size i0 _ 16 underlying60 dU cO cU cV rfl Si Si _ _ rfl AN u2.heap.size S2 rfl MF rfl (tn _) Sk gN ?_)
 intro x2 y3 gS qT;obtain⟨a2,m2,k2,rfl⟩:=gS.shape;have Gk:=ae gS;have zeV:=ae (zo2.trans qT);clear gS qT AN MF zo2 gN;go_wp2_with fail
 rw[qBh];have d3:=HC3 y3 zeV;have JW:=ae (HI3 y3 zeV);go_wp2_with fail
 refine JW.m ?_;intro u3 bD;have zkY:zB u3 (u3.alloc (.cells #[.string S3] 9)):=zBr.alloc zNr _;have HM3:=ae ((Gk.below bD).below zkY);have HG3:Hid ((u3.alloc (.cells #[.string S3] 9)).heap[u3.heap.size]?=some (.cells (stC S3).toArray 9 (0,0))):=ae (qAB _ _);have mr:=zeV.trans ((bD.trans (zkY.mono bD.size)).mono zeV.size);have xF:=mr.size;have zo1:=ae mr;clear d3 JW bD zkY mr Gk zeV;go_wp2_with (at_builtin;refine aS rfl _ _ 60 rfl w0.heap.size i0 _ 16 underlying60 dU cO cU cV rfl Si Si _ _ rfl HM3 u3.heap.size S3 rfl HG3 rfl (tn _) Sk xF ?_)
 intro x3 y4 l7 hq3;obtain⟨a3,m3,k3,rfl⟩:=l7.shape;have HL4:=ae l7;have zeU:=ae (zo1.trans hq3);clear l7 hq3 HM3 HG3 zo1 xF;go_wp2_with fail
 rw[qBh];have d4:=HC4 y4 zeU;have HK4:=ae (HI4 y4 zeU);go_wp2_with fail
 refine HK4.m ?_;intro u4 eU;have zkX:zB u4 (u4.alloc (.cells #[.string S4] 9)):=zBr.alloc zNr _;have W9:=ae ((HL4.below eU).below zkX);have HG4:Hid ((u4.alloc (.cells #[.string S4] 9)).heap[u4.heap.size]?=some (.cells (stC S4).toArray 9 (0,0))):=ae (qAB _ _);have qW:=zeU.trans ((eU.trans (zkX.mono eU.size)).mono zeU.size);have Ll:=qW.size;have zo0:=ae qW;clear d4 HK4 eU zkX qW HL4 zeU;go_wp2_with (at_builtin;refine aS rfl _ _ 60 rfl w0.heap.size i0 _ 16 underlying60 dU cO cU cV rfl Si Si _ _ rfl W9 u4.heap.size S4 rfl HG4 rfl (tn _) Sk Ll ?_)
 intro x4 y5 Dw hq4;obtain⟨a4,m4,k4,rfl⟩:=Dw.shape;have HL5:=ae Dw;have zq2:=ae (zo0.trans hq4);clear Dw hq4 W9 HG4 zo0 Ll;go_wp2_with fail
 rw[qBh];obtain⟨ga,gc,ge,gs⟩:=HL5.uM zfU Sk;simp only[qAS]at ge;obtain⟨rfl,hm,rfl⟩:=ge;have hm5:m4=5:=hm;clear hm;subst hm5;obtain⟨bb,oo,rfl,Jr⟩:=gs.2.2.2 Sk;have yJ:=gs.1;have q0:y5.cell? ⟨bb,oo,none⟩=some (.string S0):=by have:=Jr 0 S0 rfl 0 _ rfl;simpa using this
 have q1:y5.cell? ⟨bb,oo+1,none⟩=some (.string S1):=by have:=Jr 1 S1 rfl 0 _ rfl;simpa using this
 have q2:y5.cell? ⟨bb,oo+2,none⟩=some (.string S2):=by have:=Jr 2 S2 rfl 0 _ rfl;simpa using this
 have q3:y5.cell? ⟨bb,oo+3,none⟩=some (.string S3):=by have:=Jr 3 S3 rfl 0 _ rfl;simpa using this
 have q4:y5.cell? ⟨bb,oo+4,none⟩=some (.string S4):=by have:=Jr 4 S4 rfl 0 _ rfl;simpa using this
 have HJ:=ae (Zb bb oo k4 S0 S1 S2 S3 S4 (show 5<=k4 from yJ) q0 q1 q2 q3 q4 s0 s1 s2 s3 s4);have sO:=ae (iX.trans (zq2.mono iX.size));clear gs Jr yJ q0 q1 q2 q3 q4 HL5;go_wp2_with fail
 refine HJ.m ?_;intro wz hbz;have HZ:=zTr sO hbz;clear hbz HJ sO;go_wp2;go_ret;exact⟨rfl,HZ⟩
theorem Ov(hw:sL w b) n0 n1 n2 n3 n4 k(h0:0<=n0/\n0<=1000000)(h1:0<=n1/\n1<=1000000)(h2:0<=n2/\n2<=1000000)(h3:0<=n3/\n3<=1000000)(h4:0<=n4/\n4<=1000000) :
  zC 105 #[.agg #[zi n0,zi n1,zi n2,zi n3,zi n4],bc k] w (zr (.string (nsS n0 n1 n2 n3 n4 k)) fun w'=>zB w w'):=by
 unfold nsS;by_cases h:k=0
 ·subst h;rw[aC,zy rfl];exact Ou hw n0 n1 n2 n3 n4 h0 h1 h2 h3 h4
 ·have eh:zB w (w.alloc (.cells #[zi n0,zi n1,zi n2,zi n3,zi n4] 92)):=zBr.alloc zNr _;have HT:=ae (jI k b _ (hw.below eh).bd (hw.below eh).et);have HB:=ae eh;rw[aF k h]at HT ⊢;rw[zn h];generalize nJ k=S at*;go_enter func105,ntmps105
  go_wp2_with fail
  refine HT.m ?_;intro w1 ay;have aQ:=zTr HB ay;exact ziT
section
variable {w:World} {b:Addr}
def hxT(x:Int):LI:=[(c7 kQ).getD (x / 16).toNat 0,(c7 kQ).getD (x%16).toNat 0]
def tQ(l:LI):BA:=strOf (l.flatMap hxT)
def hxV(l:LI)(k:Int):BA:=if k=0 then tQ l else nJ k
theorem u8_and15{x}(h:0<=x/\x<=255):bits .and .u8 x 15=x%16:=by
 obtain⟨a,rfl⟩:∃a:Nat,x=a:=⟨x.toNat,Sg⟩;have h1:=Nat.and_two_pow_sub_one_eq_mod a 4
 show IntKind.u8.wrap ((BitVec.ofInt 8 (a:Int) &&& BitVec.ofInt 8 15).toNat:Int)=_
 rw[BitVec.toNat_and,BitVec.ofInt_natCast,BitVec.toNat_ofNat,Nat.mod_eq_of_lt (show a<2 ^ 8 by omega)]
 show IntKind.u8.wrap ((a &&& 15:Nat):Int)=_
 rw[h1,IntKind.wrap_u8];omega
theorem Jo:kQ.size=16:=Si
theorem zki x:bZ (hxT x):=fun y hy=>by
 have hb:=AD kQ;have key:∀k,0<=(c7 kQ).getD k 0/\(c7 kQ).getD k 0<=255:=fun k=>by
  by_cases hk:k<(c7 kQ).length
  ·rw[qAC,zLg hk];exact hb _ (qAf hk)
  ·rw[qAC,qAY Sg];decide
 unfold hxT at hy;rcases zMc hy with rfl|hy
 ·exact key _
 ·rw[zMs hy];exact key _
theorem zg8(l:LI):bZ (l.flatMap hxT):=fun y hy=>by obtain⟨x,_,hx⟩:=List.mem_flatMap.1 hy;exact zki x y hx
theorem Lh:∀l:LI,(l.flatMap hxT).length=2*l.length
 | []=>rfl
 | x::l=>by
  rw[qCB,zLa,Lh l,zLc]
  show 2+_=_
  omega
theorem zhk(hw:sL w b) a c l(hb:Bs w a c l)(hl:l.length<=6400):zC 92 #[.slice a l.length c,.nilIface] w (zr (.string (tQ l)) fun w'=>zB w w'):=by
 have eh:zB w (w.alloc (.cells #[.pointer none,.slice none 0 0] 41)):=zBr.alloc zNr _;have rK:=ae (Bu.new (B:=w.heap.size) w zNr);have oF:=ae eh;have qp:=ae hb;clear eh hb hw;go_enter func92,ntmps92
 go_wp2_with fail
 go_loopw [7,14] (fun _ iv wr=>∃ (i:Nat) (v:Value),i<=l.length/\iv=zi i/\Bu wr w.heap.size w.heap.size v ((l.take i).flatMap hxT)/\zB w wr) (fun _ iv _=>l.length-(intOf iv).toNat)
 case atStart=>exact⟨0,_,qAH _,rfl,rK,oF⟩
 case round =>
  obtain⟨i,v,hi,rfl,uR,ai⟩:=hrel;by_cases aB:i<l.length
  ·obtain⟨b0,o0,rfl,lC⟩:=qp.2.2.2.2 Ye;have vP:=lC i aB;have eT:=(ai.cell (p:=⟨b0,o0+i,none⟩) (qAA vP)).trans vP;have hx:=qp.1 (l.getD i 0) (by rw[qAC,zLg aB];exact qAf aB);have Ad:(l.take (i+1)).flatMap hxT=(l.take i).flatMap hxT++[(c7 kQ).getD (l.getD i 0 / 16).toNat 0]++[(c7 kQ).getD (l.getD i 0%16).toNat 0]:=by
    rw[qAv,zLg aB,qBY];have e:l.getD i 0=l[i]:=by rw[qAC,zLg aB];rfl
    rw[e];simp[hxT]
   have DG:=ae Ad;have jE:=Lh (l.take i);rw[zLt]at jE;generalize l.getD i 0=x at*;have hand:=u8_and15 hx;have zpW:(x / 16).toNat<16:=Sg;have zpX:(x%16).toNat<16:=Sg;have g1:=iu kQ (x / 16).toNat (by rw[Jo];exact zpW);have g2:=iu kQ (x%16).toNat (by rw[Jo];exact zpX);have HG:=ae (And.intro g1 g2);have bW:=ai.size;have hB:=bW;have jF:=ae (fun z=>rj uR hB z Sg);have pQ:=ae ai;have Q4:=ae (fun k hk=>uR.le k hk);go_wp2_with fail
   refine(jF _).m ?_;rintro w5 ⟨v5,zkV,Pk⟩;have il:=Pk.below Q4 hB;have hs5:=il.size;have CO:=ae (fun z=>rj zkV Sg z (by rw[zLa,qBM];omega));have oM:=ae (pQ.trans il);have HF5:=ae (fun k hk=>zkV.le k hk);clear zkV Pk il jF pQ Q4;go_wp2_with fail
   refine(CO _).m ?_;rintro w6 ⟨v6,zn8,ht6⟩;have uS:=ht6.below HF5 Sg;have zrl:Hid (Bu w6 w.heap.size w.heap.size v6 ((l.take (i+1)).flatMap hxT)):=ae (by rw[aa DG,HG.1,HG.2];exact zn8);have HB6:=ae (oM.trans uS);clear zn8 ht6 uS CO oM HF5;go_wp2;go_roundw
   case rel=>exact⟨i+1,v6,Sg,Tc,zrl,HB6⟩
   case measure=>exact Te
  ·obtain rfl:i=l.length:=by omega
   rw[qAk]at uR;have HS:=ae (AG uR (zg8 l) ai.size);have pQ:=ae ai;clear uR ai;go_wp2_with fail
   refine HS.m ?_;intro w5 il;have oM:=ae (pQ.trans il);clear il;go_wp2;go_ret;exact⟨rfl,oM⟩
theorem zhl(hw:sL w b) a c l k(hb:Bs w a c l)(hl:l.length<=6400):zC 92 #[.slice a l.length c,bc k] w (zr (.string (hxV l k)) fun w'=>zB w w'):=by
 have HT:=ae (jI k b w hw.bd hw.et);unfold hxV;by_cases h:k=0
 ·subst h;rw[aC,zy rfl];exact zhk hw a c l hb hl
 ·rw[aF k h]at HT ⊢;rw[zn h];generalize nJ k=S,l.length=n at*;go_enter func92,ntmps92
  exact qL
