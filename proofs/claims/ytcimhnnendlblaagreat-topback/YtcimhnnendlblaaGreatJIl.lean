/-
  Parts of the proofs.
-/
import Derived.Test.YtcimhnnendlblaaGreatJCi
import Derived.Shelf.SlMaps.Equal
import Derived.Ground.SlmeProg
set_option maxRecDepth 100000
set_option maxHeartbeats 16000000
set_option linter.all false
namespace Go.Proofs.YtcimhnnendlblaaGreat
section
open Go.RowKit
def InL(n:Nat)(e:(Int×Int×Int×Int)):Prop:=0<=e.2.1/\0<=e.2.2.1/\e.2.1+e.2.2.1<=n
end
section
open Go.RowKit
theorem zP{b:List Int}(hf:bh b=[]):∀ e∈entsK b 40,InL b.length e:=by
 intro e he;obtain⟨j,hj,ht,rfl⟩:=lO.1 he;have hn:eH b ((j:Int)+1)=[]:=Classical.byContradiction fun h=>by obtain⟨f,hm⟩:=List.exists_mem_of_ne_nil _ h;have:=nu (b:=b) (h:=(j:Int)+1) (by omega) (by omega) hm;rw [hf] at this;cases this
 rcases dH.1 hn with h | h
 ·obtain⟨_,hp,_⟩:=iJ.1 h;obtain⟨_,_,h3⟩:=bS.1 hp;unfold InL;omega
 ·exact absurd h.1 ht
end
section
open Go.RowKit
open Go.Sort
theorem VH(a:Option Addr)(cap N:Nat)(x n:Nat)(a1:Option Addr)(hN:N<=140737488351232)(hx:x+n<=N)(hs:∀ w',(Instr.slice 30 (.slice a N cap) (some (.int .i64 (x:Int))) (some (.int .i64 ((x:Int)+n))) none).run Tryz.prog w'=.ok (.slice a1 n (cap-x)) w')(w:World) :
  Calls Tryz.prog 123 #[.slice a N cap,.agg #[.int .i64 (x:Int),.int .i64 (n:Int)]] w fun e w'=>e=.returned (.slice a1 n (cap-x))/\∃ q os,w'=grow (w.drewN q) os:=by
 go_enter Tryz.func123,Tryz.ntmps123
 go_wp2;go_ret;exact⟨rfl,0,_,by rw [alloc_eq_grow];rfl⟩
theorem zaC(A B:List Int)(aa ab:Option Addr)(ca cb:Nat)(x y:(Int×Int×Int×Int))(ga gb:Nat)(w:World)(hA:Bs w aa ca A)(hB:Bs w ab cb B)
  (PO:w.cell? ⟨ga,0,none⟩=some (.slice aa A.length ca)) (AM:w.cell? ⟨gb,0,none⟩=some (.slice ab B.length cb))
  (hx:0<=x.2.1/\0<=x.2.2.1/\x.2.1+x.2.2.1<=A.length) (hy:0<=y.2.1/\0<=y.2.2.1/\y.2.1+y.2.2.1<=B.length) :
  Calls Tryz.prog 122 #[k8 x,k8 y,.pointer (some ⟨ga,0,none⟩),.pointer (some ⟨gb,0,none⟩)] w fun r w'=>r=.returned (.bool (pO A B x y))/\Below w.heap.size w w':=by
 have mixed:Tryz.prog.follows .mixedOrders=true:=by kernel_rfl
 obtain⟨x1,x2,x3,x4⟩:=x;obtain⟨y1,y2,y3,y4⟩:=y;dsimp only at hx hy;obtain⟨X2,rfl⟩:=Int.eq_ofNat_of_zero_le hx.1;obtain⟨X3,rfl⟩:=Int.eq_ofNat_of_zero_le hx.2.1;obtain⟨Y2,rfl⟩:=Int.eq_ofNat_of_zero_le hy.1;obtain⟨Y3,rfl⟩:=Int.eq_ofNat_of_zero_le hy.2.1;unfold pO k8;dsimp only;have gy:Below w.heap.size w ((w.alloc (.cells #[.int .i64 x1,.int .i64 (X2:Int),.int .i64 (X3:Int),.int .i64 x4] 125)).alloc (.cells #[.int .i64 y1,.int .i64 (Y2:Int),.int .i64 (Y3:Int),.int .i64 y4] 125)):=((Below.refl _ w).alloc zNr _).alloc (by simp) _;have Yi:=hA.below gy;have mJ:=hB.below gy;have zeL:=(gy.cell (block_lt_of_cell PO)).trans PO;have zeJ:=(gy.cell (block_lt_of_cell AM)).trans AM;have zih:=block_lt_of_cell zeL;have zig:=block_lt_of_cell zeJ;have hEx:=(rf.new w (x1,(X2:Int),(X3:Int),x4)).below (zBr.alloc zNr (.cells #[.int .i64 y1,.int .i64 (Y2:Int),.int .i64 (Y3:Int),.int .i64 y4] 125)) (by simp);have hEy:=rf.new (w.alloc (.cells #[.int .i64 x1,.int .i64 (X2:Int),.int .i64 (X3:Int),.int .i64 x4] 125)) (y1,(Y2:Int),(Y3:Int),y4);rw [aH] at hEy;obtain⟨c0,c1,c2,c3⟩:=hEx.cells;obtain⟨d0,d1,d2,d3⟩:=hEy.cells;have hlx:=hEx.lt;have hly:=hEy.lt;obtain⟨p1,gP,ay⟩:=eU (P:=Tryz.prog) (t:=30) zu30 aN Yi X2 (X2+X3) (by omega) (by omega);obtain⟨p2,gM,aK⟩:=eU (P:=Tryz.prog) (t:=30) zu30 aN mJ Y2 (Y2+Y3) (by omega) (by omega);rw [show X2+X3-X2=X3 by omega,show((X2+X3:Nat):Int)=(X2:Int)+X3 by omega] at gP;rw [show Y2+Y3-Y2=Y3 by omega,show((Y2+Y3:Nat):Int)=(Y2:Int)+Y3 by omega] at gM;rw [show X2+X3-X2=X3 by omega] at ay;rw [show Y2+Y3-Y2=Y3 by omega] at aK;have lK:=af (fun W=>VH aa ca A.length X2 X3 p1 hA.2.2.1 (by omega) gP W);have T7:=af (fun W=>VH ab cb B.length Y2 Y3 p2 hB.2.2.1 (by omega) gM W);have e1:cP A (X2:Int) (X3:Int)=(A.drop X2).take X3:=by unfold cP;rw [zTn,zTn]
 have e2:cP B (Y2:Int) (Y3:Int)=(B.drop Y2).take Y3:=by unfold cP;rw [zTn,zTn]
 rw [e1,e2];have l1:((A.drop X2).take X3).length=X3:=by simp;omega
 have l2:((B.drop Y2).take Y3).length=Y3:=by simp;omega
 have HQ:=af (fun(n:Nat) (os:Array Obj)=>nA p1 p2 _ _ _ _ (grow (((w.alloc (.cells #[.int .i64 x1,.int .i64 (X2:Int),.int .i64 (X3:Int),.int .i64 x4] 125)).alloc (.cells #[.int .i64 y1,.int .i64 (Y2:Int),.int .i64 (Y3:Int),.int .i64 y4] 125)).drewN n) os) (ay.below fE) (aK.below fE));rw [l1,l2] at HQ;have iw:=af gy;have hAl:=hA.2.2.1;have hBl:=hB.2.2.1;generalize decide ((A.drop X2).take X3=(B.drop Y2).take Y3)=r at *;dsimp only at *;by_cases h1:x1=y1
 ·have h1b:(x1 == y1)=true:=beq_iff_eq.2 h1;by_cases h2:x4=y4
  ·have h2b:(x4 == y4)=true:=beq_iff_eq.2 h2;rw [decide_eq_true h1,decide_eq_true h2,Bool.true_and,Bool.true_and];have k0:=fun n os=>cell_grown hlx c0 n os
   have k1:=fun n os=>cell_grown hlx c1 n os
   have k2:=fun n os=>cell_grown hlx c2 n os
   have k3:=fun n os=>cell_grown hlx c3 n os
   have m0:=fun n os=>cell_grown hly d0 n os
   have m1:=fun n os=>cell_grown hly d1 n os
   have m2:=fun n os=>cell_grown hly d2 n os
   have m3:=fun n os=>cell_grown hly d3 n os
   have n0:=fun n os=>cell_grown zih zeL n os
   have n1:=fun n os=>cell_grown zig zeJ n os
   clear c0 c1 c2 c3 d0 d1 d2 d3 hlx hly PO AM zeL zeJ zih zig hEx hEy gy ay aK gP gM hA hB Yi mJ e1 e2 l1 l2 h1 h2;generalize A.length=NA at *;generalize B.length=NB at *;go_enter Tryz.func122,Tryz.ntmps122
   go_wp2_with fail
   generalize (w.alloc (.cells #[.int .i64 x1,.int .i64 (X2:Int),.int .i64 (X3:Int),.int .i64 x4] 125)).alloc (.cells #[.int .i64 y1,.int .i64 (Y2:Int),.int .i64 (Y3:Int),.int .i64 y4] 125)=W at *;go_quiet_grown (first | (go_at_call 123;first | with_reducible exact Calls.grown_of (ae lK _) | with_reducible exact Calls.grown_of (ae T7 _)) | (go_at_call 113;exact Calls.grown_of ((ae HQ _ _).mono fun e w' h=>⟨h.1,0,#[],by rw [<- h.2];exact(grow_empty _).symm⟩)))
   go_wp2;go_ret;exact⟨rfl,zTs iw fE⟩
  ·have h2b:(x4 == y4)=false:=beq_eq_false_iff_ne.2 h2;rw [decide_eq_false h2,Bool.false_and,Bool.and_false];clear hEx hEy gy ay aK gP gM hA hB Yi mJ e1 e2 l1 l2 h1 h2 HQ lK T7 PO AM;go_enter Tryz.func122,Tryz.ntmps122
   go_wp2_with fail
   generalize (w.alloc (.cells #[.int .i64 x1,.int .i64 (X2:Int),.int .i64 (X3:Int),.int .i64 x4] 125)).alloc (.cells #[.int .i64 y1,.int .i64 (Y2:Int),.int .i64 (Y3:Int),.int .i64 y4] 125)=W at *;go_quiet (fail)
   go_wp2;go_ret;exact⟨rfl,below_drewN (ae iw) nq⟩
 ·have h1b:(x1 == y1)=false:=beq_eq_false_iff_ne.2 h1;rw [decide_eq_false h1,Bool.false_and];clear hEx hEy gy ay aK gP gM hA hB Yi mJ e1 e2 l1 l2 h1 HQ lK T7 PO AM;go_enter Tryz.func122,Tryz.ntmps122
  go_wp2_with fail
  generalize (w.alloc (.cells #[.int .i64 x1,.int .i64 (X2:Int),.int .i64 (X3:Int),.int .i64 x4] 125)).alloc (.cells #[.int .i64 y1,.int .i64 (Y2:Int),.int .i64 (Y3:Int),.int .i64 y4] 125)=W at *;go_quiet (fail)
  go_wp2;go_ret;exact⟨rfl,below_drewN (ae iw) nq⟩
theorem Em{α β:Type}{f:α->β->Bool}:∀ {l:List α} {m:List β},l.length≠m.length->eqAll f l m=false
 | [],[],h=>absurd rfl h
 | [],y :: m,_=>rfl
 | x :: l,[],_=>rfl
 | x :: l,y :: m,h=>by unfold eqAll;rw [Em (fun e=>h (by simp [e])),Bool.and_false]
theorem Yz{α β:Type}{f:α->β->Bool}{l:List α}{m:List β}{j:Nat}{x:α}{y:β}(hx:l[j]?=some x)(hy:m[j]?=some y):eqAll f (l.drop j) (m.drop j)=(f x y && eqAll f (l.drop (j+1)) (m.drop (j+1))):=by obtain⟨h1,rfl⟩:=zLs hx;obtain⟨h2,rfl⟩:=zLs hy;rw [List.drop_eq_getElem_cons h1,List.drop_eq_getElem_cons h2];rfl
theorem NH(A B:List Int)(aa ab:Option Addr)(ca cb:Nat)(ga gb:Nat)(e1 e2:Option Addr)(c1 c2:Nat)(E1 E2:List (Int×Int×Int×Int))(w:World)(hA:Bs w aa ca A)(hB:Bs w ab cb B)
  (PO:w.cell? ⟨ga,0,none⟩=some (.slice aa A.length ca)) (AM:w.cell? ⟨gb,0,none⟩=some (.slice ab B.length cb)) (h1:fG tM 4 w e1 c1 E1) (h2:fG tM 4 w e2 c2 E2) (hx:∀ e∈E1,InL A.length e) (hy:∀ e∈E2,InL B.length e) :
  Calls Tryz.prog 121 #[.slice e1 E1.length c1,.slice e2 E2.length c2,.func (.func 122) #[] #[.pointer (some ⟨ga,0,none⟩),.pointer (some ⟨gb,0,none⟩)]] w fun r w'=>r=.returned (.bool (eqAll (pO A B) E1 E2))/\Below w.heap.size w w':=by
 have kU:=h1.2.2.1;have lR:=h2.2.2.1;by_cases hlen:E1.length=E2.length
 ·have HS:=af (fun(W:World) (x y:(Int×Int×Int×Int)) (hW:Below w.heap.size w W) (h3:InL A.length x) (h4:InL B.length y)=>zaC A B aa ab ca cb x y ga gb W (hA.below hW) (hB.below hW) ((hW.cell (block_lt_of_cell PO)).trans PO) ((hW.cell (block_lt_of_cell AM)).trans AM) h3 h4);have H1:=af h1;have H2:=af h2;have HX:=af hx;have HY:=af hy;generalize bB:eqAll (pO A B) E1 E2=R;have oJ:Hid (eqAll (pO A B) (E1.drop 0) (E2.drop 0)=R):=af (by rw [List.drop_zero,List.drop_zero];exact bB);have HLE:=af hlen;rw [<- hlen];clear h1 h2 hx hy hA hB PO AM bB hlen lR;go_enter Tryz.func121,Tryz.ntmps121
  go_wp2_with fail
  go_loopw [17] (fun jv wr=>∃ j:Nat,j<=E1.length/\jv=.int .i64 (j:Int)/\Below w.heap.size w wr/\eqAll (pO A B) (E1.drop j) (E2.drop j)=R) (fun jv _=>E1.length-(intOf jv).toNat)
  case atStart=>exact⟨0,Nat.zero_le _,rfl,zBr,ae oJ⟩
  case round =>
   obtain⟨j,hj,rfl,ao,hR⟩:=hrel;by_cases mG:j<E1.length
   ·have zeF:j<E2.length:=by have:=ae HLE;omega
    obtain⟨b1,o1,rfl,dR⟩:=((ae H1).below ao).2.2.2 (by intro e;rw [e] at mG;simp at mG);obtain⟨b2,o2,rfl,nH⟩:=((ae H2).below ao).2.2.2 (by intro e;rw [e] at zeF;simp at zeF);obtain⟨x,PA⟩:∃ x,E1[j]?=some x:=⟨E1[j],zLg mG⟩;obtain⟨y,hyj⟩:∃ y,E2[j]?=some y:=⟨E2[j],zLg zeF⟩;obtain⟨q0,q1,q2,q3⟩:=fG.jB (cap:=0) dR PA;obtain⟨r0,r1,r2,r3⟩:=fG.jB (cap:=0) nH hyj;rw [Yz PA hyj] at hR;have fp:Below wr.heap.size wr ((wr.alloc (.cells #[.int .i64 x.1,.int .i64 x.2.1,.int .i64 x.2.2.1,.int .i64 x.2.2.2] 125)).alloc (.cells #[.int .i64 y.1,.int .i64 y.2.1,.int .i64 y.2.2.1,.int .i64 y.2.2.2] 125)):=(zBr.alloc zNr _).alloc (by simp) _;have mI:=ao.trans (fp.mono ao.size);have HC:=af (ae HS _ x y mI (ae HX x (List.mem_of_getElem? PA)) (ae HY y (List.mem_of_getElem? hyj)));have kj:=af mI;have HR:=af hR;have g1:=block_lt_of_cell q0;have g2:=block_lt_of_cell r0;unfold k8 at HC;generalize pO A B x y=T at *;obtain⟨x1,x2,x3,x4⟩:=x;obtain⟨y1,y2,y3,y4⟩:=y;dsimp only at *;clear dR nH PA hyj fp mI hR ao;cases T with
    | true =>
     go_wp2_with fail
     refine(ae HC).mono ?_;rintro e w1 ⟨rfl,ay⟩;have aL:=zTr kj ay;clear ay HC kj;go_wp2;go_roundw
     case rel=>exact⟨j+1,by omega,by go_num,ae aL,by have:=ae HR;rwa [Bool.true_and] at this⟩
     case measure=>simp [intOf];omega
    | false =>
     have HRF:Hid (false=R):=af (by have:=ae HR;rwa [Bool.false_and] at this);go_wp2_with fail
     refine(ae HC).mono ?_;rintro e w1 ⟨rfl,ay⟩;have aL:=zTr kj ay;clear ay HC kj HR;go_wp2;go_ret;exact⟨by rw [<- ae HRF];rfl,ae aL⟩
   ·have hjq:j=E1.length:=by omega
    have hRT:true=R:=by rw [hjq,List.drop_length,ae HLE,List.drop_length] at hR;exact hR
    have tJ:¬ ((j:Int)<(E1.length:Int)):=by omega
    have kz:=af ao;have HRT:=af hRT;clear hjq mG ao hR hRT hj;go_wp2;go_ret;exact⟨by rw [<- ae HRT];rfl,ae kz⟩
 ·rw [Em hlen];have zmp:((E1.length:Int) != (E2.length:Int))=true:=bne_iff_ne.2 (by omega);generalize E1.length=n1 at *;generalize E2.length=n2 at *;clear h1 h2 hx hy hA hB PO AM hlen;go_enter Tryz.func121,Tryz.ntmps121
  go_wp2;go_ret;exact⟨rfl,zBr⟩
end
section
open Go.RowKit
open Go.Shelf
def Wk:Ren:={ f:=fun | 6=>125 | n=>n,t:=fun | 23=>112 | 24=>112 | 26=>9 | 27=>3 | 4=>4 | 3=>3 | 0=>0 | 36=>156 | n=>n,g:=fun n=>n }
theorem zkH:SlLaysEq.n6 Tryz.prog Wk:={ mixed:=by kernel_rfl,f6:=⟨ "maps.Equal[map[string]int,map[string]int,string,int]",by decide,Tryz.func125.trans rfl⟩,t0:=Tryz.underlying0,a0:=Tryz.isAgg0,z0:=Tryz.sizeOf0,v0:=Tryz.zeroValue0,t3:=Tryz.underlying3,a3:=Tryz.isAgg3,z3:=Tryz.sizeOf3,v3:=Tryz.zeroValue3,t4:=Tryz.underlying4,a4:=Tryz.isAgg4,z4:=Tryz.sizeOf4,v4:=Tryz.zeroValue4,t23:=Tryz.underlying112,a23:=Tryz.isAgg112,z23:=Tryz.sizeOf112,v23:=Tryz.zeroValue112,t24:=Tryz.underlying112,a24:=Tryz.isAgg112,z24:=Tryz.sizeOf112,v24:=Tryz.zeroValue112,a26:=Tryz.isAgg9,z26:=Tryz.sizeOf9,a27:=Tryz.isAgg3,z27:=Tryz.sizeOf3,t36:=Tryz.underlying156,a36:=Tryz.isAgg156,z36:=Tryz.sizeOf156 }
end
section
open Go.RowKit
open Go.MapKept
open Go.ChangeMaps
open Go.Shelf
def uy(r:(ByteArray×Int)):Lit×DataW Unit:=(.string r.1.data.toList,.lit (.int .i64 r.2))
def EF(w:World)(m:Nat)(M:List (ByteArray×Int)):Prop :=∃ es:List (Lit×DataW Unit),w.ownsMap Tryz.prog 9 (plainElem Tryz.prog 3) m M.length (.map es)/\es.length=M.length/\∀ p,p∈es ↔ ∃ r∈M,p=uy r
theorem EF.made(w:World):EF (w.alloc (.map #[] 0)) w.heap.size []:=⟨[],World.ownsMap_made w _ _ _,rfl,fun p=>by simp⟩
theorem EF.lt{w:World}{m:Nat}{M:List (ByteArray×Int)}(h:EF w m M):m<w.heap.size:=by obtain⟨Dm,h1,_⟩:=h;exact h1.lt
theorem EF.same{w w':World}{m:Nat}{M:List (ByteArray×Int)}(h:EF w m M)(hs:w'.heap[m]?=w.heap[m]?):EF w' m M:=by obtain⟨Dm,⟨es,clock,hb,r⟩,h2⟩:=h;exact⟨Dm,⟨es,clock,hs.trans hb,r⟩,h2⟩
theorem EF.below{w w':World}{m:Nat}{M:List (ByteArray×Int)}(h:EF w m M)(hb:Below w.heap.size w w'):EF w' m M:=h.same (hb.block m h.lt)
theorem EF.store{w:World}{m:Nat}{M:List (ByteArray×Int)}(h:EF w m M)(r:(ByteArray×Int))(hs:r.1.size<=maxLen)(hn:M.length<=300)(hi:-9223372036854775808<=r.2/\r.2<=9223372036854775807)(da:∀ q∈M,q.1≠r.1) :
  ∃ w',(Instr.mapUpdate 112 (.map (some m)) (.string r.1) (.int .i64 r.2)).run Tryz.prog w=.ok () w'/\EF w' m (M++[r])/\w.mapTurned w' m:=by
 obtain⟨es,h1,hlen,h2⟩:=h;have dt:=WideMaps.keyOf_string_mk (P:=Tryz.prog) zu9 hs;obtain⟨w',bw,ew,ht⟩:=h1.store (Maps.string_keyed zu9) zu112 (by unfold maxLen;omega) dt (plainElem_int zu3 (a:=r.2) (WalkArith.wf_i64 hi));have Nk:es.filter (fun p=>!p.1.sameKey (.string r.1.data.toList))=es:=by
  rw [List.filter_eq_self];intro p hp;obtain⟨q,hq,rfl⟩:=(h2 p).1 hp;cases hk:(uy q).1.sameKey (.string r.1.data.toList) with
  | false=>rfl
  | true =>have e:(Lit.string q.1.data.toList)=.string r.1.data.toList:=WideAt.sameKey_eq hk;simp only [Lit.string.injEq] at e;exact absurd (str_inj e) (da q hq)
 have mo:(DataW.map es).put (.string r.1.data.toList) (.lit (.int .i64 r.2))=.map (DataW.insert (uy r) es):=by
  show DataW.map (DataW.insert _ (es.filter _))=_
  rw [Nk];rfl
 rw [mo] at ew;refine⟨w',bw,⟨_,by rw [zLa];exact ew,?_,fun p=>?_⟩,ht⟩
 ·have:∀ (l:List (Lit×DataW Unit)) (x:Lit×DataW Unit),(DataW.insert x l).length=l.length+1:=by
   intro l;induction l with
   | nil=>intro x;rfl
   | cons y l ih =>
    intro x;unfold DataW.insert;split
    ·rfl
    ·rw [zLc,ih];rfl
  rw [this,hlen,zLa];rfl
 ·rw [mem_insert_iff,h2 p];constructor
  ·rintro (rfl | ⟨q,hq,rfl⟩)
   ·exact⟨r,by simp,rfl⟩
   ·exact⟨q,by simp [hq],rfl⟩
  ·rintro ⟨q,hq,rfl⟩;rcases zMa hq with hq | hq
   ·exact .inr ⟨q,hq,rfl⟩
   ·rw [zMs hq];exact .inl rfl
def eqI:DataW Unit->DataW Unit->Bool
 | .lit (.int _ a),.lit (.int _ b)=>a == b
 | _,_=>false
theorem zbn(L1 L2:List (ByteArray×Int))(m1 m2:Nat)(w:World)(h1:EF w m1 L1)(h2:EF w m2 L2)(p1:vw L1)(p2:vw L2) :
  Calls Tryz.prog 125 #[.map (some m1),.map (some m2)] w fun r w'=>r=.returned (.bool (lW L1 L2))/\Below w.heap.size w w':=by
 obtain⟨es1,o1,n1,k1⟩:=h1;obtain⟨es2,o2,n2,k2⟩:=h2;have hK:=Maps.string_keyed (P:=Tryz.prog) zu9;have dj:=AnyEq.maps_Equal_opt zkH hK (plainElem Tryz.prog 3) (plainElem Tryz.prog 3) eqI (some m1) (some m2) (.map es1) (.map es2) w (.inr ⟨m1,_,rfl,o1⟩) (.inr ⟨m2,_,rfl,o2⟩) (.int .i64 0) zero_num (.lit (.int .i64 0)) [] (plainElem_int zu3 (a:=0) (by decide)) ?_
 ·change Calls Tryz.prog 125 _ _ _ at dj;have lG:Lib.equalFuncD eqI (.map es1) (.map es2)=lW L1 L2:=by
   obtain⟨_,iu,GO⟩:=o2.tidy hK;cases iu
   have BR:∀ p∈es2,WideAt.IsKeyLit p.1:=fun p hp=>by obtain⟨q,hq,rfl⟩:=(k2 p).1 hp;exact trivial
   have kJ:∀ r:(ByteArray×Int),Lib.goodD eqI (.map es2) (uy r)=true ↔ r∈L2:=fun r=>by
    unfold Lib.goodD;rw [Bool.and_eq_true];constructor
    ·rintro ⟨g1,g2⟩;obtain⟨p,hp,hs⟩:=List.any_eq_true.1 (show es2.any (fun p=>p.1.sameKey (uy r).1)=true from g1);have e1:p.1=(uy r).1:=WideAt.sameKey_eq hs;obtain⟨q,hq,rfl⟩:=(k2 p).1 hp;have wO:(DataW.map es2).atKey (uy r).1 .nil=(uy q).2:=WideAt.atKey_mem .nil (e1 ▸ BR _ hp) GO (by rw [<- e1];exact hp);rw [wO] at g2;have e3:r.2=q.2:=by have:(r.2 == q.2)=true:=g2;exact beq_iff_eq.1 this
     have e4:q.1=r.1:=by simp only [uy,Lit.string.injEq] at e1;exact str_inj e1
     have:q=r:=Prod.ext e4 e3.symm;rw [<- this];exact hq
    ·intro hr;have hp:uy r∈es2:=(k2 _).2 ⟨r,hr,rfl⟩;have wO:(DataW.map es2).atKey (uy r).1 .nil=(uy r).2:=WideAt.atKey_mem .nil (BR _ hp) GO hp;refine⟨List.any_eq_true.2 ⟨uy r,hp,WideAt.sameKey_self (BR _ hp)⟩,?_⟩;rw [wO]
     show(r.2 == r.2)=true
     exact beq_self_eq_true _
   have ov:Lib.equalFuncD eqI (.map es1) (.map es2)=true ↔ lW L1 L2=true:=by
    rw [vP p1 p2];unfold Lib.equalFuncD;rw [Bool.and_eq_true,decide_eq_true_iff,List.all_eq_true];have e1:Maps.size (DataW.map es1:DataW Unit)=L1.length:=n1;have e2:Maps.size (DataW.map es2:DataW Unit)=L2.length:=n2;rw [e1,e2];constructor
    ·rintro ⟨g1,g2⟩;exact⟨g1,fun r hr=>(kJ r).1 (g2 (uy r) ((k1 _).2 ⟨r,hr,rfl⟩))⟩
    ·rintro ⟨g1,g2⟩;refine⟨g1,fun p hp=>?_⟩;obtain⟨r,hr,rfl⟩:=(k1 p).1 hp;exact(kJ r).2 (g2 r hr)
   cases h3:Lib.equalFuncD eqI (.map es1) (.map es2) <;> cases h4:lW L1 L2
   ·rfl
   ·rw [h3,h4] at ov;simp at ov
   ·rw [h3,h4] at ov;simp at ov
   ·rfl
  rw [lG] at dj;exact dj.mono fun r w' ⟨hr,hg⟩=>⟨hr,(Below.refl _ w).grown hg zNr (fun k hk=>by cases hk)⟩
 ·intro W x y xd yd xp yp hx hy;obtain⟨a,rfl,e1,_⟩:=plainElem_int_inv zu3 hx;obtain⟨b,rfl,e2,_⟩:=plainElem_int_inv zu3 hy;have e1':=congrArg Prod.fst e1;have e2':=congrArg Prod.fst e2;dsimp only at e1' e2';subst e1' e2';constructor
  ·simp [binOp,eqI,Op.intCmp];rfl
  ·intro a b;simp [eqGuard]
theorem s7{L:List Int}:∀ {k:Nat} {r:(ByteArray×Int)},r∈ak L k->r.1.size<=8
 | 0,r,h=>by simp [ak] at h
 | k+1,r,h=>by
  unfold ak at h;rcases zMa h with h | h
  ·exact s7 h
  ·split at h
   ·rw [zMs h];have:=ua ((rowAt L k).take 8);rw [zLt] at this
    show(aT ((rowAt L k).take 8)).1.size<=8
    omega
   ·cases h
theorem EB{R:List (ByteArray×Int)}(h:vw R){k:Nat}{r:(ByteArray×Int)}(hr:R[k]?=some r):∀ q∈R.take k,q.1≠r.1:=by intro q hq e;have hn:=h.nodup;obtain⟨hk,rfl⟩:=zLs hr;rw [<- List.take_append_drop k R,List.map_append,List.nodup_append] at hn;refine hn.2.2 q.1 (List.mem_map.2 ⟨q,hq,rfl⟩) R[k].1 (List.mem_map.2 ⟨R[k],?_,rfl⟩) e;exact List.mem_of_getElem? (i:=0) (by rw [List.getElem?_drop];simp [hk])
theorem Dx(a:Option Addr)(cap:Nat)(L:List Int)(w:World)(aX:Bs w a cap L)(hq:b9 L.length=true)(hf:bh L=[]) :
  Calls Tryz.prog 124 #[.slice a L.length cap] w fun e w'=>∃ m,e=.returned (.tuple #[.map (some m),.nilIface])/\EF w' m (ak L 8)/\Below w.heap.size w w':=by
 have HR:=af (mj a cap L w aX hq);have rS:=dN hf;have Qu:=af (fun(r:(ByteArray×Int)) (h:r∈ak L 8)=>s7 h);have hlen:=eA L 8;have iq:=aX.2.2.1;have D1:=@run_makeMap Tryz.prog;have UC:=af rS;generalize ak L 8=R at *;clear aX hq hf rS;go_enter Tryz.func124,Tryz.ntmps124
 go_wp2_with fail
 refine(ae HR).mono ?_;rintro e w1 ⟨v1,rfl,cz,ay⟩;obtain⟨a1,c1,rfl,dL⟩:=cz.kk mX (by omega);have mB:=af dL;have aL:=af ay;clear cz dL ay HR;go_wp2_with fail
 go_loopw [20] (fun iv wr=>∃ k:Nat,k<=R.length/\iv=.int .i64 (k:Int)/\EF wr w1.heap.size (R.take k)/\Below w1.heap.size w1 wr) (fun iv _=>R.length-(intOf iv).toNat)
 case atStart=>exact⟨0,Nat.zero_le _,rfl,EF.made w1,zBr.alloc zNr _⟩
 case round =>
  obtain⟨k,hk,rfl,GQ,ao⟩:=hrel;by_cases aM:k<R.length
  ·obtain⟨b1,o1,rfl,dR⟩:=((ae mB).below ao).2.2.2 (by intro e;rw [e] at aM;simp at aM);obtain⟨r,hr⟩:∃ r,R[k]?=some r:=⟨R[k],zLg aM⟩;obtain⟨q0,q1⟩:=fG.root (cap:=0) dR hr;have JC:=List.mem_of_getElem? hr;have cL:=ae Qu r JC;have jf:=(ae UC).pos r JC;have da:=EB (ae UC) hr;have pY:R.take (k+1)=R.take k++[r]:=by rw [List.take_add_one,hr];rfl
   have fp:Below wr.heap.size wr (wr.alloc (.cells #[.string r.1,.int .i64 r.2] 152)):=zBr.alloc zNr _;obtain⟨w2,jw,Nf,j5⟩:=(GQ.below fp).store r (by unfold maxLen;omega) (by rw [zLt];omega) (by omega) da;rw [<- pY] at Nf;have mI:=ao.trans (fp.mono ao.size);have br:=af (mI.grown j5.grown mI.size (fun j hj=>by cases hj;exact zNr));have Cz:=af Nf;have g1:=block_lt_of_cell q0;obtain⟨s,h⟩:=r;dsimp only at *;clear dR hr JC cL jf da pY fp Nf j5 mI GQ ao;go_wp2;go_roundw
   case rel=>exact⟨k+1,by omega,by go_num,ae Cz,ae br⟩
   case measure=>simp [intOf];omega
  ·have AJ:k=R.length:=by omega
   rw [AJ,List.take_length] at GQ;have HL:=af GQ;have br:=zTr aL ao;have tJ:¬ ((k:Int)<(R.length:Int)):=by omega
   clear AJ aM hk GQ ao;go_wp2;go_ret2;exact⟨_,rfl,ae HL,ae br⟩
theorem B3(a1 a2:Option Addr)(c1 c2:Nat)(A B:List Int)(w:World)(hA:Bs w a1 c1 A)(hB:Bs w a2 c2 B)(Ce:b9 A.length=true)(JF:b9 B.length=true)(XL:bh A=[])(XK:bh B=[]) :
  Calls Tryz.prog 60 #[.slice a1 A.length c1,.slice a2 B.length c2] w fun e w'=>e=.returned (.tuple #[.bool (lW (ak A 8) (ak B 8)),.nilIface])/\Below w.heap.size w w':=by
 have BY:=af (Dx a1 c1 A w hA Ce XL);have Cz:=af (fun(W:World) (hW:Below w.heap.size w W)=>Dx a2 c2 B W (hB.below hW) JF XK);have ziH:=dN XL;have ziG:=dN XK;have HM:=af (fun(W:World) (m1 m2:Nat) (h1:EF W m1 (ak A 8)) (h2:EF W m2 (ak B 8))=>zbn _ _ m1 m2 W h1 h2 ziH ziG);generalize ak A 8=R1 at *;generalize ak B 8=R2 at *;clear hA hB Ce JF XL XK ziH ziG;generalize lW R1 R2=S at *;go_enter Tryz.func60,Tryz.ntmps60
 go_wp2_with fail
 refine(ae BY).mono ?_;rintro e w1 ⟨m1,rfl,kU,ay⟩;have zjv:=af (ae Cz w1 ay);have aL:=af ay;have KS:=af kU;clear ay kU BY Cz;go_wp2_with fail
 refine(ae zjv).mono ?_;rintro e w2 ⟨m2,rfl,lR,aK⟩;have HE:=af (ae HM w2 m1 m2 ((ae KS).below aK) lR);have br:=zTr aL aK;clear aK lR zjv KS HM aL;go_wp2_with fail
 refine(ae HE).mono ?_;rintro e w3 ⟨rfl,bR⟩;have cT:=zTr br bR;clear bR HE br;go_wp2;go_ret2;exact⟨rfl,ae cT⟩
theorem Im(a1 a2:Option Addr)(c1 c2:Nat)(A B:List Int)(w:World)(hA:Bs w a1 c1 A)(hB:Bs w a2 c2 B)(Ce:b9 A.length=true)(JF:b9 B.length=true)(XL:bh A=[])(XK:bh B=[]) :
  Calls Tryz.prog 59 #[.slice a1 A.length c1,.slice a2 B.length c2] w fun e w'=>e=.returned (.tuple #[.bool (sameO A B 40),.nilIface])/\Below w.heap.size w w':=by
 have gy:Below w.heap.size w ((w.alloc (.cells #[.slice a1 A.length c1] 30)).alloc (.cells #[.slice a2 B.length c2] 30)):=((Below.refl _ w).alloc zNr _).alloc (by simp) _;have Yi:=hA.below gy;have mJ:=hB.below gy;have dR:((w.alloc (.cells #[.slice a1 A.length c1] 30)).alloc (.cells #[.slice a2 B.length c2] 30)).cell? ⟨w.heap.size,0,none⟩=some (.slice a1 A.length c1):=by rw [World.cell?_alloc_lt _ _ _ (by simp),cell_of_row _ _ _ _ _ (0,0) (heap_alloc_new w _)];rfl
 have nH:((w.alloc (.cells #[.slice a1 A.length c1] 30)).alloc (.cells #[.slice a2 B.length c2] 30)).cell? ⟨w.heap.size+1,0,none⟩=some (.slice a2 B.length c2):=by have h:=heap_alloc_new (w.alloc (.cells #[.slice a1 A.length c1] 30)) (.cells #[.slice a2 B.length c2] 30);rw [aH] at h;rw [cell_of_row _ _ _ _ _ (0,0) h];rfl
 have CA:=af (fQ a1 c1 A _ Yi Ce);have EI:=af (fun(W:World) (hW:Below ((w.alloc (.cells #[.slice a1 A.length c1] 30)).alloc (.cells #[.slice a2 B.length c2] 30)).heap.size ((w.alloc (.cells #[.slice a1 A.length c1] 30)).alloc (.cells #[.slice a2 B.length c2] 30)) W)=>fQ a2 c2 B W (mJ.below hW) JF);have HQ:=af (fun(W:World) (e1 e2:Option Addr) (d1 d2:Nat) (hW:Below ((w.alloc (.cells #[.slice a1 A.length c1] 30)).alloc (.cells #[.slice a2 B.length c2] 30)).heap.size ((w.alloc (.cells #[.slice a1 A.length c1] 30)).alloc (.cells #[.slice a2 B.length c2] 30)) W) (h1:fG tM 4 W e1 d1 (entsK A 40)) (h2:fG tM 4 W e2 d2 (entsK B 40)) =>NH A B a1 a2 c1 c2 w.heap.size (w.heap.size+1) e1 e2 d1 d2 _ _ W (Yi.below hW) (mJ.below hW) ((hW.cell (block_lt_of_cell dR)).trans dR) ((hW.cell (block_lt_of_cell nH)).trans nH) h1 h2 (zP XL) (zP XK));rw [NI hA.1 hB.1] at HQ;have kU:=b8 A 40;have lR:=b8 B 40;have iw:=af gy;have mC:=af dR;have vH:=af nH;have fp:=hA.2.2.1;have hbB:=hB.2.2.1;generalize sameO A B 40=S at *;generalize entsK A 40=E1 at *;generalize entsK B 40=E2 at *;clear hA hB Yi mJ Ce JF XL XK gy dR nH;generalize A.length=NA at *;generalize B.length=NB at *;go_enter Tryz.func59,Tryz.ntmps59
 go_wp2_with fail
 refine(ae CA).mono ?_;rintro e w1 ⟨v1,rfl,cz,ay⟩;obtain⟨p1,d1,rfl,dL⟩:=cz.kk iI (by omega);have zjB:=af (ae EI w1 ay);have mB:=af dL;have aL:=af ay;have k2:=(ay.cell (block_lt_of_cell (ae vH))).trans (ae vH);have g2:w.heap.size+1<w1.heap.size:=by have:=ay.size;simp at this;omega
 clear cz dL ay CA EI;go_wp2_with fail
 refine(ae zjB).mono ?_;rintro e w2 ⟨v2,rfl,gC,aK⟩;obtain⟨p2,d2,rfl,oh⟩:=gC.kk iI (by omega);have cD:=zTs aL aK;have HQ2:=af (ae HQ w2 p1 p2 d1 d2 cD ((ae mB).below aK) oh);have br:=zTr iw cD;clear gC oh aK cD zjB mB aL HQ k2;go_wp2_with fail
 refine(ae HQ2).mono ?_;rintro e w3 ⟨rfl,bR⟩;have cT:=zTr br bR;clear bR HQ2 br;go_wp2;go_ret2;exact⟨rfl,ae cT⟩
end
section
open Go.RowKit
theorem Il(a1 a2:Option Addr)(c1 c2:Nat)(A B:List Int)(w:World)(hA:Bs w a1 c1 A)(hB:Bs w a2 c2 B)(Ce:b9 A.length=true)(JF:b9 B.length=true)(XL:bh A=[])(XK:bh B=[]) :
  Calls Tryz.prog 16 #[.slice a1 A.length c1,.slice a2 B.length c2] w fun e w'=>e=.returned (.tuple #[.bool (sameO A B 40 && lW (ak A 8) (ak B 8)),.nilIface])/\Below w.heap.size w w':=by
 have mC:=af (nz a1 c1 A w hA Ce);have vH:=af (fun(W:World) (hW:Below w.heap.size w W)=>nz a2 c2 B W (hB.below hW) JF);rw [XL] at mC;rw [XK] at vH;have HO:=af (fun(W:World) (hW:Below w.heap.size w W)=>Im a1 a2 c1 c2 A B W (hA.below hW) (hB.below hW) Ce JF XL XK);have HR:=af (fun(W:World) (hW:Below w.heap.size w W)=>B3 a1 a2 c1 c2 A B W (hA.below hW) (hB.below hW) Ce JF XL XK);have iq:=hA.2.2.1;have ziz:=hB.2.2.1;clear Ce JF hA hB XL XK;generalize sameO A B 40=S1 at *;generalize lW (ak A 8) (ak B 8)=S2 at *;generalize A.length=NA at *;generalize B.length=NB at *;go_enter Tryz.func16,Tryz.ntmps16
 go_wp2_with fail
 refine(ae mC).mono ?_;rintro e w1 ⟨v1,rfl,cz,ay⟩;obtain⟨p1,d1,rfl,dL⟩:=cz.kk fM (by simp);have ZK:=af (ae vH w1 ay);have aL:=af ay;clear cz dL ay mC vH;go_wp2_with fail
 refine(ae ZK).mono ?_;rintro e w2 ⟨v2,rfl,gC,aK⟩;obtain⟨p2,d2,rfl,oh⟩:=gC.kk fM (by simp);have cD:=zTs aL aK;have zm:=af (ae HO w2 cD);have br:=af cD;clear gC oh aK cD ZK aL HO;go_wp2_with fail
 refine(ae zm).mono ?_;rintro e w3 ⟨rfl,bR⟩;have j8:=zTs br bR;have HR3:=af (ae HR w3 j8);have cT:=af j8;clear bR j8 zm br HR;cases S1 with
 | false =>clear HR3;go_wp2;go_ret2;exact⟨rfl,ae cT⟩
 | true =>
  go_wp2_with fail
  refine(ae HR3).mono ?_;rintro e w4 ⟨rfl,dO⟩;have ez:=zTr cT dO;clear dO HR3 cT;go_wp2;go_ret2;exact⟨rfl,ae ez⟩
end
theorem xC{P:Program}{ops:Array Oper}{Q:Exit->Act->World->Prop}{md:Region.Mode}{S S2:World->Prop}(hS:∀ w,S2 w->S w) :∀ (fuel:Nat) (listed:Array Bool) (a:Act) (w:World),wpAnyH P md ops Q S2 fuel listed a w->wpAnyH P md ops Q S fuel listed a w
 | 0,_,_,_,h=>h
 | fuel+1,_,_,_,h=>⟨h.1,fun i hi=>wpOp_mono (fun a' w' h'=>⟨hS w' h'.1,xC hS fuel _ a' w' h'.2⟩) (h.2 i hi)⟩
end Go.Proofs.YtcimhnnendlblaaGreat
