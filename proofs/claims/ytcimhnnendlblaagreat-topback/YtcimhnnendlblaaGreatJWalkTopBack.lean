/-
  The walk of TopBack. (Part of the proof of TopBack.)
-/
import Derived.Test.YtcimhnnendlblaaGreatJTc
import Derived.Test.YtcimhnnendlblaaGreatJSt
import Derived.Test.YtcimhnnendlblaaGreatJMgc
import Derived.Test.YtcimhnnendlblaaGreatJOlb
set_option maxRecDepth 100000
set_option maxHeartbeats 16000000
set_option linter.all false
namespace Go.Proofs.YtcimhnnendlblaaGreat
open Go.RowKit Go.Sort
theorem Hf(n:Int)(a1:Option Addr)(cap1:Nat)(f:List GY)(a2:Option Addr)(cap2:Nat)(ops:List GY)(w:World)(hf:Ops w a1 cap1 f)(ho:Ops w a2 cap2 ops) :
  Calls Tryz.prog 3 #[.int .i64 n,.slice a1 f.length cap1,.slice a2 ops.length cap2] w fun e w'=>e=.returned (.bool true)/\Below w.heap.size w w':=by
 have pN:=hf.1.2.2.1;have Cg:=ho.1.2.2.1;have HF:=af hf;have HO:=af ho;have H1:=af (za0 w);clear hf ho;cases hq:b9 n with
 | false =>
  have hlen:n<288\/(¬ n<288/\6400<n):=Classical.byContradiction fun hc=>by rw [bF.2 (by omega)] at hq;cases hq
  have HN:=af (fun W:World=>zbT n hq W);rw [aC 1 (by decide)] at HN;clear hq HF HO;rcases hlen with g1 | ⟨g1,g2⟩
  all_goals
   go_enter Tryz.func3,Tryz.ntmps3
   go_wp2_with fail
   refine(ae H1).mono ?_;rintro e w1 ⟨rfl,ay⟩;have aL:=af ay;have HN1:=af (ae HN w1);clear ay H1 HN;go_wp2_with fail
   refine(ae HN1).mono ?_;rintro e w2 ⟨rfl,aK⟩;have br:=zTr aL aK;clear aK aL HN1;go_wp2;go_ret;exact⟨rfl,ae br⟩
 | true =>
  have hlen:=bF.1 hq;obtain⟨N,rfl⟩:∃ N:Nat,n=N:=⟨n.toNat,by omega⟩;have hN1:288<=N:=by omega
  have hN2:N<=6400:=by omega
  have HN:=af (fun W:World=>Ya N W hq);clear hq hlen;go_enter Tryz.func3,Tryz.ntmps3
  go_wp2_with fail
  refine(ae H1).mono ?_;rintro e w1 ⟨rfl,ay⟩;have aL:=af ay;have HN0:=af (ae HN w1);clear ay H1 HN;go_wp2_with fail
  refine(ae HN0).mono ?_;rintro e w2 ⟨p,g2,c2,rfl,JM,aK⟩;have EG:Hid (Tb1 w1 w2 p N):=af ⟨g2,c2,_,JM,aj N,aK⟩;clear JM aK HN0;go_upto_region 7 with fail
  go_cut [10] from 50 to 50 (fun v wx=>v=.int .i64 0/\wx=w2)
  case first =>
   go_wp2;go_meet
   case rel=>exact⟨rfl,rfl⟩
  case rest =>
   obtain⟨rfl,hwx⟩:=hcut;replace hwx:=hwx.symm;subst hwx;refine(‹∀ (a:Act) (w:World),Code.wp Tryz.prog (Code.block _ _) _ a w->_›) _ _ ?_;go_cut [10] from 50 to 65 (fun _ wx=>Tb1 w1 wx p N)
   case first =>
    go_wp2_with fail
    go_loopw [10] (fun iv wr=>∃ k:Nat,k<=20/\iv=.int .i64 k/\Tb1 w1 wr p N) (fun iv _=>20-(intOf iv).toNat)
    case atStart=>exact⟨0,by omega,rfl,ae EG⟩
    case round =>
     obtain⟨k,zlh,rfl,Xn⟩:=hrel;clear EG;by_cases eQ:k<f.length/\k<20
     ·obtain⟨aM,hk⟩:=eQ;have f1:(k:Int)<(f.length:Int):=by omega
      have f2:(k:Int)<20:=by omega
      have f3:(0:Int)<=(k:Int):=by omega
      have hr:f[k]?=some f[k]:=zLg aM;generalize f[k]=r at hr;obtain⟨bo,oo,rfl,hco⟩:=(ae HF).1.2.2.2 (by intro e;rw [e] at aM;simp at aM);obtain⟨o0,o1,o2,o3,o4,o5⟩:=fG.op hco hr;have ao:=(ae aL).trans (Xn.base.mono (ae aL).size);rw [<- ao.cell (block_lt_of_cell o0)] at o0;rw [<- ao.cell (block_lt_of_cell o1)] at o1;rw [<- ao.cell (block_lt_of_cell o2)] at o2;rw [<- ao.cell (block_lt_of_cell o3)] at o3;rw [<- ao.cell (block_lt_of_cell o4)] at o4;rw [<- ao.cell (block_lt_of_cell o5)] at o5;have hdo:=Xn.act r (((ae HF).2 r (List.mem_of_getElem? hr)).Y9 ao);unfold Rx at hdo;obtain⟨x0,x1,x2,x3,sn,ab,cb,body⟩:=r;dsimp only at *;have HDO:=af hdo;clear hco hr Xn ao hdo;generalize body.length=BL at *;go_wp2_with fail
      refine(ae HDO).mono ?_;rintro e w4 ⟨rfl,hqq⟩;have HQ:=af hqq;clear hqq HDO o0 o1 o2 o3 o4 o5;go_wp2;go_roundw
      case rel=>exact⟨k+1,by omega,by go_num,ae HQ⟩
      case measure=>simp [intOf];omega
     ·have HQ:=af Xn;clear Xn;by_cases aM:k<f.length
      ·have f1:(k:Int)<(f.length:Int):=by omega
       have f2:¬ (k:Int)<20:=by omega
       go_wp2;go_meet
       case rel=>exact ae HQ
      ·have f1:¬ (k:Int)<(f.length:Int):=by omega
       go_wp2;go_meet
       case rel=>exact ae HQ
   case rest =>
    obtain⟨w3,zkP⟩:∃ x,x=wc:=⟨wc,rfl⟩;subst zkP;have ht:=hcut;clear hcut EG HF;obtain⟨g3,c3,L0,hh3,lQ,bR⟩:=ht;have HNU:=af (UT hh3 bR.size);have tz:=af lQ;have cT:=af bR;clear hh3 bR lQ;go_wp2_with fail
    refine(ae HNU).mono ?_;rintro e w4 ⟨u,gm,rfl,zen,dO⟩;have np:=zTs cT dO;have HM:=af (QO zen np.size (by omega));have HG4:=af (fun k hk=>zen.ge k hk);have ez:=af np;clear zen dO np HNU cT;go_wp2_with fail
    refine(ae HM).mono ?_;rintro e w5 ⟨rfl,Xf,xV⟩;have zc:=(ae ez).trans (xV.below (ae HG4) (ae ez).size);rw [List.nil_append] at Xf;have e01:((0:Nat):Int)+1=1:=rfl;rw [e01] at Xf ⊢;have HY5:=af (cZ p g3 c3 w1.heap.size L0 w5 Xf.hp);rw [ae tz] at HY5;have zck:=af Xf;have lj:=af zc;clear Xf xV zc HM ez HG4 e01;go_wp2_with fail
    refine(ae HY5).mono ?_;rintro e w6 ⟨aa,ca,rfl,ho6,tK⟩;rw [<- ae tz] at ho6;have BA:Hid (Tb2 w1 w6 p u gm N L0 aa ca):=af ⟨g3,c3,L0,(ae zck).below tK,ae tz,IU (ae zck) (ae lj).size ho6 (ae zck).hp.kV (by rw [ae tz];omega),zTs lj tK⟩;clear ho6 tK HY5 zck lj;go_upto_region 14 with fail
    go_cut [14] from 72 to 72 (fun v wx=>v=.int .i64 0/\wx=w6)
    case first =>
     go_wp2;go_meet
     case rel=>exact⟨rfl,rfl⟩
    case rest =>
     obtain⟨rfl,hwx⟩:=hcut;replace hwx:=hwx.symm;subst hwx;refine(‹∀ (a:Act) (w:World),Code.wp Tryz.prog (Code.block _ _) _ a w->_›) _ _ ?_;go_cut [14] from 72 to 87 (fun _ wx=>Tb2 w1 wx p u gm N L0 aa ca)
     case first =>
      go_wp2_with fail
      go_loopw [14] (fun iv wr=>∃ k:Nat,k<=20/\iv=.int .i64 k/\Tb2 w1 wr p u gm N L0 aa ca) (fun iv _=>20-(intOf iv).toNat)
      case atStart=>exact⟨0,by omega,rfl,ae BA⟩
      case round =>
       obtain⟨k,zlh,rfl,Xn⟩:=hrel;clear BA;by_cases eQ:k<ops.length/\k<20
       ·obtain⟨aM,hk⟩:=eQ;have f1:(k:Int)<(ops.length:Int):=by omega
        have f2:(k:Int)<20:=by omega
        have f3:(0:Int)<=(k:Int):=by omega
        have hr:ops[k]?=some ops[k]:=zLg aM;generalize ops[k]=r at hr;obtain⟨bo,oo,rfl,hco⟩:=(ae HO).1.2.2.2 (by intro e;rw [e] at aM;simp at aM);obtain⟨o0,o1,o2,o3,o4,o5⟩:=fG.op hco hr;have ao:=(ae aL).trans (Xn.base.mono (ae aL).size);rw [<- ao.cell (block_lt_of_cell o0)] at o0;rw [<- ao.cell (block_lt_of_cell o1)] at o1;rw [<- ao.cell (block_lt_of_cell o2)] at o2;rw [<- ao.cell (block_lt_of_cell o3)] at o3;rw [<- ao.cell (block_lt_of_cell o4)] at o4;rw [<- ao.cell (block_lt_of_cell o5)] at o5;have hdo:=Xn.act r (((ae HO).2 r (List.mem_of_getElem? hr)).Y9 ao);unfold Rx at hdo;obtain⟨x0,x1,x2,x3,sn,ab,cb,body⟩:=r;dsimp only at *;have HDO:=af hdo;clear hco hr Xn ao hdo;generalize body.length=BL at *;go_wp2_with fail
        refine(ae HDO).mono ?_;rintro e w4 ⟨rfl,hqq⟩;have HQ:=af hqq;clear hqq HDO o0 o1 o2 o3 o4 o5;go_wp2;go_roundw
        case rel=>exact⟨k+1,by omega,by go_num,ae HQ⟩
        case measure=>simp [intOf];omega
       ·have HQ:=af Xn;clear Xn;by_cases aM:k<ops.length
        ·have f1:(k:Int)<(ops.length:Int):=by omega
         have f2:¬ (k:Int)<20:=by omega
         go_wp2;go_meet
         case rel=>exact ae HQ
        ·have f1:¬ (k:Int)<(ops.length:Int):=by omega
         go_wp2;go_meet
         case rel=>exact ae HQ
     case rest =>
      obtain⟨w7,zkO⟩:∃ x,x=wc:=⟨wc,rfl⟩;subst zkO;have ht:=hcut;clear hcut BA HO;obtain⟨g7,c7,L,Xe,PJ,ho7,XZ⟩:=ht;have hfL:=Xe.hp.aV;have hbL:=Xe.hp.kV;have BE:=af hfL;have vr:=af hbL;have tl:=ae tz;have HY7:=af (cZ p g7 c7 w1.heap.size L w7 Xe.hp);rw [PJ] at HY7;have zfw:=af Xe;have HA7:=af ho7;have BB:=af PJ;have HB7:=af XZ;clear Xe ho7 XZ hfL hbL PJ tl;go_wp2_with fail
      refine(ae HY7).mono ?_;rintro e w8 ⟨ab,cb,rfl,ho8,SZ⟩;rw [<- ae BB] at ho8;have zem:=(ae zfw).below SZ;have HA8:=af ((ae HA7).below SZ);have HC8:=af (IU (ae zfw) (ae HB7).size ho8 (ae vr) (by rw [ae BB];omega));have G4:=af (EV zem (m:=1) (by omega) (I:=L0) (by unfold mkAt;rw [if_pos rfl]));have zfv:=af zem;have HB8:=zTr HB7 SZ;have HDL:Hid ((ir L0 L L0.length).length<=6400):=af (by have h:=wY (a:=L0) (b:=L) ((ae tz).trans (ae BB).symm) L0.length zNr;rw [ae tz] at h ⊢;omega);have UC:Hid ((ir L0 L L0.length).length<=200->Qp L0 (ir L0 L L0.length)=0/\TX L0 (ir L0 L L0.length)=L):=af (fun h=>UZ ((ae tz).trans (ae BB).symm) h);clear ho8 SZ zem HY7 zfw HA7 HB7;generalize ir L0 L L0.length=DD at *;go_wp2_with fail
      refine(ae G4).mono ?_;rintro e w9 ⟨v9,rfl,SU,mr⟩;obtain⟨al,cl,rfl,_⟩:=SU.chs (by have:=ae HDL;omega);have zel:=(ae zfv).below mr;have Ef:=zTs HB8 mr;have KW:=af (QP zel Ef.size (m:=1) (by omega) (I:=L0) (by unfold mkAt;rw [if_pos rfl]));have HG9:=af (fun k hk=>zel.ge k hk);have zcp:=af SU;have HA9:=af ((ae HA8).below mr);have HC9:=af ((ae HC8).below mr);have Oy:=af (fun k hk=>(ae zfv).lt k hk);have jI:=af Ef;have K5:=ae HDL;clear SU mr zel Ef G4 zfv HA8 HC8 HB8;go_wp2_with fail
      refine(ae KW).mono ?_;rintro e w10 ⟨rfl,g10,c10,zcL,Xi⟩;have ziO:=(ae jI).trans (Xi.below (ae HG9) (ae jI).size);have sE:Below w10.heap.size w10 w10.drew:=bq zBr;have zbV:=((ae HA9).dZ Xi).bs;have zjH:=af (((ae HC9).dZ Xi).bs);obtain⟨al2,cl2,e2,ziL⟩:=((ae zcp).UU Xi (ae Oy)).chs (by omega);simp only [Value.slice.injEq,true_and] at e2;obtain⟨rfl,rfl⟩:=e2;have hcv:=fU (P:=Tryz.prog) (t:=30) (e:=9) zu30 zu5 zu9 (zbV.below sE);have ik:=UY (zcL.hp.below sE) aa ca (zbV.below sE);dsimp only at hcv ik;rw [ae tz] at hcv ik;have HY:=af ik;have HBD:=af sE;have zjR:=af zbV;have zjC:=af ziL;have sl:=af ziO;clear zcL Xi ziO sE zbV ziL ik KW HG9 zcp HA9 HC9 Oy jI;generalize strOf L0=SI at *;go_upto_region 21 with fail
      refine wp_region_held_drew (S:=(fun wq=>(convert 30 9 (.slice aa N ca)).run Tryz.prog wq=.ok (.string SI) wq)) (by kernel_rfl) hcv (fun PU=>?_);refine wpAnyH_take (i:=0) (oi:={ dst:=some 99,op:=Op.move (Operand.tmp 17),type:=26,pos := "top.go:148",after:=#[],guard:=none }) (v:=.nilIface) rfl (by kernel_rfl) (by kernel_rfl) (by kernel_rfl) (fun _ _ _ h=>h) (Or.inl ⟨by rfl,fun wq jz=>by (try dsimp only at jz);go_simp⟩) (by assumption) ?_
      try simp only [Act.put,List.setIfInBounds_toArray,List.set_cons_zero,List.set_cons_succ]
      refine wpAnyH_take (i:=1) (oi:={ dst:=some 100,op:=Op.binOp BinOp.neq 26 (Operand.tmp 99) (Operand.const Value.nilIface) 26,type:=4,pos := "top.go:148",after:=#[{ on:=0,ground:=Ground.data }],guard:=none }) (v:=.bool false) rfl (by kernel_rfl) (by kernel_rfl) (by kernel_rfl) (fun _ _ _ h=>h) (Or.inl ⟨by rfl,fun wq jz=>by (try dsimp only at jz);go_simp⟩) (by assumption) ?_
      try simp only [Act.put,List.setIfInBounds_toArray,List.set_cons_zero,List.set_cons_succ]
      refine wpAnyH_take (i:=2) (oi:={ dst:=some 101,op:=Op.move (Operand.tmp 100),type:=4,pos := "top.go:148",after:=#[{ on:=1,ground:=Ground.data }],guard:=none }) (v:=.bool false) rfl (by kernel_rfl) (by kernel_rfl) (by kernel_rfl) (fun _ _ _ h=>h) (Or.inl ⟨by rfl,fun wq jz=>by (try dsimp only at jz);go_simp⟩) (by assumption) ?_
      try simp only [Act.put,List.setIfInBounds_toArray,List.set_cons_zero,List.set_cons_succ]
      refine wpAnyH_take (i:=3) (oi:={ dst:=some 102,op:=Op.move (Operand.tmp 18),type:=26,pos := "top.go:148",after:=#[{ on:=2,ground:=Ground.guard }],guard:=some (2,false)}) (v:=.nilIface) rfl (by kernel_rfl) (by kernel_rfl) (by kernel_rfl) (fun _ _ _ h=>h) (Or.inl ⟨by rfl,fun wq jz=>by (try dsimp only at jz);go_simp⟩) (by assumption) ?_
      try simp only [Act.put,List.setIfInBounds_toArray,List.set_cons_zero,List.set_cons_succ]
      refine wpAnyH_take (i:=4) (oi:={ dst:=some 103,op:=Op.binOp BinOp.neq 26 (Operand.tmp 102) (Operand.const Value.nilIface) 26,type:=4,pos := "top.go:148",after:=#[{ on:=3,ground:=Ground.data },{ on:=2,ground:=Ground.guard }],guard:=some (2,false)}) (v:=.bool false) rfl (by kernel_rfl) (by kernel_rfl) (by kernel_rfl) (fun _ _ _ h=>h) (Or.inl ⟨by rfl,fun wq jz=>by (try dsimp only at jz);go_simp⟩) (by assumption) ?_
      try simp only [Act.put,List.setIfInBounds_toArray,List.set_cons_zero,List.set_cons_succ]
      refine wpAnyH_take (i:=5) (oi:={ dst:=some 104,op:=Op.pick (Operand.tmp 101) (Operand.const (Value.bool true)) (Operand.tmp 103),type:=4,pos := "top.go:148",after:=#[{ on:=2,ground:=Ground.data },{ on:=4,ground:=Ground.data }],guard:=none }) (v:=.bool false) rfl (by kernel_rfl) (by kernel_rfl) (by kernel_rfl) (fun _ _ _ h=>h) (Or.inl ⟨by rfl,fun wq jz=>by (try dsimp only at jz);go_simp⟩) (by assumption) ?_
      try simp only [Act.put,List.setIfInBounds_toArray,List.set_cons_zero,List.set_cons_succ]
      refine wpAnyH_take (i:=6) (oi:={ dst:=some 105,op:=Op.move (Operand.tmp 104),type:=4,pos := "top.go:148",after:=#[{ on:=5,ground:=Ground.data },{ on:=2,ground:=Ground.chain }],guard:=none }) (v:=.bool false) rfl (by kernel_rfl) (by kernel_rfl) (by kernel_rfl) (fun _ _ _ h=>h) (Or.inl ⟨by rfl,fun wq jz=>by (try dsimp only at jz);go_simp⟩) (by assumption) ?_
      try simp only [Act.put,List.setIfInBounds_toArray,List.set_cons_zero,List.set_cons_succ]
      refine wpAnyH_take (i:=7) (oi:={ dst:=some 106,op:=Op.move (Operand.tmp 8),type:=24,pos := "top.go:148",after:=#[{ on:=6,ground:=Ground.guard }],guard:=some (6,false)}) (v:=(.pointer (some ⟨p,0,none⟩))) rfl (by kernel_rfl) (by kernel_rfl) (by kernel_rfl) (fun _ _ _ h=>h) (Or.inl ⟨by rfl,fun wq jz=>by (try dsimp only at jz);go_simp⟩) (by assumption) ?_
      try simp only [Act.put,List.setIfInBounds_toArray,List.set_cons_zero,List.set_cons_succ]
      refine wpAnyH_take (i:=10) (oi:={ dst:=some 109,op:=Op.move (Operand.tmp 13),type:=30,pos := "top.go:148",after:=#[{ on:=6,ground:=Ground.guard }],guard:=some (6,false)}) (v:=(.slice aa N ca)) rfl (by kernel_rfl) (by kernel_rfl) (by kernel_rfl) (fun _ _ _ h=>h) (Or.inl ⟨by rfl,fun wq jz=>by (try dsimp only at jz);go_simp⟩) (by assumption) ?_
      try simp only [Act.put,List.setIfInBounds_toArray,List.set_cons_zero,List.set_cons_succ]
      refine wpAnyH_take (i:=11) (oi:={ dst:=some 110,op:=Op.convert 30 9 (Operand.tmp 109),type:=9,pos := "top.go:148",after:=#[{ on:=10,ground:=Ground.data },{ on:=6,ground:=Ground.guard }],guard:=some (6,false)}) (v:=(.string SI)) rfl (by kernel_rfl) (by kernel_rfl) (by kernel_rfl) (fun _ _ _ h=>h) (Or.inl ⟨by rfl,fun wq jz=>by (try dsimp only at jz);go_simp⟩) (by assumption) ?_
      try simp only [Act.put,List.setIfInBounds_toArray,List.set_cons_zero,List.set_cons_succ]
      refine wpAnyH_ready (rs:=[8]) (by kernel_rfl) (by simp) ?_;refine AllReadyH.cons (o:={ dst:=some 107,op:=Op.call { callee:=Callee.value (Operand.func 9),args:=#[Operand.tmp 106],argTypes:=#[24]},type:=30,pos := "top.go:148",after:=#[{ on:=7,ground:=Ground.data },{ on:=6,ground:=Ground.chain },{ on:=6,ground:=Ground.guard }],guard:=some (6,false)}) rfl (fun K hK=>?_) AllReadyH.nil
      go_simp
      refine(ae HY).mono ?_;rintro e w11 ⟨a8,c8,rfl,k1,k2,ziE⟩;refine hK.out _ _ k2 (fun _=>xC (S2:=fun wq=>(convert 30 9 (.slice aa N ca)).run Tryz.prog wq=.ok (.string SI) wq/\(convert 30 9 (.slice a8 N c8)).run Tryz.prog wq=.ok (.string SI) wq) (fun _ h=>h.1) _ _ _ _ ?_);have AT:=And.intro k2 k1;clear hK K PU
      try simp only [Act.put,List.setIfInBounds_toArray,List.set_cons_zero,List.set_cons_succ]
      refine wpAnyH_take (i:=9) (oi:={ dst:=some 108,op:=Op.convert 30 9 (Operand.tmp 107),type:=9,pos := "top.go:148",after:=#[{ on:=8,ground:=Ground.data },{ on:=6,ground:=Ground.guard }],guard:=some (6,false)}) (v:=(.string SI)) rfl (by kernel_rfl) (by kernel_rfl) (by kernel_rfl) (fun _ _ _ h=>h) (Or.inl ⟨by rfl,fun wq jz=>by (try dsimp only at jz);go_simp⟩) (by assumption) ?_
      try simp only [Act.put,List.setIfInBounds_toArray,List.set_cons_zero,List.set_cons_succ]
      refine wpAnyH_take (i:=12) (oi:={ dst:=some 111,op:=Op.binOp BinOp.neq 9 (Operand.tmp 108) (Operand.tmp 110) 9,type:=4,pos := "top.go:148",after:=#[{ on:=9,ground:=Ground.data },{ on:=11,ground:=Ground.data },{ on:=6,ground:=Ground.guard }],guard:=some (6,false)}) (v:=(.bool false)) rfl (by kernel_rfl) (by kernel_rfl) (by kernel_rfl) (fun _ _ _ h=>h) (Or.inl ⟨by rfl,fun wq jz=>by (try dsimp only at jz);go_simp⟩) (by assumption) ?_
      try simp only [Act.put,List.setIfInBounds_toArray,List.set_cons_zero,List.set_cons_succ]
      refine wpAnyH_take (i:=13) (oi:={ dst:=some 112,op:=Op.pick (Operand.tmp 105) (Operand.const (Value.bool true)) (Operand.tmp 111),type:=4,pos := "top.go:148",after:=#[{ on:=6,ground:=Ground.data },{ on:=12,ground:=Ground.data }],guard:=none }) (v:=(.bool false)) rfl (by kernel_rfl) (by kernel_rfl) (by kernel_rfl) (fun _ _ _ h=>h) (Or.inl ⟨by rfl,fun wq jz=>by (try dsimp only at jz);go_simp⟩) (by assumption) ?_
      try simp only [Act.put,List.setIfInBounds_toArray,List.set_cons_zero,List.set_cons_succ]
      refine wpAnyH_done (by kernel_rfl) ?_ _;have JU:Below w10.heap.size w10 w11:=(ae HBD).trans ziE;have zfW:=af ((ae zjR).below JU);have zcq:=af ((ae zjH).below JU);have zfB:=af ((ae zjC).below JU);have ZP:=af ((ae sl).trans (JU.mono (ae sl).size));clear ziE JU k1 k2 hcv HY HBD zjR zjH zjC sl AT;have JR:DD.length<=200\/¬ DD.length<=200:=Decidable.em _;rcases JR with hd | hd
      case' inl =>
       obtain⟨e1,e2⟩:=ae UC hd;have rS:=zdx aa al ca cl L0 L DD w11 (ae zfW) (ae zfB) hd e1 e2;rw [ae tz] at rS;have HP:=af rS;have hdi:(DD.length:Int)<=200:=by omega
       clear e1 e2 rS zfW zfB UC hd;go_wp2_with fail
       refine(ae HP).mono ?_;rintro e w12 ⟨ax,cx,rfl,hx,Co⟩;have ze7:=(ae zcq).below Co;have hcx:=fU (P:=Tryz.prog) (t:=30) (e:=9) zu30 zu5 zu9 hx;have hcc:=fU (P:=Tryz.prog) (t:=30) (e:=9) zu30 zu5 zu9 ze7;rw [ae BB] at hcx hcc ⊢;have zjG:=af ze7;have ZO:=zTr ZP Co;clear hx Co ze7 HP zcq ZP;generalize strOf L=SL at *;go_upto_region 27 with fail
       obtain⟨wz,hwz⟩:∃ x,x=w12:=⟨w12,rfl⟩;subst hwz;clear hcx hcc;have HCZ:=zjG;have HBZ:=ZO;clear zjG ZO
      case' inr =>
       have hdi:¬ (DD.length:Int)<=200:=by omega
       clear hd zfW zfB UC;go_upto_region 27 with fail
       obtain⟨wz,hwz⟩:∃ x,x=w11:=⟨w11,rfl⟩;subst hwz;have HCZ:=zcq;have HBZ:=ZP;clear zcq ZP
      all_goals
       have hDN:=RK ab cb L wz (ae HCZ);rw [show dwL L=Ut L by unfold dwL;rw [if_pos (zgV (ae BE))],zgV (ae BE),aA,ae BB] at hDN;have HDN:=af hDN;have HDU:=af (up_down (ae BE) (ae vr));clear hDN;go_wp2_with fail
       refine(ae HDN).mono ?_;rintro e w13 ⟨ad,cd,rfl,ziq,yJ⟩;obtain⟨U,u1,u2,u3,u4,u5,u6⟩:=ae HDU;have hUP:=zdn ad cd (Ut L) w13 ziq;rw [u1] at hUP;dsimp only at hUP;rw [aA] at hUP;have HUP:=af hUP;have zjF:=af ((ae HCZ).below yJ);have zfU:=zTr HBZ yJ;have qd:Hid ((entsK U 40).length=(entsK L 40).length):=af (OT (ae BE) u2 u5 40 zNr);have HUL:=af u2.cW;clear ziq yJ hUP u1 u2 u3 u4 u5 u6 HDN HDU HCZ HBZ;generalize (Ut L).length=ND at *;go_wp2_with fail
       refine(ae HUP).mono ?_;rintro e w14 ⟨au,cu,rfl,zhH,wM⟩;have Ue:=af ((ae zjF).below wM);have zfT:=zTr zfU wM;have zjm:=af zhH;obtain⟨t1,t2,t3,t4,t5⟩:=Lx (ae BE) (ae BE) (ae vr) (ae vr) rfl;have t6:aB (nT L L L).2:=(Jb (ae BE) (ae BE) (ae BE) (ae vr) (ae vr) (ae vr) (ae BE) rfl (fun h _ _=>(zw h).1) (fun s=>Jc s)).2.1;have h3:=MP (ab,cb,L) (ab,cb,L) (ab,cb,L) w14 (ae Ue) (ae Ue) (ae Ue);have M0:=QU (m:=(ab,cb,L)) (a:=(ab,cb,L)) (b:=(ab,cb,L)) (fun x hx=>by simp at hx;subst hx;exact⟨ae BE,rfl⟩);have pY:thK (ab,cb,L) (ab,cb,L) (ab,cb,L)=[]:=by unfold thK;rw [M0.1,t1,if_pos rfl];exact t5
       rw [M0.1,M0.2,pY] at h3;dsimp only at h3;rw [t1,aA] at h3;unfold mi at h3;dsimp only at h3;have HSM:=af (fun(x:Option Addr) (c:Nat) (W:World) (h:Bs W x c (nT L L L).2) (hW:Below w14.heap.size w14 W)=>Hr x ab c cb (nT L L L).2 L W h ((ae Ue).below hW) t6 (ae BE) t3 t4);rw [t2,ae BB] at HSM;rw [t2,ae BB] at h3;have H3:=af h3;clear zhH wM h3 t1 t2 t3 t4 t5 t6 M0 pY HUP zjF zfU;generalize (nT L L L).2=X at *;go_wp2_with fail
       refine(ae H3).mono ?_;rintro e w15 ⟨x15,c15,v15,rfl,zhR,zeD,X4⟩;obtain⟨a15,d15,rfl,_⟩:=zeD.kk iG (by simp);have zdb:=af (ae HSM x15 c15 w15 zhR X4);have zjE:=af ((ae Ue).below X4);have zjl:=af ((ae zjm).below X4);have zfS:=zTr zfT X4;clear zhR zeD X4 H3 HSM Ue zfT zjm;go_wp2_with fail
       refine(ae zdb).mono ?_;rintro e w16 ⟨rfl,S5⟩;have zfF:=af ((ae zjE).below S5);have zfR:=zTr zfS S5;have hE1:=fQ au cu U w16 ((ae zjl).below S5) (ae HUL);have CA:=af hE1;clear S5 hE1 zdb zjE zjl zfS;go_wp2_with fail
       refine(ae CA).mono ?_;rintro e w17 ⟨v17,rfl,zh6,zbP⟩;have SR:(entsK L 40).length<=40:=b8 L 40;obtain⟨a17,c17,rfl,_⟩:=zh6.kk iI (by rw [ae qd];omega);rw [ae qd];have zfE:=af ((ae zfF).below zbP);have zfQ:=zTr zfR zbP;have hLD:=wP ab cb L w17 ((ae zfF).below zbP) (ae BE);rw [ae BB] at hLD;have Oz:=af hLD;have HEL:=af SR;clear zh6 zbP hLD SR CA zfF zfR qd HUL;generalize hEM:(entsK L 40).length=EM at *;have HEM:=af hEM;clear hEM;go_wp2_with fail
       refine(ae Oz).mono ?_;rintro e w18 ⟨p18,g18,c18,rfl,zib,ze2⟩;have hE2:=fQ ab cb L w18 ((ae zfE).below ze2) (ae BE).cW;rw [ae BB] at hE2;have EI:=af hE2;have zjx:=af zib;have zfP:=af ze2;clear zib ze2 hE2 Oz;go_wp2_with fail
       refine(ae EI).mono ?_;rintro e w19 ⟨v19,rfl,zh5,ze1⟩;obtain⟨a19,c19,rfl,_⟩:=zh5.kk iI (by rw [ae HEM];have:=ae HEL;omega);rw [ae HEM];have zeI:=(ae zjx).below ze1;have zfc:Below w17.heap.size w17 w19:=zTs zfP ze1;have Ov:=af (wh zeI zfc.size);have zjz:=af (fun k hk=>zeI.Gn k hk);have zfO:=af zfc;clear zh5 ze1 zeI zfc EI zjx zfP;obtain⟨asw,_⟩:=My (ae BE);have HAS:=af asw;clear asw;generalize Dp L=Q at *;generalize wg 288 (dh L)=VN at *;go_wp2_with fail
       refine(ae Ov).mono ?_;rintro e w20 ⟨rfl,g20,c20,zeH,zhI⟩;have zfa:=(ae zfO).trans (zhI.below (ae zjz) (ae zfO).size);have hql:Q.length=N:=(ae HAS).len.trans (ae BB);have ze3:=cZ p18 g20 c20 w17.heap.size Q w20 zeH;rw [hql] at ze3;have zjj:=af ze3;have HQL:=af hql;have HQB:=af zeH.kV;have zjD:=af ((ae zfE).below zfa);have zfN:=zTr zfQ zfa;clear zeH zhI zfa hql ze3 Ov zjz zfO zfE zfQ;go_wp2_with fail
       refine(ae zjj).mono ?_;rintro e w21 ⟨a21,c21,rfl,zex,zeZ⟩;rw [<- ae HQL] at zex;obtain⟨a22,c22,e22,zhQ⟩:=zex.bs (ae HQB) (by rw [ae HQL];omega);simp only [Value.slice.injEq,true_and] at e22;obtain⟨rfl,rfl⟩:=e22;obtain⟨q1,q2⟩:=zat (ae BE) (ae HAS);have hS2:=Hr a21 ab c21 cb Q L w21 zhQ ((ae zjD).below zeZ) (ae HAS).aV (ae BE) q1 q2;rw [ae HQL,ae BB] at hS2;have yU:=af hS2;have zfM:=zTr zfN zeZ;clear zex zeZ zhQ q1 q2 hS2 zjj zjD zfN;go_wp2_with fail
       refine(ae yU).mono ?_;rintro e w22 ⟨rfl,ziD⟩;have zl7:=zTr zfM ziD;clear ziD yU zfM;go_wp2;go_ret;exact⟨rfl,(ae aL).trans ((ae zl7).mono (ae aL).size)⟩
end Go.Proofs.YtcimhnnendlblaaGreat
