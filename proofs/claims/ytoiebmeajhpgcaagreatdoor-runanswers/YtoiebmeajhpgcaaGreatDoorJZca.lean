import Derived.Test.YtoiebmeajhpgcaaGreatDoorJZs
set_option maxRecDepth 100000
set_option maxHeartbeats 16000000
set_option linter.all false
namespace Go.Proofs.YtoiebmeajhpgcaaGreatDoor
open Tryz
open Go.RowKit Go.Shelf Go.Sort
theorem zka{w0 w:World}{d p:Nat}{P:Ps}(h:Dk w0 w d p P)(hz:Pz 32 80 P)(hP:aD P.L/\bZ P.L/\P.L.length=1024/\P.K.length=1024)(h0:0<=P.s)(h9:P.s<=9999)(s:BA)(hs:s.size<=3000)(Mu:(jZ s).getD 0 ⟨#[]⟩ ∉ [lN,dN,e7,ir,e6,gZ]) :
  zC 7 #[zq d,.string s] w (zr (.string (jf 32 P s).2) fun w'=>Dk w0 w' d p (jf 32 P s).1):=by
 obtain⟨q,S,ab,cb,ak,ck,h⟩:=h;have HD:=ae h;have HZ:=ae hz;have HP:=ae hP;have HS:=ae (And.intro h0 h9);have HW:=ae (MJ s hs w);have U4:Hid (∀i,((jZ s).getD i ⟨#[]⟩).size<=3000):=ae (fun i=>by
  by_cases hi:i<(jZ s).length
  ·rw[qAC,zLg hi];exact qAF (y8 s _ (qAf hi)) hs
  ·rw[qAC,qAY Sg];decide)
 have Gx:=wH s;obtain⟨r,hr⟩:∃r,(jZ s).getD 0 ⟨#[]⟩=r:=⟨_,rfl⟩;rw[hr]at Mu;have RG:=ae Mu;clear Mu;obtain⟨n,hn⟩:∃n,(jZ s).length=n:=⟨_,rfl⟩;have Hx:=ae hn;rw[hn]at Gx;have n0:0<n:=Sg;have n1:(0:Int)<(n:Int):=Sg;have rE:=ae hr;have jb:Hid (rdO s=none->jf 32 P s=(P,zax)):=ae r7;clear h hz hP h0 h9 Gx hn;go_enter func7,ntmps7
 go_wp2_with fail
 refine HW.mono ?_;rintro e w1 ⟨g,o,c,rfl,hc,hb⟩;rw[aa Hx]at hc ⊢;have c0:=hc 0 n0;rw[qAq,hr]at c0;have GC:=ae (HD.below hb);have HC:=ae hc;clear hc hb HD HW hr;rcases Iw r with bK|⟨ig,⟨b0,b1,b2,b3,b4,b5,b6,b7⟩,b8,b9,b10,b11,b12,b13,b14⟩
 case inr =>
  have HX:=ae (jb (zjE (by rw[aa rE];exact ig)));have b0:=zcA b0;have b1:=VS b1;have b2:=zcC b2;have b3:=OC b3;have b4:=VQ b4;have b5:=zcz b5;have b6:=OD b6;have b7:=zcB b7;have b8:=IU b8;have b9:=OH b9;have b10:=OF b10;have b11:=OG b11;have b12:=VR b12;have b13:=OE b13;have b14:=VP b14;clear ig;go_wp2_with fail
  go_ret;rw[aa HX];exact⟨rfl,q,S,ab,cb,ak,ck,GC⟩
 obtain⟨f,hf,Fl,hf2,ZE⟩:=Nq bK;have Vb:=ae ZE;have pr:=ae hf;have hf4:=(BV hf).1;have ja:Hid (n=f.size+1->rdO s=uN r f ((jZ s).drop 1) f.size):=ae (fun h=>zmS);have HRN:Hid (n≠f.size+1->rdO s=none):=ae (fun h=>zne);have HFZ:Hid (f.size=f.size):=ae rfl;generalize oI:f.size=z at*;generalize Jl:rwK r=k at*;go_upto_block 0 with fail
 go_cut [4,6,7]from 51 to 72 (fun sv mv kv wx=>sv=.string ⟨#[]⟩/\mv=zi z/\kv=zi k/\wx=w1)
 case first =>
  clear ZE Vb ja HRN jb GC HC U4 HZ HP HS Hx rE n0 n1;rcases bK with rfl|rfl|rfl|rfl|rfl|rfl|rfl|rfl|rfl|rfl|rfl|rfl|rfl|rfl|rfl
  all_goals
   have Rq:=hf
   injection Rq with Rq
   subst Rq;have HZ2:=ae oI;have Q1:=ae Jl;clear oI Jl hf Fl hf2 hf4;clear pr HFZ
   try unfold oN at*
   try unfold jr at*
   try unfold oP at*
   try unfold fi at*
   try unfold iZ at*
   try unfold lN at*
   try unfold fT at*
   try unfold oO at*
   try unfold dN at*
   try unfold fV at*
   try unfold fU at*
   try unfold e7 at*
   try unfold ir at*
   try unfold e6 at*
   try unfold gZ at*
   go_wp2;go_meet
   case rel=>exact zmz
 case rest =>
 obtain⟨rfl,rfl,rfl,Wb⟩:=hcut;replace Wb:=Wb.symm;subst Wb;by_cases jE:n=z+1
 case neg =>exact FN
 have t1:(n:Int)=(z:Int)+1:=Sg;have ja:=ae (ja jE);have jD:=ae jE;have t2:((n:Int) != (z:Int)+1)=false:=by simp[t1]
 clear HRN ZE jE;have HV0:Hid (V3 (w1.alloc (.cells #[zi 0,zi 0,zi 0] 62)) w1.heap.size [0,0,0]):=ae (qAB _ _);have oF:Hid (zB w1 (w1.alloc (.cells #[zi 0,zi 0,zi 0] 62))):=ae (zBr.alloc zNr _);go_upto_block 1 with fail
 clear t1 t2;go_wp2_with fail
 go_loopw [9,10,11] (fun iv _ _ wr=>∃ (i:Nat) (l:LI),i<=k/\iv=zi i/\l.length=3/\V3 wr w1.heap.size l/\(∀j,j<i->rdN (gF s j)=some (l.getD j 0))/\zB w1 wr) (fun iv _ _ _=>k-(intOf iv).toNat)
 case atStart=>exact zpc
 case round =>
  obtain⟨i,l,hi,rfl,l7,hv,Zx,hb⟩:=hrel;clear HV0 oF;have jE:=aa jD;have hnn:k<n:=Sg;clear jE;by_cases aB:i<k
  ·have hcx:=(hb.cell (qAA (HC (i+1) Sg))).trans (HC (i+1) Sg);have hX:=U4 (i+1);rw[<-J5]at hcx hX;have Mj:=ae (EG (gF s i) hX wr);rw[K1]at Mj;have k1:(i:Int)<(k:Int):=by omega
   have k2:(i:Int)+1<(n:Int):=Sg;have k3:((i+1:Nat):Int)=(i:Int)+1:=Sg;cases hq:rdN (gF s i)with
   | none =>exact tI
   | some v =>exact j3
  ·obtain rfl:i=k:=by omega
   have x9:Hid (uN r f ((jZ s).drop 1) i=some ⟨r,l.take i,⟨#[]⟩,[]⟩):=ae (Eu i Vb Zx Sg);have yb:Hid (∀j,j<i->yU (l.getD j 0)):=ae (fun j hj=>KI (Zx j hj));obtain⟨v0,v1,v2,rfl⟩:∃v0 v1 v2,l=[v0,v1,v2]:=by
    match l,l7 with
    | [a,b,c],_=>exact⟨a,b,c,rfl⟩
   have k0:wr.cell? (zp w1.heap.size)=some (zi v0):=hv.cell 0 Sk;have k1:wr.cell? (zw w1.heap.size 1)=some (zi v1):=hv.cell 1 Sk;have k2:wr.cell? (zw w1.heap.size 2)=some (zi v2):=hv.cell 2 Sk;have gY:=ae (GC.below hb);have HNS:Hid (¬Au S q d w1.heap.size):=ae (fun h=>qBd _ (GC.IQ _ h));obtain⟨d0,d1,d2⟩:=gY.c;have q0:=gY.pg.c0;have q1:=gY.pg.c1;have A0:Hid (∀j,j+1<n->wr.cell? ⟨g,o+(j+1),none⟩=some (.string (gF s j))/\(gF s j).size<=3000):=ae (fun j hj=>zm6);have c9:=(hb.cell (qAA c0)).trans c0;clear hv hb Zx l7 Vb HC U4 GC c0 aB hi;go_upto_block 3 with fail
   go_cut [12,13,14]from 15 to 497 (fun nv ev ov wx=>LnE w0 wx d p (jf 32 P s) nv ev ov)
   case first =>
    obtain⟨sY,Hg,uT,BP⟩:=aa HP;rcases bK with rfl|rfl|rfl|rfl|rfl|rfl|rfl|rfl|rfl|rfl|rfl|rfl|rfl|rfl|rfl
    ·as_aux_lemma =>
      obtain rfl:f=⟨#[78,78]⟩:=zOi (pr.symm.trans (show qy oN=some ⟨#[78,78]⟩from rfl));obtain rfl:i=2:=Jl.symm;obtain rfl:z=2:=oI.symm;have jl:rdO s=some ⟨oN,[v0,v1],⟨#[]⟩,[]⟩:=ja.trans x9;have HX:Hid (jf 32 P s=(if kX P.L v0 v1=0 then { P with L:=if kX P.L v0 v1=0 then iq P.L v0 v1 else []} else P,if kX P.L v0 v1=0 then jQ (uu P.L v0 v1)else nJ (kX P.L v0 v1))):=ae (by
       rw[eJ jl,Kp _ _ _ rfl]
       show({ P with L:=iq P.L v0 v1 },GV (uu P.L v0 v1) (kX P.L v0 v1))=_
       rw[zE (E:=kX P.L v0 v1) (fun h=>by unfold iq;exact zn h)];rfl)
      have HE:=ae (zlD sY v0 v1);have hH:0<=uu P.L v0 v1/\uu P.L v0 v1<=1000000:=by have:=xe P.L;unfold uu;split <;> omega
      have hc:=Sv ab cb P.L v0 v1 wr.drew gY.drew.bl.1 sY;generalize (if kX P.L v0 v1=0 then iq P.L v0 v1 else [])=NN at*;generalize kX P.L v0 v1=E at*;generalize uu P.L v0 v1=H at*;have HF:Hid (zC 21 #[.slice ab P.L.length cb,zi v0,zi v1] wr.drew fun e w'=>∃an cn,e=zt #[.slice an NN.length cn,zi H,zi E]/\(A1 w' (Au S q d) an cn NN/\mj w0 w' d q p S ab cb ak ck P.L P.K P.s P.D)/\w'.cell? (zp d)=some (.slice ab P.L.length cb)/\w'.cell? (zp w1.heap.size)=some (zi v0)/\w'.cell? (zw w1.heap.size 1)=some (zi v1)):=ae (hc.mono fun e w' ⟨an,cn,he,aH,hb,kA⟩=>⟨an,cn,he,⟨gY.drew.fresh aH kA,gY.drew.below hb⟩,aP (w:=wr.drew) d0 hb,aP (w:=wr.drew) k0 hb,aP (w:=wr.drew) k1 hb⟩);clear jl x9 yb ja jb HP HS HZ pr A0 hc gY sY Hg uT BP;generalize P.L.length=LL at*;unfold oN at*;go_wp2_with fail
      go_region_held3 (fun w'=>w'.cell? (zp d)=some (.slice ab LL cb)/\w'.cell? (zp w1.heap.size)=some (zi v0)/\w'.cell? (zw w1.heap.size 1)=some (zi v1)) (first | go_keep | exact⟨r0,r1,r2⟩ | (go_split_ands;refine⟨?_,?_,?_⟩ <;> go_keep))
       ((go_at_call 21;refine HF.mono ?_;rintro e w3 ⟨an,cn,rfl,iT,r0,r1,r2⟩))
      clear HF r0 r1 r2;have HB:=ae iT;clear iT;go_wp2_with fail
      refine(mX H hH.1 hH.2 _).m ?_;rintro w4 rfl;go_wp2;go_meet
      case rel=>exact zaI
    ·as_aux_lemma =>
      obtain rfl:f=⟨#[78]⟩:=zOi (pr.symm.trans (show qy jr=some ⟨#[78]⟩from rfl));obtain rfl:i=1:=Jl.symm;obtain rfl:z=1:=oI.symm;have jl:rdO s=some ⟨jr,[v0],⟨#[]⟩,[]⟩:=ja.trans x9;have HX:Hid (jf 32 P s=(if nD P.L v0=0 then { P with L:=if nD P.L v0=0 then sZ P.L v0 else []} else P,if nD P.L v0=0 then ⟨#[111,107]⟩else nJ (nD P.L v0))):=ae (by
       rw[eJ jl,Ec _ _ _ rfl]
       show({ P with L:=sZ P.L v0 },nJ (nD P.L v0))=_
       rw[zE (E:=nD P.L v0) (fun h=>by unfold sZ;exact zn h),<-Ke])
      have HE:=ae (zk9 P.L v0);have hc:=Is ab cb P.L v0 wr.drew gY.drew.bl.1 sY;generalize (if nD P.L v0=0 then sZ P.L v0 else [])=NN at*;generalize nD P.L v0=E at*;have HF:Hid (zC 23 #[.slice ab P.L.length cb,zi v0] wr.drew fun e w'=>∃an cn,e=zt #[.slice an NN.length cn,zi E]/\(A1 w' (Au S q d) an cn NN/\mj w0 w' d q p S ab cb ak ck P.L P.K P.s P.D)/\w'.cell? (zp d)=some (.slice ab P.L.length cb)/\w'.cell? (zp w1.heap.size)=some (zi v0)):=ae (hc.mono fun e w' ⟨an,cn,he,aH,hb,kA⟩=>⟨an,cn,he,⟨gY.drew.fresh aH kA,gY.drew.below hb⟩,aP (w:=wr.drew) d0 hb,aP (w:=wr.drew) k0 hb⟩);clear jl hc gY;clear x9 yb ja jb HP HS HZ pr A0 jD sY Hg uT BP;generalize P.L.length=LL at*;unfold jr at*;go_wp2_with fail
      go_region_held3 (fun w'=>w'.cell? (zp d)=some (.slice ab LL cb)/\w'.cell? (zp w1.heap.size)=some (zi v0)) (first | go_keep | exact⟨r0,r1⟩ | (go_split_ands;refine⟨?_,?_⟩ <;> go_keep))
       ((go_at_call 23;refine HF.mono ?_;rintro e w3 ⟨an,cn,rfl,iT,r0,r1⟩))
      clear HF r0 r1;have HB:=ae iT;clear iT;go_wp2;go_meet
      case rel=>exact zaI
    ·as_aux_lemma =>
      obtain rfl:f=⟨#[78]⟩:=zOi (pr.symm.trans (show qy oP=some ⟨#[78]⟩from rfl));obtain rfl:i=1:=Jl.symm;obtain rfl:z=1:=oI.symm;have jl:rdO s=some ⟨oP,[v0],⟨#[]⟩,[]⟩:=ja.trans x9;have HX:Hid (jf 32 P s=(og P v0,⟨#[111,107]⟩)):=ae (by rw[eJ jl,Kr _ _ _ rfl];rfl);have h9:yU v0:=yb 0 Si;have HF:Hid (zC 33 #[zq p,zi v0] wr.drew (zr (.tuple #[]) fun w'=>mj w0 w' d q p S ab cb ak ck P.L P.K P.s { P.D with left:=v0 }/\w'.cell? (zw d 2)=some (zq q)/\w'.cell? (zp q)=some (zq p)/\w'.cell? (zp w1.heap.size)=some (zi v0))):=ae ((Yc v0 (by unfold yU at h9;exact⟨by have:=h9.1;omega,by have:=h9.2;omega⟩) gY.drew.rf).mono fun e w' ⟨he,hr,ht⟩=>⟨he,gY.drew.dev hr ht,(gY.drew.dev hr ht).c.2.2,(gY.drew.dev hr ht).pg.c0,(qAJ (ht.block _ (qAA (w:=wr.drew) k0) (fun h=>HNS (.inl (.inl h))))).trans k0⟩);clear jl h9 gY;clear x9 yb ja jb HP HS HZ pr A0 jD sY Hg uT BP;unfold oP at*;go_wp2_with fail
      go_region_held3 (fun w'=>w'.cell? (zw d 2)=some (zq q)/\w'.cell? (zp q)=some (zq p)/\w'.cell? (zp w1.heap.size)=some (zi v0)) (first | go_keep | exact⟨r0,r1,r2⟩ | (go_split_ands;refine⟨?_,?_,?_⟩ <;> go_keep))
       ((go_at_call 33;refine HF.m ?_;rintro w3 ⟨iT,r0,r1,r2⟩))
      have HB:=ae iT;clear iT HF;exact zin
    ·as_aux_lemma =>
      obtain rfl:f=⟨#[78,78,72]⟩:=zOi (pr.symm.trans (show qy fi=some ⟨#[78,78,72]⟩from rfl));obtain rfl:i=2:=Jl.symm;obtain rfl:z=3:=oI.symm;have h9:yU v1:=yb 1 Si;have Zs:rdO s=tkO 72 (gF s 2) ⟨fi,[v0,v1],⟨#[]⟩,[]⟩:=by
       rw[aa ja]
       show(match uN fi ⟨#[78,78,72]⟩ ((jZ s).drop 1) 2 with | some o=>tkO 72 (gF s 2) o | none=>none)=_
       rw[aa x9];rfl
      obtain⟨x3,hx⟩:=A0 2 UX;replace x3:wr.cell? ⟨g,o+3,none⟩=some (.string (gF s 2)):=x3;have hn3:(3:Int)<(n:Int):=UX;have iF:=Qu (gF s 2) hx wr;unfold ByP at iF;rw[zlu]at iF;cases hq:Mr (gF s 2)with
      | none =>
       rw[hq]at iF;dsimp only at iF;have HX:=ae (jb (by rw[Zs,Kb hq]));have HY:=ae iF;clear iF Zs hq hx h9;clear x9 yb ja jb HP HS HZ pr A0 jD sY Hg uT BP;generalize gF s 2=X at*;unfold fi at*;go_wp2_with fail
       refine HY.mono ?_;rintro e w3 ⟨hb,rfl⟩;have HB:=ae (gY.below hb);clear hb HY gY;exact zin
      | some l =>
       rw[hq]at iF;dsimp only at iF;have Ha:bZ l/\l.length<=6400:=by
        unfold Mr at hq;split at hq
        ·rename_i hc
         obtain rfl:=zOi hq;exact⟨Dv _ _ hc.2,by rw[Ab];omega⟩
        ·cases hq
       have HX:Hid (jf 32 P s=(if mo P.L v0 v1 l.length=0 then { P with L:=if mo P.L v0 v1 l.length=0 then uL P.L v0 v1 l else []} else P,if mo P.L v0 v1 l.length=0 then ⟨#[111,107]⟩else nJ (mo P.L v0 v1 l.length))):=ae (by
        rw[eJ (Zs.trans (R8 hq _)),Bb _ _ _ rfl]
        show({ P with L:=uL P.L v0 v1 l },nJ (mo P.L v0 v1 l.length))=_
        rw[zE (E:=mo P.L v0 v1 l.length) (fun h=>by unfold uL;exact zn h),<-Ke])
       have HE:=ae (zck P.L v0 v1 l.length);have HC:=ae (fun(W:World) (hW:mj w0 W d q p S ab cb ak ck P.L P.K P.s P.D) (av:OA) (cv:Nat) (hv:Bs W av cv l)=>St ab cb P.L v0 v1 av cv l W hW.bl.1 hv sY (by have:=h9.2;omega));have HY:=ae iF;have HLB:=ae Ha;clear iF Zs hq hx h9 Ha;clear x9 yb ja jb HP HS HZ pr A0 jD sY Hg uT BP;generalize (if mo P.L v0 v1 l.length=0 then uL P.L v0 v1 l else [])=NN at*;generalize mo P.L v0 v1 l.length=E at*;generalize gF s 2=X at*;unfold fi at*;go_wp2_with fail
       refine HY.mono ?_;rintro e w2 ⟨hb,v,rfl,hv⟩;obtain⟨av,cv,rfl,hvs⟩:=hv.bsZ HLB.1 HLB.2;have d0:=aP d0 hb;have k0:=aP k0 hb;have k1:=aP k1 hb;have oB:=(gY.below hb).drew;have HF:Hid (zC 25 #[.slice ab P.L.length cb,zi v0,zi v1,.slice av l.length cv] w2.drew fun e w'=>∃an cn,e=zt #[.slice an NN.length cn,zi E]/\(A1 w' (Au S q d) an cn NN/\mj w0 w' d q p S ab cb ak ck P.L P.K P.s P.D)/\w'.cell? (zp d)=some (.slice ab P.L.length cb)/\w'.cell? (zp w1.heap.size)=some (zi v0)/\w'.cell? (zw w1.heap.size 1)=some (zi v1)):=ae ((HC _ oB av cv hvs).mono fun e w' ⟨an,cn,he,aH,hb,kA⟩=>⟨an,cn,he,⟨oB.fresh aH kA,oB.below hb⟩,aP (w:=w2.drew) d0 hb,aP (w:=w2.drew) k0 hb,aP (w:=w2.drew) k1 hb⟩);clear hb hv hvs oB HC HY gY HLB;generalize P.L.length=LL at*;go_wp2_with fail
       go_region_held3 (fun w'=>w'.cell? (zp d)=some (.slice ab LL cb)/\w'.cell? (zp w1.heap.size)=some (zi v0)/\w'.cell? (zw w1.heap.size 1)=some (zi v1)) (first | go_keep | exact⟨r0,r1,r2⟩ | (go_split_ands;refine⟨?_,?_,?_⟩ <;> go_keep))
        ((go_at_call 25;refine HF.mono ?_;rintro e w3 ⟨an,cn,rfl,iT,r0,r1,r2⟩))
       clear HF r0 r1 r2;have HB:=ae iT;clear iT;go_wp2;go_meet
       case rel=>exact zaI
    ·as_aux_lemma =>
      obtain rfl:f=⟨#[78,78,78]⟩:=zOi (pr.symm.trans (show qy iZ=some ⟨#[78,78,78]⟩from rfl));obtain rfl:i=3:=Jl.symm;obtain rfl:z=3:=oI.symm;have jl:rdO s=some ⟨iZ,[v0,v1,v2],⟨#[]⟩,[]⟩:=ja.trans x9;have HX:Hid (jf 32 P s=(P,hxV (CT P.L v0 v1 v2) (mo P.L v0 v1 v2))):=ae (by rw[eJ jl,Ea _ _ _ rfl];rfl);have h1:yU v1:=yb 1 Si;have h2:yU v2:=yb 2 Si;have hE:=zck P.L v0 v1 v2;have hc:=Ir ab cb P.L v0 v1 v2 wr.drew gY.drew.bl.1 sY (by have:=h1.2;omega) (by have:=h2.2;omega);have HF:Hid (zC 26 #[.slice ab P.L.length cb,zi v0,zi v1,zi v2] wr.drew (zr (.tuple #[zi (zF P.L v0 v1 v2),zi (mo P.L v0 v1 v2)]) fun w'=>mj w0 w' d q p S ab cb ak ck P.L P.K P.s P.D/\w'.cell? (zp d)=some (.slice ab P.L.length cb)/\w'.cell? (zp w1.heap.size)=some (zi v0)/\w'.cell? (zw w1.heap.size 1)=some (zi v1)/\w'.cell? (zw w1.heap.size 2)=some (zi v2))):=ae (hc.mono fun e w' ⟨he,hb⟩=>⟨he,gY.drew.below hb,aP (w:=wr.drew) d0 hb,aP (w:=wr.drew) k0 hb,aP (w:=wr.drew) k1 hb,aP (w:=wr.drew) k2 hb⟩);by_cases h0:mo P.L v0 v1 v2=0
      ·rw[h0]at HX HF;obtain⟨p0,p1,p2,p3⟩:=lV.1 h0;obtain⟨_,q12,q3⟩:=aV.1 p0;obtain⟨q1,q2⟩:=aN.1 q12;have gj:=sY.nE q1 q2 q3;obtain⟨X,hX⟩:∃X:Nat,zF P.L v0 v1 v2=X/\X=(ao P.L v0).2.1.toNat+v1.toNat/\X+v2.toNat<=P.L.length:=⟨(zF P.L v0 v1 v2).toNat,by unfold zF;rw[zy h0];omega⟩;obtain⟨N,rfl⟩:=qAN p2;have qx:CT P.L v0 v1 N=(P.L.drop X).take N:=by unfold CT;rw[zy h0,hX.2.1];rfl
       rw[hX.1]at HF;rw[qx]at HX;have HX:Hid (jf 32 P s=(P,tQ ((P.L.drop X).take N))):=ae (by rw[aa HX];rfl);have hX3:X+N<=P.L.length:=hX.2.2;have zoT:=ae (fun(W:World) (hW:mj w0 W d q p S ab cb ak ck P.L P.K P.s P.D)=>dP (P:=prog) (t:=29) underlying29 aT hW.bl.1 X (X+N) Sg Sg);clear jl hc hE h1 h2 h0 p0 p1 p2 p3 q1 q2 q3 gj hX qx gY;clear x9 yb ja jb HP HS HZ pr A0 jD sY Hg BP;have HX4:Hid ((X:Int)+(N:Int)<=1024):=ae Sg;have Mk:Hid (((P.L.drop X).take N).length=N/\X+N<=1024):=ae ⟨zcR,Sg⟩;clear hX3 uT;generalize hLL:P.L.length=LL at*;clear hLL;unfold iZ at*;go_wp2_with fail
       go_region_held3 (fun w'=>w'.cell? (zp d)=some (.slice ab LL cb)/\w'.cell? (zp w1.heap.size)=some (zi v0)/\w'.cell? (zw w1.heap.size 1)=some (zi v1)/\w'.cell? (zw w1.heap.size 2)=some (zi (N:Int))) (first | go_keep | exact⟨r0,r1,r2,r3⟩ | (go_split_ands;refine⟨?_,?_,?_,?_⟩ <;> go_keep))
        ((go_at_call 26;refine HF.m ?_;rintro w3 ⟨iT,r0,r1,r2,r3⟩))
       have hX4:=aa HX4;obtain⟨hLN,hX5⟩:=aa Mk;obtain⟨am,cF,Dx⟩:=zoT w3 iT;rw[show X+N-X=N by omega]at cF Dx;rw[show((X+N:Nat):Int)=(X:Int)+(N:Int) by omega]at cF;have fM:IntKind.i64.wrap ((X:Int)+(N:Int))=(X:Int)+(N:Int):=zaO;have lI:=ZF am (cb-X) _ w3.drew Dx (by rw[hLN];omega);rw[hLN]at lI;have HF2:Hid (zC 28 #[.slice am N (cb-X)] w3.drew (zr (.string (tQ ((P.L.drop X).take N))) fun w'=>mj w0 w' d q p S ab cb ak ck P.L P.K P.s P.D/\w'.cell? (zp d)=some (.slice ab LL cb)/\w'.cell? (zw w1.heap.size 2)=some (zi (N:Int)))):=ae (lI.mono fun e w' ⟨he,hb⟩=>⟨he,iT.drew.below hb,aP (w:=w3.drew) r0 hb,aP (w:=w3.drew) r3 hb⟩);clear HF zoT lI Dx iT hLN hX5 Mk HX4 r1 r2;generalize tQ ((P.L.drop X).take N)=HB at*;go_wp2_with fail
       go_region_held3 (fun w'=>w'.cell? (zp d)=some (.slice ab LL cb)/\w'.cell? (zw w1.heap.size 2)=some (zi (N:Int))) (first | go_keep | exact⟨s0,s3⟩ | (go_split_ands;refine⟨?_,?_⟩ <;> go_keep))
        ((go_at_call 28;refine HF2.m ?_;rintro w4 ⟨iT,s0,s3⟩))
       have fh:=ae iT;clear iT HF2;exact zhS
      ·obtain⟨x,hx⟩:=qAN hE.1;rw[hx]at HX HF h0 hE;have RC:=ae (fun W=>zM x (by have:=hE.2;omega) W);have HX:Hid (jf 32 P s=(P,nJ x)):=ae (by rw[aa HX];unfold hxV;rw[zn h0]);clear jl hc hE h1 h2 hx gY;clear x9 yb ja jb HP HS HZ pr A0 jD sY Hg uT BP;generalize zF P.L v0 v1 v2=PT at*;unfold iZ at*;go_wp2_with fail
       go_region_held3 (fun w'=>w'.cell? (zp d)=some (.slice ab P.L.length cb)/\w'.cell? (zp w1.heap.size)=some (zi v0)/\w'.cell? (zw w1.heap.size 1)=some (zi v1)/\w'.cell? (zw w1.heap.size 2)=some (zi v2)) (first | go_keep | exact⟨r0,r1,r2,r3⟩ | (go_split_ands;refine⟨?_,?_,?_,?_⟩ <;> go_keep))
        ((go_at_call 26;refine HF.m ?_;rintro w3 ⟨iT,r0,r1,r2,r3⟩))
       have HB:=ae iT;clear iT HF r0 r1 r2 r3;go_wp2_with fail
       refine(RC _).m ?_;intro w4 eU;have fh:=ae (HB.below eU);clear eU RC HB;exact zhS
    ·exact zai
    ·as_aux_lemma =>
      obtain rfl:f=⟨#[65]⟩:=zOi (pr.symm.trans (show qy fT=some ⟨#[65]⟩from rfl));obtain rfl:i=0:=Jl.symm;obtain rfl:z=1:=oI.symm;have jl:rdO s=some ⟨fT,[],gF s 0,[]⟩:=aa ja;have HX:Hid (jf 32 P s=(if pB P.L (gF s 0)=0 then { P with L:=if pB P.L (gF s 0)=0 then Gs P.L (gF s 0)else []} else P,if pB P.L (gF s 0)=0 then ⟨#[111,107]⟩else nJ (pB P.L (gF s 0)))):=ae (by
       rw[eJ jl,Bc _ _ _ rfl]
       show({ P with L:=Gs P.L (gF s 0)},nJ (pB P.L (gF s 0)))=_
       rw[zE (E:=pB P.L (gF s 0)) (fun h=>by unfold Gs;exact zn h),<-Ke])
      have HE:=ae (zja P.L (gF s 0));obtain⟨x1,hx⟩:=A0 0 UX;replace x1:wr.cell? ⟨g,o+1,none⟩=some (.string (gF s 0)):=x1;have Gx:(1:Int)<(n:Int):=UX;have hc:=Su ab cb P.L (gF s 0) wr.drew gY.drew.bl.1 sY (qAF hx Si);have hif:(if pB P.L (gF s 0)=0 then Gt P.L (gF s 0)else [])=if pB P.L (gF s 0)=0 then Gs P.L (gF s 0)else []:=by unfold Gs;split <;> rfl
      rw[hif]at hc;generalize (if pB P.L (gF s 0)=0 then Gs P.L (gF s 0)else [])=NN at*;generalize pB P.L (gF s 0)=E at*;generalize hnm:gF s 0=nm at*;have HF:Hid (zC 30 #[.slice ab P.L.length cb,.string nm] wr.drew fun e w'=>∃an cn,e=zt #[.slice an NN.length cn,zi E]/\(A1 w' (Au S q d) an cn NN/\mj w0 w' d q p S ab cb ak ck P.L P.K P.s P.D)/\w'.cell? (zp d)=some (.slice ab P.L.length cb)/\w'.cell? ⟨g,o+1,none⟩=some (.string nm)):=ae (hc.mono fun e w' ⟨an,cn,he,aH,hb,kA⟩=>⟨an,cn,he,⟨gY.drew.fresh aH kA,gY.drew.below hb⟩,aP (w:=wr.drew) d0 hb,aP (w:=wr.drew) x1 hb⟩);clear jl hc gY hif hx hnm;clear x9 yb ja jb HP HS HZ pr A0 jD sY Hg uT BP;generalize P.L.length=LL at*;unfold fT at*;go_wp2_with fail
      go_region_held3 (fun w'=>w'.cell? (zp d)=some (.slice ab LL cb)/\w'.cell? ⟨g,o+1,none⟩=some (.string nm)) (first | go_keep | exact⟨r0,r1⟩ | (go_split_ands;refine⟨?_,?_⟩ <;> go_keep))
       ((go_at_call 30;refine HF.mono ?_;rintro e w3 ⟨an,cn,rfl,iT,r0,r1⟩))
      clear HF r0 r1;have HB:=ae iT;clear iT;go_wp2;go_meet
      case rel=>exact zaI
    ·as_aux_lemma =>
      obtain rfl:f=⟨#[65]⟩:=zOi (pr.symm.trans (show qy oO=some ⟨#[65]⟩from rfl));obtain rfl:i=0:=Jl.symm;obtain rfl:z=1:=oI.symm;have jl:rdO s=some ⟨oO,[],gF s 0,[]⟩:=aa ja;obtain⟨x1,G7⟩:=A0 0 UX;replace x1:wr.cell? ⟨g,o+1,none⟩=some (.string (gF s 0)):=x1;have Gx:(1:Int)<(n:Int):=UX;have CW:jf 32 P s=(P,GV (BR P.L (gF s 0) (-1)) (xW P.L (gF s 0) (-1))):=by rw[eJ jl,Kq _ _ _ rfl]
      have hlr:=yB sY (gF s 0);have W6:=ae (Ey (gF s 0) wr (qAF G7 Si));have hc:=Yp ab cb P.L (gF s 0) wr.drew gY.drew.bl.1 Sg Sg;have pP:=ae (fun W=>zM 2 Si W);have HN5:=ae (fun W=>zM 5 Si W);unfold BR xW at CW;clear jl G7;clear sY Hg x9 yb ja jb HP HS HZ pr A0 jD uT BP;generalize gF s 0=nm at*;generalize bP (aE P.L 8) nm=H at*;cases Gw:dG nm with
      | false =>
       rw[Gw]at W6;have HX:Hid (jf 32 P s=(P,nJ 2)):=ae (by rw[CW,Gw];rfl);clear CW hc hlr Gw;unfold oO at*;go_wp2_with fail
       refine W6.m ?_;rintro w3 rfl;go_wp2_with fail
       refine(pP _).m ?_;intro w4 eU;have fh:=ae (gY.below eU);clear eU pP HN5 W6 gY;exact zhS
      | true =>
       rw[Gw]at W6;have HF:Hid (zC 32 #[.slice ab P.L.length cb,.string nm] wr.drew (zr (zi H) fun w'=>mj w0 w' d q p S ab cb ak ck P.L P.K P.s P.D/\w'.cell? (zp d)=some (.slice ab P.L.length cb)/\w'.cell? ⟨g,o+1,none⟩=some (.string nm))):=ae (hc.mono fun e w' ⟨he,hb⟩=>⟨he,gY.drew.below hb,aP (w:=wr.drew) d0 hb,aP (w:=wr.drew) x1 hb⟩);have PJ:jf 32 P s=(P,if H=0 then nJ 5 else jQ H):=by
        rw[CW,Gw];by_cases h0:H=0
        ·rw[zy h0,zy h0];rfl
        ·rw[zn h0,zn h0];rfl
       have HX:=ae PJ;have hH:0<=H/\H<=1000000:=Sg;clear CW PJ hc hlr Gw gY;unfold oO at*;go_wp2_with fail
       refine W6.m ?_;rintro w3 rfl;go_wp2_with fail
       go_region_held3 (fun w'=>w'.cell? (zp d)=some (.slice ab P.L.length cb)/\w'.cell? ⟨g,o+1,none⟩=some (.string nm)) (first | go_keep | exact⟨r0,r1⟩ | (go_split_ands;refine⟨?_,?_⟩ <;> go_keep))
        ((go_at_call 32;refine HF.m ?_;rintro w3 ⟨iT,r0,r1⟩))
       have HB:=ae iT;clear iT HF r0 r1 pP W6;by_cases h0:H=0
       ·rw[zy h0]at HX;subst h0;go_wp2_with fail
        refine(HN5 _).m ?_;intro w4 eU;have fh:=ae (HB.below eU);clear eU HN5 HB;exact zhS
       ·rw[zn h0]at HX;have h1:(H == 0)=false:=qAU.2 h0;clear h0;go_wp2_with fail
        refine(mX H hH.1 hH.2 _).m ?_;rintro w4 rfl;exact zin
    ·exact zai
    ·as_aux_lemma =>
      obtain rfl:f=⟨#[]⟩:=zOi (pr.symm.trans (show qy fV=some ⟨#[]⟩from rfl));obtain rfl:i=0:=Jl.symm;obtain rfl:z=0:=oI.symm;have jl:rdO s=some ⟨fV,[],⟨#[]⟩,[]⟩:=ja.trans x9;have HX:Hid (jf 32 P s=({ P with L:=P.K },⟨#[111,107]⟩)):=ae (by rw[eJ jl,Bh _ _ _ rfl];rfl);clear jl;clear x9 yb ja jb HP HS HZ pr A0 jD sY Hg uT BP;unfold fV at*;go_wp2;go_meet
      case rel=>exact⟨P,0,ak,ck,P.K,_,q,S,ab,cb,ak,ck,rfl,rfl,rfl,⟨Si,Si⟩,gY,fun _=>gY.bk,HX⟩
    ·as_aux_lemma =>
      obtain rfl:f=⟨#[]⟩:=zOi (pr.symm.trans (show qy fU=some ⟨#[]⟩from rfl));obtain rfl:i=0:=Jl.symm;obtain rfl:z=0:=oI.symm;have jl:rdO s=some ⟨fU,[],⟨#[]⟩,[]⟩:=ja.trans x9;have HX:Hid (jf 32 P s=(P,jQ P.s)):=ae (by rw[eJ jl,Be _ _ _ rfl];rfl);have HG:=ae (fun W=>mX P.s HS.1 (by have:=HS.2;omega) W);clear jl;clear x9 yb ja jb HP HS HZ pr A0 jD sY Hg uT BP;unfold fU at*;go_wp2_with fail
      refine(HG _).m ?_;exact znf
    ·exact zai
    ·exact zai
    ·exact zai
    ·exact zai
   case rest =>exact iw
