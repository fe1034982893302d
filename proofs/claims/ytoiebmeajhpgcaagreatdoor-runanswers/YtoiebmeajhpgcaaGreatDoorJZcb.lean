import Derived.Test.YtoiebmeajhpgcaaGreatDoorJZs
set_option maxRecDepth 100000
set_option maxHeartbeats 16000000
set_option linter.all false
namespace Go.Proofs.YtoiebmeajhpgcaaGreatDoor
open Tryz
open Go.RowKit Go.Shelf Go.Sort
theorem zj9{w0 w:World}{d p:Nat}{P:Ps}(h:Dk w0 w d p P)(hz:Pz 32 80 P)(hP:aD P.L/\bZ P.L/\P.L.length=1024/\P.K.length=1024)(h0:0<=P.s)(h9:P.s<=9999)(s:BA)(hs:s.size<=3000)(hg:(jZ s).getD 0 ⟨#[]⟩∈[lN,dN,e7,ir,e6,gZ]) :
  zC 7 #[zq d,.string s] w (zr (.string (jf 32 P s).2) fun w'=>Dk w0 w' d p (jf 32 P s).1):=by
 obtain⟨q,S,ab,cb,ak,ck,h⟩:=h;have HD:=ae h;have HZ:=ae hz;have HP:=ae hP;have HS:=ae (And.intro h0 h9);have HW:=ae (MJ s hs w);have U4:Hid (∀i,((jZ s).getD i ⟨#[]⟩).size<=3000):=ae (fun i=>by
  by_cases hi:i<(jZ s).length
  ·rw[qAC,zLg hi];exact qAF (y8 s _ (qAf hi)) hs
  ·rw[qAC,qAY Sg];decide)
 have Gx:=wH s;obtain⟨r,hr⟩:∃r,(jZ s).getD 0 ⟨#[]⟩=r:=⟨_,rfl⟩;rw[hr]at hg;have HG:=ae hg;clear hg;obtain⟨n,hn⟩:∃n,(jZ s).length=n:=⟨_,rfl⟩;have Hx:=ae hn;rw[hn]at Gx;have n0:0<n:=Sg;have n1:(0:Int)<(n:Int):=Sg;have rE:=ae hr;have jb:Hid (rdO s=none->jf 32 P s=(P,zax)):=ae r7;clear h hz hP h0 h9 Gx hn;go_enter func7,ntmps7
 go_wp2_with fail
 refine HW.mono ?_;rintro e w1 ⟨g,o,c,rfl,hc,hb⟩;rw[aa Hx]at hc ⊢;have c0:=hc 0 n0;rw[qAq,hr]at c0;have GC:=ae (HD.below hb);have HC:=ae hc;clear hc hb HD HW hr;have bK:=aa HG;clear HG;simp only[List.mem_cons,List.not_mem_nil,or_false]at bK;obtain⟨f,hf,Fl,hf2,ZE⟩:=Nq (r:=r) (by rcases bK with h | h | h | h | h | h <;> simp[h]);have Vb:=ae ZE;have pr:=ae hf;have hf4:=(BV hf).1;have ja:Hid (n=f.size+1->rdO s=uN r f ((jZ s).drop 1) f.size):=ae (fun h=>zmS);have HRN:Hid (n≠f.size+1->rdO s=none):=ae (fun h=>zne);have HFZ:Hid (f.size=f.size):=ae rfl;generalize oI:f.size=z at*;generalize Jl:rwK r=k at*;go_upto_block 0 with fail
 go_cut [4,6,7]from 51 to 72 (fun sv mv kv wx=>sv=.string ⟨#[]⟩/\mv=zi z/\kv=zi k/\wx=w1)
 case first =>
  clear ZE Vb ja HRN jb GC HC U4 HZ HP HS Hx rE n0 n1;rcases bK with rfl|rfl|rfl|rfl|rfl|rfl
  all_goals
   have Rq:=hf
   injection Rq with Rq
   subst Rq;have HZ2:=ae oI;have Q1:=ae Jl;clear oI Jl hf Fl hf2 hf4;clear pr HFZ
   try unfold lN at*
   try unfold dN at*
   try unfold e7 at*
   try unfold ir at*
   try unfold e6 at*
   try unfold gZ at*
   go_wp2;go_meet
   case rel=>exact zmz
 case rest =>
 obtain⟨rfl,rfl,rfl,Wb⟩:=hcut;replace Wb:=Wb.symm;subst Wb;by_cases jE:n=z+1
 case neg =>exact FN
 have t1:(n:Int)=(z:Int)+1:=Sg;have ja:=ae (ja jE);have jD:=ae jE;have t2:((n:Int) != (z:Int)+1)=false:=by simp[t1]
 clear HRN ZE jE;have HV0:Hid (V3 (w1.alloc (.cells #[zi 0,zi 0,zi 0] 62)) w1.heap.size [0,0,0]):=ae (qAB _ _);have oF:Hid (Below w1.heap.size w1 (w1.alloc (.cells #[zi 0,zi 0,zi 0] 62))):=ae (zBr.alloc zNr _);go_upto_block 1 with fail
 clear t1 t2;go_wp2_with fail
 go_loopw [9,10,11] (fun iv _ _ wr=>∃ (i:Nat) (l:LI),i<=k/\iv=zi i/\l.length=3/\V3 wr w1.heap.size l/\(∀j,j<i->rdN (gF s j)=some (l.getD j 0))/\Below w1.heap.size w1 wr) (fun iv _ _ _=>k-(intOf iv).toNat)
 case atStart=>exact zpc
 case round =>
  obtain⟨i,l,hi,rfl,l7,hv,Zx,hb⟩:=hrel;clear HV0 oF;have jE:=aa jD;have hnn:k<n:=Sg;clear jE;by_cases aB:i<k
  ·have hcx:=(hb.cell (qAA (HC (i+1) Sg))).trans (HC (i+1) Sg);have hX:=U4 (i+1);rw[<-J5]at hcx hX;have Mj:=ae (EG (gF s i) hX wr);rw[K1]at Mj;have k1:(i:Int)<(k:Int):=by omega
   have k2:(i:Int)+1<(n:Int):=Sg;have k3:((i+1:Nat):Int)=(i:Int)+1:=Sg;cases hq:rdN (gF s i)with
   | none =>exact tI
   | some v =>exact j3
  ·obtain rfl:i=k:=by omega
   have x9:Hid (uN r f ((jZ s).drop 1) i=some ⟨r,l.take i,⟨#[]⟩,[]⟩):=ae (Eu i Vb Zx Sg);have yb:Hid (∀j,j<i->yU (l.getD j 0)):=ae (fun j hj=>KI (Zx j hj));obtain⟨v0,v1,v2,rfl⟩:∃v0 v1 v2,l=[v0,v1,v2]:=by
    match l,l7 with
    | [a,b,c],_=>exact⟨a,b,c,rfl⟩
   have k0:wr.cell? (zp w1.heap.size)=some (zi v0):=hv.cell 0 Sk;have k1:wr.cell? (zw w1.heap.size 1)=some (zi v1):=hv.cell 1 Sk;have k2:wr.cell? (zw w1.heap.size 2)=some (zi v2):=hv.cell 2 Sk;have gY:=ae (GC.below hb);have HNS:Hid (¬Au S q d w1.heap.size):=ae (fun h=>qBd _ (GC.IQ _ h));obtain⟨d0,d1,d2⟩:=gY.c;have q0:=gY.pg.c0;have q1:=gY.pg.c1;have A0:Hid (∀j,j+1<n->wr.cell? ⟨g,o+(j+1),none⟩=some (.string (gF s j))/\(gF s j).size<=3000):=ae (fun j hj=>zm6);have c9:=(hb.cell (qAA c0)).trans c0;clear hv hb Zx l7 Vb HC U4 GC c0 aB hi;go_upto_block 3 with fail
   go_cut [12,13,14]from 15 to 497 (fun nv ev ov wx=>LnE w0 wx d p (jf 32 P s) nv ev ov)
   case first =>
    obtain⟨sY,Hg,uT,BP⟩:=aa HP;rcases bK with rfl|rfl|rfl|rfl|rfl|rfl
    ·as_aux_lemma =>
      obtain rfl:f=⟨#[65,78]⟩:=zOi (pr.symm.trans (show qy lN=some ⟨#[65,78]⟩from rfl));obtain rfl:i=0:=Jl.symm;obtain rfl:z=2:=oI.symm;have ui:rdO s=tkO 78 (gF s 1) ⟨lN,[],gF s 0,[]⟩:=by rw[aa ja];rfl
      obtain⟨x1,G7⟩:=A0 0 UX;replace x1:wr.cell? ⟨g,o+1,none⟩=some (.string (gF s 0)):=x1;obtain⟨x2,fQ⟩:=A0 1 UX;replace x2:wr.cell? ⟨g,o+2,none⟩=some (.string (gF s 1)):=x2;have Gx:(1:Int)<(n:Int):=UX;have xj:(2:Int)<(n:Int):=UX;have hni:=EG (gF s 1) fQ wr;rw[K1]at hni;unfold K0 at hni;cases hq:rdN (gF s 1)with
      | none =>
       rw[hq]at hni;dsimp only at hni;have HX:=ae (jb (by rw[ui,Ka hq]));have HY:=ae hni;clear hni ui hq G7 fQ x1;clear x9 yb ja jb HP HS HZ pr A0 jD sY Hg uT BP;generalize gF s 1=X at*;unfold lN at*;go_wp2_with fail
       refine HY.m ?_;exact znf
      | some v =>
       rw[hq]at hni;dsimp only at hni;have jl:rdO s=some ⟨lN,[v],gF s 0,[]⟩:=by rw[ui,R7 hq];rfl
       have hc:=zbE ab cb P.L (gF s 0) v wr.drew gY.drew.bl.1 sY (qAF G7 Si);have hif:(if js P.L (gF s 0) v=0 then mG P.L (gF s 0) v else [])=if js P.L (gF s 0) v=0 then Dj P.L (gF s 0) v else []:=by unfold Dj;split <;> rfl
       rw[hif]at hc;have CW:jf 32 P s=(if js P.L (gF s 0) v=0 then { P with L:=if js P.L (gF s 0) v=0 then Dj P.L (gF s 0) v else []} else P,if js P.L (gF s 0) v=0 then (if Q8 P.L (gF s 0) v=true then ⟨#[110,101,119]⟩else ⟨#[111,108,100]⟩)else nJ (js P.L (gF s 0) v)):=by
        rw[eJ jl,Ko _ _ _ rfl]
        show({ P with L:=Dj P.L (gF s 0) v },noS (Q8 P.L (gF s 0) v) (js P.L (gF s 0) v))=_
        rw[zE (E:=js P.L (gF s 0) v) (fun h=>by unfold Dj;exact zn h)];rfl
       have HE:=ae (zjr P.L (gF s 0) v);have hsO:(decide (js P.L (gF s 0) v=0)&&Mq P.L (gF s 0))=Q8 P.L (gF s 0) v:=rfl;rw[hsO]at hc;have HY:=ae hni;clear hni ui jl hq fQ G7 hif hsO;generalize (if js P.L (gF s 0) v=0 then Dj P.L (gF s 0) v else [])=NN at*;generalize js P.L (gF s 0) v=E at*;generalize Q8 P.L (gF s 0) v=B at*;generalize gF s 1=Y at*;generalize gF s 0=nm at*;have HF:Hid (zC 29 #[.slice ab P.L.length cb,.string nm,zi v] wr.drew fun e w'=>∃an cn,e=zt #[.slice an NN.length cn,.bool B,zi E]/\(A1 w' (Au S q d) an cn NN/\mj w0 w' d q p S ab cb ak ck P.L P.K P.s P.D)/\w'.cell? (zp d)=some (.slice ab P.L.length cb)/\w'.cell? ⟨g,o+1,none⟩=some (.string nm)):=ae (hc.mono fun e w' ⟨an,cn,he,aH,hb,kA⟩=>⟨an,cn,he,⟨gY.drew.fresh aH kA,gY.drew.below hb⟩,aP (w:=wr.drew) d0 hb,aP (w:=wr.drew) x1 hb⟩);have HX:=ae CW;clear CW hc gY;clear x9 yb ja jb HP HS HZ pr A0 jD sY Hg uT BP;generalize P.L.length=LL at*;cases B
       all_goals
        as_aux_lemma =>
         unfold lN at*;go_wp2_with fail
         refine HY.m ?_;rintro w2 rfl;clear HY x2;go_wp2_with fail
         go_region_held3 (fun w'=>w'.cell? (zp d)=some (.slice ab LL cb)/\w'.cell? ⟨g,o+1,none⟩=some (.string nm)) (first | go_keep | exact⟨r0,r1⟩ | (go_split_ands;refine⟨?_,?_⟩ <;> go_keep))
          ((go_at_call 29;refine HF.mono ?_;rintro e w3 ⟨an,cn,rfl,iT,r0,r1⟩))
         have HB:=ae iT;clear iT HF r0 r1;go_wp2;go_meet
         case rel=>exact zaI
    ·as_aux_lemma =>
      obtain rfl:f=⟨#[]⟩:=zOi (pr.symm.trans (show qy dN=some ⟨#[]⟩from rfl));have jl:rdO s=some ⟨dN,[],⟨#[]⟩,[]⟩:=zaC;clear Jl oI;have hE:=zlp HZ HS.2;have hE':Rv (aj P.D P.s 32 (dQ P.K P.L 32)).2.2:=hE;have HX:Hid (∀E,E=(aj P.D P.s 32 (dQ P.K P.L 32)).2.2->jf 32 P s=(if E=0 then { (⟨(aj P.D P.s 32 (dQ P.K P.L 32)).1,(aj P.D P.s 32 (dQ P.K P.L 32)).2.1,P.L,if E=0 then P.L else P.K⟩:Ps)with L:=P.L } else ⟨(aj P.D P.s 32 (dQ P.K P.L 32)).1,(aj P.D P.s 32 (dQ P.K P.L 32)).2.1,P.L,if E=0 then P.L else P.K⟩,if E=0 then ⟨#[111,107]⟩else nJ E)):=ae (fun E hE=>by
       rw[eJ jl,yn _ _ _ rfl,<-Ke,hE]
       show((⟨_,_,P.L,_⟩:Ps),nJ _)=_
       split <;> rfl)
      have hLn:P.L≠[]:=ziR;obtain⟨bb,bo,rfl,_⟩:=gY.bl.1.2.2.2.2 hLn;have fI:P.D.secs.length=80:=HZ.secs;have ma:1024<=cb:=by have:=gY.bl.1.2.1;omega
      have hCM:=fun(W:World) (hW:Below wr.heap.size wr W) (a2:OA) (c2:Nat) (hx:qz W S a2 c2 (dQ P.K P.L 32)) (hr:dQ P.K P.L 32≠[]->∀y,a2=some y->y.block≠q)=>(gY.below hW).yS HS.1 HS.2 fI hx hr (by rw[mb];exact qAF (FJ P.K P.L 32) Si)
      rw[mb]at hCM;have Hz:=ae hCM;have HPO:Hid (∀ (W:World) (v:Value),Below wr.heap.size wr W->cX (VJ bb bo cb) 2 82 W wr.heap.size v (cu P.K P.L 32)->∃a2 c2,v=.slice a2 (cu P.K P.L 32).length c2/\qz W S a2 c2 (dQ P.K P.L 32)/\(dQ P.K P.L 32≠[]->∀y,a2=some y->y.block≠q)):=ae (fun W v hb hv=>by have hblk:=hv.block;obtain⟨a2,c2,rfl,hp⟩:=hv.zm0 (S:=S) (m:=32) (gY.below hb).bl.1 Sg (fun i hi=>(r6.1 hi).1) Sg (qAF (FJ P.K P.L 32) Si) (fun k hk=>gY.IQ k (.inl (.inl hk))) (fun h=>gY.bl.2 hLn _ rfl (.inl (.inl h)));refine⟨a2,c2,rfl,hp,fun _ y hy e=>?_⟩;have h1:=hblk y.block (by rw[hy];rfl);have h2:=gY.pg.lt;omega);obtain⟨ip,Zw,TX,Zv,hp3⟩:=qAO O5;have pQ:=ae (fun(W:World) (hW:Below wr.heap.size wr W)=>(gY.bl.1.below hW));have GD:=ae (fun(W:World) (hW:Below wr.heap.size wr W)=>(gY.bk.1.below hW));have HZL:=ae (And.intro uT BP);have e0:=d0;have e1:=d1;rw[uT]at e0;rw[BP]at e1;clear jl hE hLn fI hCM d0 d1;clear x9 yb ja jb HP HS HZ pr A0 jD sY Hg uT BP;have HE:=ae hE';clear hE';generalize aj P.D P.s 32 (dQ P.K P.L 32)=C at*;generalize wr=wo at*;unfold dN at*;go_wp2_with fail
      go_loopw [29,30] (fun lv kv wr=>∃k:Nat,k<=32/\kv=zi k/\cX (VJ bb bo cb) 2 82 wr wo.heap.size lv (cu P.K P.L k)/\Below wo.heap.size wo wr) (fun _ kv _=>32-(intOf kv).toNat)
      case atStart=>exact Yq
      case round =>
       obtain⟨k,hk,rfl,C0,ai⟩:=hrel;by_cases aB:k<32
       ·obtain⟨uT,BP⟩:=aa HZL;have fC:=pQ wr ai;have ZJ:=GD wr ai;have si:=oU (m:=32) (by omega:P.L.length=32*32) aB;have tP:=oU (m:=32) (by omega:P.K.length=32*32) aB;have sn':=zeF (m:=32) fC Sg aB;have pn:=zjk (P:=prog) (t:=29) underlying29 aT bb bo cb 1024 (32*k) (32*k+32) ma Sg Sg Sg;obtain⟨am,pk,sk⟩:=dP (P:=prog) (t:=29) underlying29 aT ZJ (32*k) (32*k+32) Sg Sg;rw[show 32*k+32-32*k=32 by omega]at pn pk sk;rw[show((32*k:Nat):Int)=32*(k:Int) by omega,show((32*k+32:Nat):Int)=32*(k:Int)+32 by omega]at pn pk;rw[BP]at pk;have fM:IntKind.i64.wrap (32*(k:Int))=32*(k:Int):=by simp only[qBn];omega
        have xg:IntKind.i64.wrap (32*(k:Int)+32)=32*(k:Int)+32:=zaO;have cvn:=fun q=>jX (P:=prog) (t:=29) (e:=9) underlying29 underlying5 underlying9 (sn'.drewN q)
        have cvk:=fun q=>jX (P:=prog) (t:=29) (e:=9) underlying29 underlying5 underlying9 (sk.drewN q)
        have zkD:((P.K.drop (32*k)).take 32)=prt P.K k:=rfl;rw[zkD]at cvk sk;rw[si]at cvn;rw[tP]at cvk;have f0:=aP e0 ai;have f1:=aP e1 ai;have t1:32*(k:Int)<1024:=Sg;have t2:(0:Int)<=(k:Int):=Sg;have t3:(k:Int)<32:=Sg;have hdr:=Uz P.K P.L k;have uC:=Ih sn'.1 sk.1;have zlO:=ae C0;have aJ:=ae ai;by_cases heq:prt P.K k=prt P.L k
        ·rw[zy heq,qAh]at hdr;rw[heq]at cvk;have HDR:=ae hdr;clear hdr ai C0 sn' sk uC heq si tP zkD fC ZJ uT BP ma Hz HPO HX HE;generalize strOf (prt P.L k)=SN at*;as_aux_lemma =>
          go_wp2_with fail
          go_quiet (fail)
          have dF:=ae (aJ.trans ((below_drewN (Below.refl wr.heap.size wr) nq).mono aJ.size));have Gk:=ae (zlO.below (below_drewN (Below.refl wr.heap.size wr) nq));clear aJ zlO;go_wp2;go_roundw
          case rel=>exact⟨k+1,Sg,Tc,by rw[aa HDR];exact Gk,dF⟩
          case measure=>exact Te
        ·rw[zn heq]at hdr;have aG:((strOf (prt P.L k)).toList == (strOf (prt P.K k)).toList)=false:=gC (fun h=>heq (uC.1 h).symm);have HDR:=ae hdr;have bW:=ai.size;have HO:=ae (fun q=>C0.below ((below_drewN (Below.refl wr.heap.size wr) q).alloc zNr (.cells (VJ bb bo cb k).toArray 82)));have oF:=ae (fun q=>ai.trans (((below_drewN (Below.refl wr.heap.size wr) q).alloc zNr (.cells (VJ bb bo cb k).toArray 82)).mono bW));have uK:Hid ((cu P.K P.L k).length<=200):=ae (qAF (FJ P.K P.L k) Sg);clear hdr ai C0 sn' sk uC heq si tP zkD fC ZJ uT BP ma Hz HPO HX HE zlO aJ;generalize strOf (prt P.L k)=SN at*;generalize strOf (prt P.K k)=SP at*;as_aux_lemma =>
          go_wp2_with fail
          go_quiet (fail)
          go_wp2_with (at_builtin;refine aS rfl _ _ 80 rfl wo.heap.size ip (.agg #[zi 0,.slice none 0 0]) 32 underlying80 Zw TX Zv hp3 rfl Si Si _ _ rfl (HO nq) wr.heap.size k rfl (qAB (wr.drewN nq) _) rfl (VI _ _ _ _) (qAF uK Sg) (oF nq).size ?_)
          intro v9 w9 AV ji;have RD:=ae AV;have kE:=ae ((oF nq).trans ji);clear AV ji HO oF uK;go_wp2;go_roundw
          case rel=>exact⟨k+1,Sg,Tc,by rw[aa HDR];exact RD,kE⟩
          case measure=>exact Te
       ·obtain rfl:k=32:=by omega
        obtain⟨a2,c2,rfl,hpo,hpr⟩:=HPO wr _ ai C0;have zoU:=ae (Hz wr ai a2 c2 hpo hpr);obtain⟨x,hx⟩:=qAN HE.1;have f0:=aP e0 ai;have f2:=aP d2 ai;have HZ4:=ae HZL.1;have sM:=ae (HX _ rfl);have HEE:=ae HE;clear hpo hpr C0 ai HPO Hz hx HX HE ma;generalize C.2.2=E at*;as_aux_lemma =>
         go_wp2_with fail
         refine zoU.m ?_;rintro w3 ⟨S3,oB⟩;obtain⟨g0,g1,g2⟩:=oB.c;have oI:=qAd _ _ 1 _ _ oB.st;have Ml:=ae oB;clear oB zoU f0 f2 e0 e1 d2 q0 q1;by_cases h0:E=0
         ·subst h0;have HK:=ae (Ml.zmM Ml.bl);obtain⟨m0,_,_⟩:=HK.c;clear Ml;go_wp2;go_meet
          case rel=>exact⟨⟨C.1,C.2.1,P.L,P.L⟩,0,_,_,P.L,_,q,S3,_,cb,_,_,rfl,rfl,rfl,HEE,HK,fun _=>HK.bl,sM⟩
         ·have h1:(E == 0)=false:=qAU.2 h0;rw[zn h0,zn h0,zn h0]at sM;go_wp2;go_meet
          case rel=>exact⟨⟨C.1,C.2.1,P.L,P.K⟩,E,_,_,P.L,_,q,S3,_,cb,_,_,rfl,rfl,rfl,HEE,Ml,fun h=>absurd h h0,by rw[zn h0,zn h0];exact sM⟩
    ·as_aux_lemma =>
      obtain rfl:f=⟨#[]⟩:=zOi (pr.symm.trans (show qy e7=some ⟨#[]⟩from rfl));have jl:rdO s=some ⟨e7,[],⟨#[]⟩,[]⟩:=zaC;clear Jl oI;obtain⟨K2,s2,hr,_,hbK,hK2,_,_,TW,jB,lE,hpu⟩:=HZ.bX HS.2;have HX:Hid (jf 32 P s=({ (⟨(cj (oC P) 32).1,s2,P.L,K2⟩:Ps)with L:=K2 },⟨#[111,107]⟩)):=ae (by rw[eJ jl,Bg _ _ _ rfl,TW];rfl);obtain⟨na,nl,Lo⟩:=hpu.nt;have hD2:(cj (oC P) 32).1.secs.length=80/\(cj (oC P) 32).1.down=false/\jP (fun i=>(cj (oC P) 32).1.rd (48+i)) 32=K2:=by have h3:=qBB Ps.L TW;rw[TW]at Lo;refine⟨by have:=hpu.sn;rw[TW]at this;exact this,Lo.down,?_⟩;rw[tK 32 (fun i _=>kK Lo.mem (48+i))];exact h3
      have tM:=jB.ki;have hM0:P.D.mem.length<=1000:=Sg;have zsC:=ae (show P.L≠[]/\P.K≠[]from⟨ziR,by intro e;rw[e]at BP;simp at BP⟩);obtain⟨sv,lv,left,Zr⟩:=gY.rf;have Jh:∃la lc,lv=.slice la P.D.mem.length lc:=by
       rcases Zr.oX with ⟨e,h0⟩|⟨gl,cl,e,_⟩
       ·exact⟨none,0,by rw[e,h0];rfl⟩
       ·exact⟨_,cl,e⟩
      obtain⟨la,lc,rfl⟩:=Jh;have p1:=Zr.c1;have RI:=ae (fun(W:World) (hW:Below wr.heap.size wr W) (ht:Mz W wr.heap.size P.D.mem.length P.D.mem.length)=>(show zC 35 #[zq p,.slice (some (zp wr.heap.size)) P.D.mem.length P.D.mem.length,zi (-1),zi 0] W (zr (zi P.D.mem.length) fun w'=>∃S3,mj w0 w' d q p S3 ab cb ak ck P.L P.K P.s (oC P)) by have oB:=gY.below hW;obtain⟨_,_,_,zp7⟩:=oB.rf;have hc:=NV (some (zp wr.heap.size)) P.D.mem.length (List.replicate P.D.mem.length true) (-1) 0 zp7 (by have:=HZ.secs;omega) (ht.bls Sg) (fun _ x hx hs=>by obtain rfl:=zOi hx;exact qBd _ (gY.IQ _ (.inl (.inl hs))));rw[qBW]at hc;exact hc.mono fun e w' ⟨he,S3,hrf,ht⟩=>⟨he,S3,oB.dev hrf ht⟩));have Hw:=ae (fun(W:World) (S3:Nat->Prop) (hW:mj w0 W d q p S3 ab cb ak ck P.L P.K P.s (oC P))=>hW.cj hr lE (show(-1:Int)<0 by decide));obtain⟨cs,lC,tN⟩:=IZ wr P.D.mem.length Sg;have HT0:Hid (Mz (wr.alloc (.cells cs 4)) wr.heap.size P.D.mem.length 0):=ae ⟨cs,qAB _ _,lC,fun i hi=>absurd hi (qAX _)⟩;have iX:Hid (Below wr.heap.size wr (wr.alloc (.cells cs 4))):=ae (zBr.alloc zNr _);have lJ:=ae hD2;have iE:=ae (And.intro hbK hK2);have HDB:=ae (fun(W:World) (hW:Below wr.heap.size wr W)=>gY.below hW);clear jl hr hbK hK2 TW jB lE hpu Lo hD2 tM Zr lC;clear x9 yb ja jb HP HS HZ pr A0 jD sY Hg uT BP;generalize P.D.mem.length=M at*;generalize (cj (oC P) 32).1=D2 at*;generalize oC P=D1 at*;generalize hwo:wr.alloc (.cells cs 4)=wz at*;generalize hgo:wr.heap.size=go at*;unfold e7 at*;go_wp2_with fail
      clear hwo tN d0 d1 p1;have HGO:=ae hgo;clear hgo;generalize wr=wo at*;go_loopw [32] (fun iv wr=>∃k:Nat,k<=M/\iv=zi k/\Mz wr go M k/\Below go wo wr) (fun iv _=>M-(intOf iv).toNat)
      case atStart=>exact⟨0,qAH _,rfl,HT0,iX⟩
      case round =>
       obtain⟨k,hk,rfl,o4,ai⟩:=hrel;by_cases aB:k<M
       ·obtain⟨u,hcu,hfu,zni⟩:=o4.set aB;have Ht:=ae zni;have sO:=ae (ai.setCell (p:=⟨go,k,none⟩) zNr (.bool true));have t1:(k:Int)<(M:Int):=by omega
        clear o4 zni ai HT0 iX RI Hw HDB;go_wp2;go_roundw
        case rel=>exact⟨k+1,Sg,Tc,Ht,sO⟩
        case measure=>exact Te
       ·obtain rfl:k=M:=by omega
        have qt:=ae (RI wr ai o4);have zkM:=HDB wr ai;obtain⟨f0,f1,f2⟩:=zkM.c;have f3:=zkM.pg.c0;have t1:¬(k:Int)<(k:Int):=Sg;clear zkM ai o4 HT0 iX RI HDB gY HGO;go_wp2_with fail
        refine qt.m ?_;rintro w3 ⟨S3,PB⟩;obtain⟨g0,g1,g2⟩:=PB.c;have g3:=PB.pg.c0;have HO:=ae (Hw w3 S3 PB);have JW:Hid (w0.heap.size<=w3.heap.size/\d<w3.heap.size/\(P.L≠[]->∀x,ab=some x->x.block<w3.heap.size)/\(P.K≠[]->∀x,ak=some x->x.block<w3.heap.size)):=ae ⟨PB.bs.size,PB.lt,fun aG x hx=>PB.bl.1.lt aG hx,fun aG x hx=>PB.bk.1.lt aG hx⟩;clear PB qt Hw f0 f1 f2 f3;go_wp2_with fail
        refine HO.mono ?_;rintro e w4 ⟨r,rfl,S4,zhn,hrp,hnr,mi⟩;obtain⟨y1,y2,y3,y4⟩:=aa JW;have HP4:=ae (zhn.zpK hrp hnr Sg (fun aG x hx e=>by have:=y3 aG x hx;omega) (fun aG x hx e=>by have:=y4 aG x hx;omega) Sg);obtain⟨h0,h1,h2⟩:=zhn.c;have oI:=qAd _ _ 2 _ _ zhn.st;have U9:=ae (zcS HP4.pg HP4.rf lJ.1 lJ.2.1);clear zhn hrp hnr mi y1 y2 y3 y4 HO JW g0 g1 g2 g3;go_wp2_with fail
        refine U9.mono ?_;rintro e w6 ⟨v,rfl,hov,uS⟩;rw[lJ.2.2]at hov;obtain⟨a6,c6,rfl,aH⟩:=hov.bsO (S:=Au S4 r d) iE.1 (by have:=iE.2;omega) (fun k hk=>HP4.IQ k hk);have zhm:=HP4.below uS;obtain⟨j0,j1,j2⟩:=zhm.c;have zsj:=qAd _ _ 1 _ _ zhm.st;have HK:=ae (zhm.zmM aH);clear hov uS aH zhm U9 HP4 h0 h1 h2 oI lJ iE;go_wp2;go_meet
        case rel=>exact⟨⟨D2,s2,P.L,K2⟩,0,a6,c6,K2,_,r,S4,ab,cb,a6,c6,rfl,rfl,rfl,⟨Si,Si⟩,HK,fun _=>HK.bk,HX⟩
    ·as_aux_lemma =>
      obtain rfl:f=⟨#[]⟩:=zOi (pr.symm.trans (show qy ir=some ⟨#[]⟩from rfl));have jl:rdO s=some ⟨ir,[],⟨#[]⟩,[]⟩:=zaC;clear Jl oI;have HX:Hid (jf 32 P s=({ P with L:=sU P.L },jQ (tD 288 (dC P.L)))):=ae (by rw[eJ jl,Eb _ _ _ rfl];rfl);have H0:Hid (∃X:LI,X=P.L/\aD X/\0+tD 288 (dC X)=tD 288 (dC P.L)/\sU X=sU P.L):=ae ⟨P.L,rfl,sY,qAl _,rfl⟩;have hKK:tD 288 (dC P.L)<=40:=pH;have HBO:=ae gY.bl;have hLL:=uT;clear jl;clear x9 yb ja jb HP HS HZ pr A0 jD sY Hg uT BP;generalize tD 288 (dC P.L)=KK at*;generalize sU P.L=MA at*;have Mk:=ae hLL;clear hLL;generalize hN:P.L.length=N at*;have HN:=ae hN;clear hN;unfold ir at*;go_wp2_with fail
      go_loopw [12,35,36,37] (fun nv kv _ _ wr=>∃ (k:Nat) (a:OA) (c:Nat) (X:LI),k<=KK/\kv=zi k/\nv=.slice a N c/\(aD X/\X.length=N/\k+tD 288 (dC X)=KK/\sU X=MA)/\A1 wr (Au S q d) a c X/\mj w0 wr d q p S ab cb ak ck P.L P.K P.s P.D) (fun _ kv _ _ _=>41-(intOf kv).toNat)
      case atStart =>obtain⟨X,hX,x1,x3,x4⟩:=aa H0;exact⟨0,ab,cb,X,qAH _,rfl,rfl,⟨x1,by rw[hX];exact HN,x3,x4⟩,by rw[hX];exact HBO,gY⟩
      case round =>
       obtain⟨k,a,c,X,hk,rfl,rfl,⟨m1,m2,m3,m4⟩,hq,oB⟩:=hrel;clear HBO gY H0;have eF:=XP a c X wr hq.1 m1;rw[m2]at eF;have hXN:X≠[]:=by intro e;rw[e]at m2;have:=aa Mk;simp at m2;omega
       cases T3:rW X with
       | some C =>
        rw[T3]at eF;obtain⟨has,xj⟩:=oS m1 T3;have fP:=ae eF;have HQ:=ae (fun(w':World) (a6:OA) (c6:Nat) (uS:Below wr.heap.size wr w') (aH:Bs w' a6 c6 C) (hor:(a6=a/\c6=c)\/Fr wr.heap.size a6)=>(show A1 w' (Au S q d) a6 c6 C/\mj w0 w' d q p S ab cb ak ck P.L P.K P.s P.D by
         refine⟨?_,oB.below uS⟩;rcases hor with ⟨rfl,rfl⟩|kA
         ·exact⟨aH,fun _=>hq.2 hXN⟩
         ·exact oB.fresh aH kA))
        have H1:Hid (aD C/\C.length=N/\k+1+tD 288 (dC C)=KK/\sU C=MA):=ae ⟨has.bC,by rw[has.len];exact m2,Sg,by rw[<-m4,OK m1 T3]⟩;have hkK:k+1<=KK:=Sg;clear eF T3 has xj hq oB m1 m2 m3 m4 hXN;dsimp only[Option.isSome,Option.getD]at fP;go_wp2_with fail
        refine fP.mono ?_;rintro e w6 ⟨a6,c6,rfl,zn9,uS,hor⟩;have HQ6:=ae (HQ w6 a6 c6 uS zn9 hor);clear zn9 uS hor HQ fP;go_wp2;go_roundw
        case rel=>exact⟨k+1,a6,c6,C,hkK,Tc,rfl,H1,HQ6.1,HQ6.2⟩
        case measure=>exact Te
       | none =>
        rw[T3]at eF;obtain rfl:k=KK:=by have:=(EK m1 T3).2;omega
        obtain rfl:X=MA:=by rw[<-m4,OL T3]
        have fP:=ae eF;have HQ:=ae (fun(w':World) (uS:Below wr.heap.size wr w')=>And.intro (hq.below uS) (oB.below uS));have HXN:=ae m2;clear eF T3 hq oB m1 m2 m3 m4 hXN;dsimp only[Option.isSome,Option.getD]at fP;go_wp2_with fail
        refine fP.mono ?_;rintro e w6 ⟨a6,c6,rfl,_,uS,_⟩;have HQ6:=ae (HQ w6 uS);clear uS HQ fP;go_wp2_with fail
        refine(mX (k:Int) Sg Sg _).m ?_;rintro w7 rfl;go_wp2;go_meet
        case rel=>exact⟨P,0,a,c,X,_,q,S,ab,cb,ak,ck,by rw[aa HXN],rfl,rfl,⟨Si,Si⟩,HQ6.2,fun _=>HQ6.1,HX⟩
    ·as_aux_lemma =>
      obtain rfl:f=⟨#[]⟩:=zOi (pr.symm.trans (show qy e6=some ⟨#[]⟩from rfl));have jl:rdO s=some ⟨e6,[],⟨#[]⟩,[]⟩:=zaC;clear Jl oI;have HX:Hid (jf 32 P s=({ P with L:=yW P.L (jn P.L 40)},jQ ((jn P.L 40).length:Int))):=ae (by rw[eJ jl,Bd _ _ _ rfl];rfl);have Xa:=ae (XR ab cb P.L wr gY.bl.1 sY);have Mv:=xr P.L 40;have fP:Hid (∀ (k:Nat) (x:Int),(jn P.L 40)[k]?=some x->nD (yW P.L ((jn P.L 40).take k)) x=0/\sZ (yW P.L ((jn P.L 40).take k)) x=yW P.L ((jn P.L 40).take (k+1))):=ae (fun k x hx=>Vn sY hx);have HSF:Hid (∀k,aD (yW P.L ((jn P.L 40).take k))/\(yW P.L ((jn P.L 40).take k)).length=P.L.length):=ae (fun k=>⟨(Kf sY k).bC,(Kf sY k).len⟩);have HS0:Hid (yW P.L ((jn P.L 40).take 0)=P.L):=ae rfl;have HSE:Hid (yW P.L ((jn P.L 40).take (jn P.L 40).length)=yW P.L (jn P.L 40)):=ae (by rw[qAk]);have HNE:Hid (P.L≠[]):=ae ziR;clear jl;clear x9 yb ja jb HP HS HZ pr A0 jD sY Hg uT BP;generalize jn P.L 40=DD at*;generalize yW P.L DD=MA at*;generalize hN:P.L.length=N at*;have HN:=ae hN;clear hN;unfold e6 at*;go_wp2_with fail
      refine Xa.mono ?_;rintro e w3 ⟨u1,u2,rfl,_,gS,bD⟩;obtain⟨a2,c2,rfl,gN⟩:=cX.uM (enc:=jx) (k:=1) (fun _=>rfl) gS (qAF Mv Si);have HD3:=ae (gY.below bD);have e0:=HD3.c.1;rw[aa HN]at e0;have rJ:=ae gN;clear gS gN bD Xa gY d0;generalize hdn:DD.length=D at*;have HDN:=ae hdn;clear hdn;go_wp2_with fail
      go_loopw [12,40] (fun nv iv wr=>∃ (k:Nat) (a:OA) (c:Nat),k<=D/\iv=zi k/\nv=.slice a N c/\A1 wr (Au S q d) a c (yW P.L (DD.take k))/\mj w0 wr d q p S ab cb ak ck P.L P.K P.s P.D/\Below w3.heap.size w3 wr) (fun _ iv _=>D-(intOf iv).toNat)
      case atStart=>exact⟨0,ab,cb,qAH _,rfl,rfl,by rw[aa HS0];exact HD3.bl,HD3,zBr⟩
      case round =>
       obtain⟨k,a,c,hk,rfl,rfl,hq,oB,rH⟩:=hrel;by_cases aB:k<D
       ·have tP:k<DD.length:=by rw[aa HDN];exact aB
        obtain⟨x,hx⟩:∃x,DD[k]?=some x:=⟨_,zLg tP⟩;obtain⟨b2,o2,rfl,lI⟩:=rJ.2.2.2 zlG;have hcx:wr.cell? ⟨b2,o2+k,none⟩=some (zi x):=by have:=(rH.cell (qAA (lI k x hx 0 _ rfl))).trans (lI k x hx 0 _ rfl);simpa using this
        obtain⟨f1,f2⟩:=fP k x hx;obtain⟨g1,g2⟩:=HSF k;have kA:=Is a c _ x wr hq.1 g1;rw[f1,zy rfl,f2,g2,(HSF (k+1)).2]at kA;have JX:=ae kA;have Ml:=ae oB;have qo:=ae rH;have t0:(k:Int)<(D:Int):=Sg;clear kA f1 f2 g1 g2 lI hx tP hq oB rH HD3 e0;go_wp2_with fail
        refine JX.mono ?_;rintro e w4 ⟨a4,c4,rfl,jT,eU,Py⟩;have HQ4:=ae (Ml.fresh jT Py);have HD4:=ae (Ml.below eU);have fh:=zTr qo eU;clear jT eU Py JX Ml qo;go_wp2;go_roundw
        case rel=>exact⟨k+1,a4,c4,Sg,Tc,rfl,HQ4,HD4,fh⟩
        case measure=>exact Te
       ·obtain rfl:k=D:=by omega
        rw[aa HSE]at hq;have HQ:=ae hq;have Ml:=ae oB;have HLM:Hid (MA.length=N):=ae (by rw[<-aa HSE,(HSF _).2]);have sM:=HX;have zsq:k<=40:=by have:=aa HDN;omega
        clear hq oB rH HX HD3 e0;go_wp2_with fail
        refine(mX (k:Int) Sg Sg _).m ?_;rintro w7 rfl;go_wp2;go_meet
        case rel=>exact⟨P,0,a,c,MA,_,q,S,ab,cb,ak,ck,by rw[aa HLM],rfl,rfl,⟨Si,Si⟩,Ml,fun _=>HQ,sM⟩
    ·skip
     obtain rfl:f=⟨#[]⟩:=zOi (pr.symm.trans (show qy gZ=some ⟨#[]⟩from rfl));have jl:rdO s=some ⟨gZ,[],⟨#[]⟩,[]⟩:=zaC;clear Jl oI;have HX:=ae (zbf (m:=32) (P:=P) jl);have sm:=(Hs.of P.L).zfK sY;have yK:=jJ sY;have eF:stT ((P.L.length:Int)-288) (aA P.L)=(((aA P.L).length:Int),aR (aA P.L),aR (aO ((P.L.length:Int)-288) (aA P.L)),cM 0 (aO ((P.L.length:Int)-288) (aA P.L)),((aO ((P.L.length:Int)-288) (aA P.L)).length:Int)):=by unfold stT;rw[zy yK]
     have x8:=ae (fun(W:World) (hW:Below wr.heap.size wr W)=>(Ek ab cb P.L W (gY.below hW).bl.1 sY).mono fun e w2 (h:∃v,e=.returned v/\cX lG 2 122 w2 W.heap.size v (aA P.L)/\Below W.heap.size W w2)=>show ∃a c,e=.returned (.slice a (aA P.L).length c)/\xB w2 a c (aA P.L)/\Below wr.heap.size wr w2/\Below W.heap.size W w2 from by obtain⟨v,rfl,ho,hb⟩:=h;obtain⟨a,c,rfl,hx⟩:=oe.Z9 ho (za7 sY) (by have:=lh P.L;omega);exact⟨a,c,rfl,hx,hW.trans (hb.mono hW.size),hb⟩);have zh6:=ae (fun(W:World) (x:OA) (cx:Nat) (hx:xB W x cx (aA P.L)) (hW:Below wr.heap.size wr W)=>(XX ((P.L.length:Int)-288) x cx (aA P.L) W hx yK _ _ _ _ _ eF).mono fun e w2 h=>show e=.returned (.agg #[zi (aA P.L).length,zi (aR (aA P.L)),zi (aR (aO ((P.L.length:Int)-288) (aA P.L))),zi (cM 0 (aO ((P.L.length:Int)-288) (aA P.L))),zi ((aO ((P.L.length:Int)-288) (aA P.L)).length:Int)])/\Below wr.heap.size wr w2/\Below W.heap.size W w2 from⟨h.1,hW.trans (h.2.mono hW.size),h.2⟩);have Rw:Hid (IntKind.i64.wrap ((P.L.length:Int)-288)=(P.L.length:Int)-288):=ae (by rw[uT];rfl);have HDC:Hid (∀W:World,Below wr.heap.size wr W->W.cell? (zp d)=some (.slice ab P.L.length cb)):=ae (fun W hW=>(gY.below hW).c.1);clear jl yK eF;have HL4:=ae uT;clear x9 yb ja jb HP HS HZ pr A0 jD sY Hg BP;generalize aR (aO ((P.L.length:Int)-288) (aA P.L))=F at*;generalize cM 0 (aO ((P.L.length:Int)-288) (aA P.L))=M at*;generalize ((aO ((P.L.length:Int)-288) (aA P.L)).length:Int)=R at*;generalize aR (aA P.L)=U at*;generalize aA P.L=TL at*;have AY:Hid (∀y,y∈[(TL.length:Int),U,F,M,R]->0<=y/\y<=1000000):=ae (fun y hy=>by obtain⟨s1,s2,s3,s4,s5,s6,s7,s8,_,_⟩:=sm;simp only[List.mem_cons,List.not_mem_nil,or_false]at hy;rcases hy with h | h | h | h | h <;> rw[h] <;> omega);clear sm uT;generalize P.L.length=LL at*;unfold gZ at*;go_upto_region 46 with fail
     go_cut [41]from 100 to 111 (fun xv wx=>∃gx,xv=zq gx/\wx.heap[gx]?=some (.cells #[zi TL.length,zi U,zi F,zi M,zi R] 92 (0,0))/\mj w0 wx d q p S ab cb ak ck P.L P.K P.s P.D)
     case first =>
      refine wp_region_held_drew (S:=(fun w'=>w'.cell? (zp d)=some (.slice ab LL cb))) SQ d0 (fun zrG=>?_);refine wpAnyH_take (i:=0) (v:=(zq d)) rfl SQ SQ SQ (fun _ _ _ h=>h) (Or.inl ⟨Tq,fun wq LD=>VF⟩) VK ?_;refine wpAnyH_take (i:=1) (v:=(zq d)) rfl SQ SQ SQ (fun _ _ _ h=>h) (Or.inl ⟨Tq,fun wq LD=>VF⟩) VK ?_;refine wpAnyH_take (i:=2) (v:=(zq d)) rfl SQ SQ SQ (fun _ _ _ h=>h) (Or.inl ⟨Tq,fun wq LD=>VF⟩) VK ?_;refine wpAnyH_take (i:=3) (v:=(.slice ab LL cb)) rfl SQ SQ SQ (fun _ _ _ h=>h) (Or.inl ⟨Tq,fun wq LD=>VF⟩) VK ?_;refine wpAnyH_take (i:=4) (v:=(zi LL)) rfl SQ SQ SQ (fun _ _ _ h=>h) (Or.inl ⟨Tq,fun wq LD=>VF⟩) VK ?_;refine wpAnyH_take (i:=5) (v:=(zi (IntKind.i64.wrap ((LL:Int)-288)))) rfl SQ SQ SQ (fun _ _ _ h=>h) (Or.inl ⟨Tq,fun wq LD=>VF⟩) VK ?_;refine wpAnyH_take (i:=6) (v:=(zq d)) rfl SQ SQ SQ (fun _ _ _ h=>h) (Or.inl ⟨Tq,fun wq LD=>VF⟩) VK ?_;refine wpAnyH_take (i:=7) (v:=(zq d)) rfl SQ SQ SQ (fun _ _ _ h=>h) (Or.inl ⟨Tq,fun wq LD=>VF⟩) VK ?_;refine wpAnyH_take (i:=8) (v:=(zq d)) rfl SQ SQ SQ (fun _ _ _ h=>h) (Or.inl ⟨Tq,fun wq LD=>VF⟩) VK ?_;refine wpAnyH_take (i:=9) (v:=(.slice ab LL cb)) rfl SQ SQ SQ (fun _ _ _ h=>h) (Or.inl ⟨Tq,fun wq LD=>VF⟩) VK ?_;refine wpAnyH_ready (rs:=[10,12]) SQ Sk ?_;refine AllReadyH.cons rfl (fun K hK=>?_) (AllReadyH.cons rfl (fun K hK=>?_) (AllReadyH.nil))
      ·skip
       go_simp
       refine(x8 _ (by first | exact(Below.refl wr.heap.size wr) | exact bF (Below.refl wr.heap.size wr) | exact qCy (Below.refl wr.heap.size wr))).mono ?_;rintro e w2 ⟨a2,c2,rfl,mh,dr,aK⟩;refine hK.out _ _ (HDC _ dr) (fun zqQ=>?_);clear hK K;refine wpAnyH_ready (rs:=[11,12]) SQ Sk ?_;refine AllReadyH.cons rfl (fun K hK=>?_) (AllReadyH.cons rfl (fun K hK=>?_) (AllReadyH.nil))
       ·skip
        go_simp
        rw[aa Rw];refine(zh6 _ a2 c2 (mh.below zpe) zpk).m ?_;rintro w3 ⟨mr,bD⟩;refine hK.out _ _ (HDC _ mr) (fun zqP=>?_);clear hK K;refine wpAnyH_ready (rs:=[12]) SQ Sk ?_;refine AllReadyH.cons rfl (fun K hK=>?_) (AllReadyH.nil)
        go_simp
        have hA:=mr.alloc mr.size (.cells #[zi 0,zi 0,zi 0,zi 0,zi 0] 92);refine hK.out _ _ (HDC _ zcZ) (fun zqO=>?_);clear hK K;have gA:=qAB w3 (.cells #[zi 0,zi 0,zi 0,zi 0,zi 0] 92);refine wpAnyH_ready (rs:=[13]) SQ Sk ?_;refine AllReadyH.cons rfl (fun K hK=>?_) (AllReadyH.nil)
        go_simp
        have hBF:=mr.alloc mr.size (.cells #[zi TL.length,zi U,zi F,zi M,zi R] 92);refine hK.out _ _ (HDC _ hBF) (fun zqN=>?_);clear hK K;refine wpAnyH_done SQ ?_ _;go_wp2;go_meet
        case rel=>exact⟨w3.heap.size,rfl,qAB _ _,gY.below hBF⟩
       ·skip
        go_simp
        have hA:=dr.alloc dr.size (.cells #[zi 0,zi 0,zi 0,zi 0,zi 0] 92);refine hK.out _ _ (HDC _ zcZ) (fun zqM=>?_);clear hK K;have gA:=qAB w2 (.cells #[zi 0,zi 0,zi 0,zi 0,zi 0] 92);refine wpAnyH_ready (rs:=[11]) SQ Sk ?_;refine AllReadyH.cons rfl (fun K hK=>?_) (AllReadyH.nil)
        go_simp
        rw[aa Rw];refine(zh6 _ a2 c2 (mh.below (by first | exact((Below.refl w2.heap.size w2).alloc zNr _) | exact bF ((Below.refl w2.heap.size w2).alloc zNr _) | exact qCy ((Below.refl w2.heap.size w2).alloc zNr _))) zcZ).m ?_;rintro w3 ⟨mr,bD⟩;refine hK.out _ _ (HDC _ mr) (fun zqL=>?_);clear hK K;have gB:=(bD.block w2.heap.size (zAg gA).1).trans gA;refine wpAnyH_ready (rs:=[13]) SQ Sk ?_;refine AllReadyH.cons rfl (fun K hK=>?_) (AllReadyH.nil);obtain⟨x1,x2,x3,x4,x5,⟨e1,e2,e3,e4,e5⟩,⟨m1,m2,m3,m4,m5⟩,⟨f1,f2,f3,f4,f5⟩,zdp,LF⟩:=Vo w3 w2.heap.size TL.length U F M R gB;have hBF:=LF _ _ mr dr.size;clear LF
        go_simp
        refine hK.out _ _ (HDC _ hBF) (fun zqK=>?_);clear hK K;refine wpAnyH_done SQ ?_ _;clear e1 e2 e3 e4 e5 m1 m2 m3 m4 m5 f1 f2 f3 f4 f5;go_wp2;go_meet
        case rel=>exact⟨w2.heap.size,rfl,zdp,gY.below hBF⟩
      ·skip
       go_simp
       have hA:=(Below.refl wr.heap.size wr).alloc (Below.refl wr.heap.size wr).size (.cells #[zi 0,zi 0,zi 0,zi 0,zi 0] 92);refine hK.out _ _ (HDC _ zcZ) (fun zqJ=>?_);clear hK K;have gA:=qAB wr (.cells #[zi 0,zi 0,zi 0,zi 0,zi 0] 92);refine wpAnyH_ready (rs:=[10]) SQ Sk ?_;refine AllReadyH.cons rfl (fun K hK=>?_) (AllReadyH.nil)
       go_simp
       refine(x8 _ zcZ).mono ?_;rintro e w2 ⟨a2,c2,rfl,mh,dr,aK⟩;refine hK.out _ _ (HDC _ dr) (fun zqI=>?_);clear hK K;refine wpAnyH_ready (rs:=[11]) SQ Sk ?_;refine AllReadyH.cons rfl (fun K hK=>?_) (AllReadyH.nil);have gA2:=(aK.block wr.heap.size (zAg gA).1).trans gA
       go_simp
       rw[aa Rw];refine(zh6 _ a2 c2 (mh.below zpe) zpk).m ?_;rintro w3 ⟨mr,bD⟩;refine hK.out _ _ (HDC _ mr) (fun zpt=>?_);clear hK K;have gB:=(bD.block wr.heap.size (zAg gA2).1).trans gA2;refine wpAnyH_ready (rs:=[13]) SQ Sk ?_;refine AllReadyH.cons rfl (fun K hK=>?_) (AllReadyH.nil);obtain⟨x1,x2,x3,x4,x5,⟨e1,e2,e3,e4,e5⟩,⟨m1,m2,m3,m4,m5⟩,⟨f1,f2,f3,f4,f5⟩,zdp,LF⟩:=Vo w3 wr.heap.size TL.length U F M R gB;have hBF:=LF _ _ mr zNr;clear LF
       go_simp
       refine hK.out _ _ (HDC _ hBF) (fun zps=>?_);clear hK K;refine wpAnyH_done SQ ?_ _;clear e1 e2 e3 e4 e5 m1 m2 m3 m4 m5 f1 f2 f3 f4 f5;go_wp2;go_meet
       case rel=>exact⟨wr.heap.size,rfl,zdp,gY.below hBF⟩
     case rest =>
      obtain⟨gx,rfl,hgx,hdx⟩:=hcut;have x0:wc.cell? (zp gx)=some (zi TL.length):=zdL;have x1:wc.cell? (zw gx 1)=some (zi U):=zdL;have x2:wc.cell? (zw gx 2)=some (zi F):=zdL;have x3:wc.cell? (zw gx 3)=some (zi M):=zdL;have x4:wc.cell? (zw gx 4)=some (zi R):=zdL;clear hgx x8 zh6 Rw HDC gY HL4 d0 d1 d2 q0 q1 k0 k1 k2 c9 HNS;generalize (TL.length:Int)=O at*;obtain⟨w5,e5⟩:∃x,wc.alloc (.cells #[zi O,zi U,zi F,zi M,zi R] 3)=x:=⟨_,rfl⟩;have HDA:Hid (mj w0 w5 d q p S ab cb ak ck P.L P.K P.s P.D):=ae (by rw[<-e5];exact hdx.below (zBr.alloc zNr _));have oL:Hid (∀i,i<5->w5.cell? (zw wc.heap.size i)=some (zi ([O,U,F,M,R].getD i 0))):=ae (fun i hi=>by
       rw[<-e5,qAD _ _ _ _ _ _ (qAB _ _)]
       match i,hi with
       | 0,_=>rfl
       | 1,_=>rfl
       | 2,_=>rfl
       | 3,_=>rfl
       | 4,_=>rfl)
      have fu:∀i,i<5->0<=[O,U,F,M,R].getD i 0/\[O,U,F,M,R].getD i 0<=1000000:=fun i hi=>by
       match i,hi with
       | 0,_=>exact AY _ Sk
       | 1,_=>exact AY _ Sk
       | 2,_=>exact AY _ Sk
       | 3,_=>exact AY _ Sk
       | 4,_=>exact AY _ Sk
      have Rx:=ae (Ik _ fu);have HIQ:=ae fu;have HE5:=ae e5;clear fu AY hdx e5;go_upto_block 4 with fail
      clear x0 x1 x2 x3 x4;rw[aa HE5];clear HE5;generalize wc.heap.size=gr at*;generalize [O,U,F,M,R]=l at*;go_wp2_with fail
      go_loopw [43,44,45] (fun tv iv _ wl=>∃i:Nat,i<=5/\tv=.string (vh l i)/\iv=zi i/\wl=w5) (fun _ iv _ _=>5-(intOf iv).toNat)
      case atStart=>exact⟨0,qAH _,rfl,rfl,rfl⟩
      case round =>
       obtain⟨i,hi,rfl,rfl,rfl⟩:=hrel;by_cases aB:i<5
       ·have Jr:=oL i aB;obtain⟨p0,p1⟩:=HIQ i aB;have bW:=Rx i hi;have hiz:=gJ (l.getD i 0) Sg Sg;have HIT:=ae (fun W=>mX (l.getD i 0) p0 p1 W);have t0:(i:Int)<5:=by omega
        have g1:¬9223372036854775807<(vh l i).size+(jQ (l.getD i 0)).size:=Sg;by_cases hz:i=0
        ·have DG:=ae (zfN l hz);have t1:¬0<(i:Int):=by omega
         clear hz bW hiz p0 p1;exact vU
        ·have DG:=ae (zbe l hz);have t1:0<(i:Int):=by omega
         have s1:(⟨#[32]⟩:BA).size=1:=rfl;have g0:¬9223372036854775807<(vh l i).size+(⟨#[32]⟩:BA).size:=Sg;have g2:¬9223372036854775807<(vh l i).size+1:=Sg;have g3:¬9223372036854775807<(vh l i++⟨#[32]⟩).size+(jQ (l.getD i 0)).size:=by rw[qCW];omega
         clear hz bW hiz p0 p1 s1;exact vU
       ·have HX5:Hid (jf 32 P s=(P,vh l i)):=ae (by rw[aa HX,show i=5 by omega]);have t0:¬(i:Int)<5:=by omega
        clear HX oL Rx HIQ;go_wp2_with fail
        go_ret;rw[aa HX5];exact⟨rfl,q,S,ab,cb,ak,ck,HDA⟩
   case rest =>exact iw
