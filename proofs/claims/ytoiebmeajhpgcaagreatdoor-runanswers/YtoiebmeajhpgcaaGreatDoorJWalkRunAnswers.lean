import Derived.Test.YtoiebmeajhpgcaaGreatDoorJZca
import Derived.Test.YtoiebmeajhpgcaaGreatDoorJZcb
import Derived.Test.YtoiebmeajhpgcaaGreatDoorJRg
set_option maxRecDepth 100000
set_option maxHeartbeats 16000000
set_option linter.all false
namespace Go.Proofs.YtoiebmeajhpgcaaGreatDoor
open Tryz
open Go.RowKit
section
open Go.Sort
open Go.Shelf
theorem OW{w0 w:World}{d p:Nat}{P:Ps}(h:Dk w0 w d p P)(hz:Pz 32 80 P)(hP:aD P.L/\bZ P.L/\P.L.length=1024/\P.K.length=1024)(h0:0<=P.s)(h9:P.s<=9999)(s:BA)(hs:s.size<=3000) :
  zC 7 #[zq d,.string s] w (zr (.string (jf 32 P s).2) fun w'=>Dk w0 w' d p (jf 32 P s).1):=by
 by_cases Mu:(jZ s).getD 0 ⟨#[]⟩∈[lN,dN,e7,ir,e6,gZ]
 ·exact zj9 h hz hP h0 h9 s hs Mu
 exact zka h hz hP h0 h9 s hs Mu
end
def LnI(s:BA)(pre:List BA)(f i:Nat):Prop:=(i<=s.size->f<=i/\Rg s=pre++Rg (tx (s.data.toList.drop f))/\10 ∉ (s.data.toList.drop f).take (i-f))/\(s.size<i->Rg s=pre)/\pre.length<=i
theorem zcU{s:BA}{pre:List BA}{f i:Nat}(h:LnI s pre f i)(hi:i<s.size)(vR:s[i]≠10):LnI s pre f (i+1):=by
 obtain⟨h1,_,h3⟩:=h;obtain⟨a,b,c⟩:=h1 Sg;have hl:i<s.data.toList.length:=by rw[qBv];exact hi
 refine⟨fun _=>⟨Sg,b,?_⟩,fun h=>Sg,Sg⟩;rw[show i+1-f=i-f+1 by omega,qAv,qBJ,show f+(i-f)=i by omega,zLg hl];intro hm;rcases zMa hm with hm | hm
 ·exact c hm
 ·simp at hm;exact vR hm.symm
theorem zcV{s:BA}{pre:List BA}{f i:Nat}(h:LnI s pre f i)(hi:i<s.size)(vR:s[i]=10):LnI s (pre++[s.extract f i]) (i+1) (i+1):=by
 obtain⟨h1,_,h3⟩:=h;obtain⟨a,b,c⟩:=h1 Sg;have hl:i<s.data.toList.length:=by rw[qBv];exact hi
 have hd:s.data.toList.drop f=(s.data.toList.drop f).take (i-f)++10::s.data.toList.drop (i+1):=by
  have hil:i-f<(s.data.toList.drop f).length:=zaA;have e:(s.data.toList.drop f)[i-f]=10:=by rw[List.getElem_drop];have:s.data.toList[i]=10:=vR;rw[<-this];exact Qm
  have:=qBw (i-f) (s.data.toList.drop f);rw[qBf hil,e,qCh,show f+(i-f+1)=i+1 by omega]at this;exact this.symm
 have he:s.extract f i=tx ((s.data.toList.drop f).take (i-f)):=by rw[<-mB,Ic]
 refine⟨fun _=>⟨zNr,?_,Sk⟩,fun h=>?_,zpw⟩
 ·rw[b,hd,zcT _ c,he,qBO];rfl
 ·omega
theorem zcW{s:BA}{pre:List BA}{f:Nat}(h:LnI s pre f s.size)(hf:f≠s.size):LnI s (pre++[s.extract f s.size]) (s.size+1) (s.size+1):=by
 obtain⟨h1,_,h3⟩:=h;obtain⟨a,b,c⟩:=h1 zNr;have bW:s.data.toList.length=s.size:=qBv;have ht:(s.data.toList.drop f).take (s.size-f)=s.data.toList.drop f:=qAP zaA;rw[ht]at c;have he:s.extract f s.size=tx (s.data.toList.drop f):=by rw[<-ht,<-mB,Ic]
 refine⟨fun h=>Sg,fun _=>?_,zpw⟩;rw[b,he,zgT c (fun e=>by have:=qBB List.length e;rw[zLd,qBS]at this;omega)]
theorem zgU{s:BA}{pre:List BA}{f:Nat}(h:LnI s pre f s.size)(hf:f=s.size):LnI s pre f (s.size+1):=by obtain⟨h1,_,h3⟩:=h;obtain⟨a,b,c⟩:=h1 zNr;refine⟨fun h=>Sg,fun _=>?_,Sg⟩;rw[b,hf,qAr (by rw[qBv];exact zNr),La (s:=tx []) rfl,qAh]
theorem DN(b:Addr)(s:BA)(w:World)(hw:sL w b)(hs:s.size<=140737488351232) :
  zC 3 #[.string s] w (zr (.bool true) fun w'=>zB w w'):=by
 by_cases hl:s.size<=3000
 case neg =>
  have HR:=ae (zbF w s hl);have t0:(s.size:Int) > 3000:=Sg;clear hw;go_enter func3,ntmps3
  go_wp2_with fail
  refine HR.m ?_;rintro w1 rfl;exact zbL
 have t0:¬(s.size:Int) > 3000:=Sg;have HR:=ae (XV w b hw s hl);clear hw;go_enter func3,ntmps3
 go_wp2_with fail
 refine HR.m ?_;intro w1 ay;have aQ:=ae ay;have HN:=ae (zbR 80 w1 Si);clear ay HR;go_wp2_with fail
 refine HN.mono ?_;rintro e w2 ⟨p,S,rfl,ui,zhj,aK⟩;have hfm:=N3 (L:=32) ui Tq Si Si;rw[zlb,zlc]at hfm;have pr:=ae hfm;have MF:=ae zhj;have bz:=ae aK;clear ui zhj aK hfm HN;go_wp2_with fail
 refine pr.mono ?_;rintro e w3 ⟨q,rfl,S3,Zs,rp,hp3,hq3,zqn⟩;have eh:zB w1 w3:=bz.trans ((rp.below (fun k hk=>MF k hk) bz.size).mono zNr);have hS3:∀k,S3 k->w1.heap.size<=k:=fun k hk=>by
  by_cases aB:k<w2.heap.size
  ·exact MF k (rp.bA k aB hk)
  ·have:=bz.size;omega
 have tN:∀w',Sem.run prog (Instr.makeSlice 29 (zi 1024) (zi 1024)) w'=.ok (.slice (some ⟨w'.heap.size,0,none⟩) 1024 1024) (EM w' 1024):=fun w'=>nM w' 1024 Si
 have Mf:Hid (∀ (W:World) (a b:Nat),zB w3 W->w3.heap.size<=a->w3.heap.size<=b->gz W a (af 1024)->gz W b (af 1024)->Dk w1 (W.alloc (.cells #[.slice (zo a) 1024 1024,.slice (zo b) 1024 1024,zq q] 31)) W.heap.size p (oh 80 32)):=ae (fun W a b hW ha hb zqz vQ=>by
  have hz3:=eh.size;have hzW:=hW.size;have hWA:zB W (W.alloc (.cells #[.slice (zo a) 1024 1024,.slice (zo b) 1024 1024,zq q] 31)):=zBr.alloc zNr _;have znt:=hp3.lt;have bs:∀g,w3.heap.size<=g->gz W g (af 1024)->A1 (W.alloc (.cells #[.slice (zo a) 1024 1024,.slice (zo b) 1024 1024,zq q] 31)) (Au S3 q W.heap.size) (zo g) 1024 (af 1024):=fun g hg hk=>⟨((hk.bs (cI 1024) Si).below hWA),fun _ x hx hs=>by
   obtain rfl:=zOi hx;have BK:=hk.lt;rcases hs with (hs|hs)|hs
   ·have:=Zs.lt _ hs;dsimp only at this;omega
   ·dsimp only at hs;omega
   ·dsimp only at hs;omega⟩
  refine⟨q,S3,_,_,_,_,(eh.trans (hW.mono hz3)).trans (hWA.mono Sg),qAB _ _,bs a ha zqz,bs b hb vQ,(hp3.below hW).below hWA,(Zs.below hW).below hWA,fun k hk=>?_,fun hs=>?_,hq3⟩
  ·rcases hk with (hk|rfl)|rfl
   ·exact hS3 k hk
   ·have:=bz.size;omega
   ·omega
  ·rcases hs with hs|hs
   ·have:=Zs.lt _ hs;omega
   ·omega)
 have dF:=zTr aQ eh;clear Zs rp hp3 hq3 zqn eh hS3 pr MF bz;go_upto_region 7 with fail
 go_cut [6]from 25 to 29 (fun dv wx=>∃d,dv=zq d/\Dk w1 wx d p (oh 80 32))
 case first =>
  have hA:=xa w3.drew 1024;have hB:=xa (EM w3.drew 1024) 1024;have hA2:=hA.below (lu (EM w3.drew 1024) 1024);have hz:w3.heap.size<=(EM w3.drew 1024).heap.size:=(lu w3.drew 1024).size;have rH:zB w3 (EM (EM w3.drew 1024) 1024):=((bF (Below.refl _ w3)).trans (lu w3.drew 1024)).trans ((lu (EM w3.drew 1024) 1024).mono hz);have HY:=ae (And.intro (Mf _ _ _ rH zNr hz hA2 hB) (Mf _ _ _ rH hz zNr hB hA2));clear hA hB hA2 hz rH Mf;go_region
  all_goals
   go_wp2;go_meet
   case rel=>exact⟨_,rfl,by first | exact HY.1 | exact HY.2⟩
 case rest =>
 obtain⟨d,rfl,oB⟩:=hcut;have H0:Hid (LnI s [] 0 0):=ae ⟨fun _=>⟨zNr,by rw[qCE,Ic];rfl,Sk⟩,fun h=>Sg,zNr⟩;have Ml:=ae oB;clear oB Mf tN;go_wp2_with fail
 go_loopw [7,8,9,10] (fun tv fv iv _ wr=>∃ (f i:Nat) (pre:List BA),i<=s.size+1/\iv=zi i/\fv=zi f/\tv=.string (strOf (xC 32 (oh 80 32) pre).2)/\LnI s pre f i/\Dk w1 wr d p (xC 32 (oh 80 32) pre).1) (fun _ _ iv _ _=>s.size+1-(intOf iv).toNat)
 case atStart=>exact⟨0,0,[],qAH _,rfl,rfl,rfl,H0,Ml⟩
 case round =>
  obtain⟨f,i,pre,hi,rfl,rfl,rfl,jE,oB⟩:=hrel;clear H0 Ml;have si:pre.length<=3001:=by have:=jE.2.2;omega
  obtain⟨r1,r2,r3,r4⟩:=zjy pre si;by_cases aB:i<s.size
  ·have t1:(i:Int)<(s.size:Int):=by omega
   have t2:(i:Int)<=(s.size:Int):=Sg;by_cases vR:s[i]=10
   ·have hb:((s[i].toNat:Int) == 10)=true:=by rw[vR];rfl
    have aK:((s[i].toNat:Int) != 10)=false:=by rw[bne,hb];rfl
    have ti:((i:Int) == (s.size:Int))=false:=qAU.2 Sg;have jD:=ae (zcV jE aB vR);have Rp:f<=i:=(jE.1 Sg).1;have Rh:(s.extract f i).size<=3000:=by rw[ByteArray.size_extract];omega
    have hz:=r1.all;have hL:=OW oB r1 ⟨hz.1.1,hz.1.2.1,hz.1.2.2,hz.2.2.2⟩ r2 Sg (s.extract f i) Rh;have bW:=Lb hz.1.1 hz.1.2.2 Si ⟨r2,Sg⟩ (s.extract f i);have hsn:=En 32 (oh 80 32) pre (s.extract f i);rw[EZ Rh]at hsn;have fP:Hid (strOf (xC 32 (oh 80 32) (pre++[s.extract f i])).2=(strOf (xC 32 (oh 80 32) pre).2++(jf 32 (xC 32 (oh 80 32) pre).1 (s.extract f i)).2)++⟨#[10]⟩):=ae (by rw[hsn];exact DY _ _);have HPP:Hid ((xC 32 (oh 80 32) (pre++[s.extract f i])).1=(jf 32 (xC 32 (oh 80 32) pre).1 (s.extract f i)).1):=ae (by rw[hsn]);have hq:(strOf (xC 32 (oh 80 32) pre).2).size<=60023001:=by rw[kI];omega
    have HL:=ae hL;have f1:(f:Int)<=(i:Int):=Sg;have f0:(0:Int)<=(f:Int):=Sg;clear hL hz hsn jE oB r1 r2 r3 r4 si Rh Rp;generalize (jf 32 (xC 32 (oh 80 32) pre).1 (s.extract f i)).1=P2 at*;generalize (jf 32 (xC 32 (oh 80 32) pre).1 (s.extract f i)).2=X at*;generalize strOf (xC 32 (oh 80 32) pre).2=T at*;have s1:¬9223372036854775807<T.size+X.size:=Sg;have s2:¬9223372036854775807<(T++X).size+(⟨#[10]⟩:BA).size:=by
     rw[qCW]
     show ¬9223372036854775807<T.size+X.size+1
     omega
    clear hq bW;go_wp2_with fail
    refine HL.m ?_;intro w5 zdF;have HD5:=ae zdF;clear zdF HL;go_wp2;go_roundw
    case rel=>exact⟨i+1,i+1,pre++[s.extract f i],Sg,Tc,Tc,by rw[aa fP],jD,by rw[aa HPP];exact HD5⟩
    case measure=>exact Te
   ·have hb:((s[i].toNat:Int) == 10)=false:=qAU.2 (fun h=>vR (qDC.1 (show s[i].toNat=10 by omega)));have aK:((s[i].toNat:Int) != 10)=true:=by rw[bne,hb];rfl
    have jD:=ae (zcU jE aB vR);have Ml:=ae oB;clear jE oB r1 r2 r3 r4 vR si;go_wp2;go_roundw
    case rel=>exact⟨f,i+1,pre,Sg,Tc,rfl,rfl,jD,Ml⟩
    case measure=>exact Te
  ·by_cases hi2:i=s.size
   ·subst hi2;have t1:¬(s.size:Int)<(s.size:Int):=by omega
    have t2:(s.size:Int)<=(s.size:Int):=Sg;by_cases hf:f=s.size
    ·have jD:=ae (zgU jE hf);have tf:((f:Int) == (s.size:Int))=true:=by rw[hf];simp
     have Ml:=ae oB;have HF:=ae hf;clear jE oB r1 r2 r3 r4 si hf;go_wp2;go_roundw
     case rel=>exact⟨f,s.size+1,pre,Sg,Tc,rfl,rfl,jD,Ml⟩
     case measure=>simp[intOf]
    ·have tf:((f:Int) == (s.size:Int))=false:=qAU.2 Sg;have jD:=ae (zcW jE hf);have Rp:f<=s.size:=(jE.1 Sg).1;have Rh:(s.extract f s.size).size<=3000:=by rw[ByteArray.size_extract];omega
     have hz:=r1.all;have hL:=OW oB r1 ⟨hz.1.1,hz.1.2.1,hz.1.2.2,hz.2.2.2⟩ r2 Sg (s.extract f s.size) Rh;have bW:=Lb hz.1.1 hz.1.2.2 Si ⟨r2,Sg⟩ (s.extract f s.size);have hsn:=En 32 (oh 80 32) pre (s.extract f s.size);rw[EZ Rh]at hsn;have fP:Hid (strOf (xC 32 (oh 80 32) (pre++[s.extract f s.size])).2=(strOf (xC 32 (oh 80 32) pre).2++(jf 32 (xC 32 (oh 80 32) pre).1 (s.extract f s.size)).2)++⟨#[10]⟩):=ae (by rw[hsn];exact DY _ _);have HPP:Hid ((xC 32 (oh 80 32) (pre++[s.extract f s.size])).1=(jf 32 (xC 32 (oh 80 32) pre).1 (s.extract f s.size)).1):=ae (by rw[hsn]);have hq:(strOf (xC 32 (oh 80 32) pre).2).size<=60023001:=by rw[kI];omega
     have HL:=ae hL;have f1:(f:Int)<=(s.size:Int):=Sg;have f0:(0:Int)<=(f:Int):=Sg;clear hL hz hsn jE oB r1 r2 r3 r4 si Rh Rp;generalize (jf 32 (xC 32 (oh 80 32) pre).1 (s.extract f s.size)).1=P2 at*;generalize (jf 32 (xC 32 (oh 80 32) pre).1 (s.extract f s.size)).2=X at*;generalize strOf (xC 32 (oh 80 32) pre).2=T at*;have s1:¬9223372036854775807<T.size+X.size:=Sg;have s2:¬9223372036854775807<(T++X).size+(⟨#[10]⟩:BA).size:=by
      rw[qCW]
      show ¬9223372036854775807<T.size+X.size+1
      omega
     clear hq bW;go_wp2_with fail
     refine HL.m ?_;intro w5 zdF;have HD5:=ae zdF;clear zdF HL;go_wp2;go_roundw
     case rel=>exact⟨s.size+1,s.size+1,pre++[s.extract f s.size],Sg,Tc,Tc,by rw[aa fP],jD,by rw[aa HPP];exact HD5⟩
     case measure=>simp[intOf]
   ·have t1:¬(i:Int)<=(s.size:Int):=by omega
    have he:=jE.2.1 Sg;rw[<-he];have Ml:=ae oB.zeK;clear jE oB r1 r2 r3 r4 si he;go_wp2;go_ret;exact⟨rfl,aQ.trans (Ml.mono aQ.size)⟩
