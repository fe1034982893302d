import Derived.Test.YtoiebmeajhpgcaaGreatDoorJRd
import Derived.Shelf.Bits.Mul64
import Derived.Laws.CopyRow
set_option maxRecDepth 100000
set_option maxHeartbeats 16000000
set_option linter.all false
namespace Go.Proofs.YtoiebmeajhpgcaaGreatDoor
variable {m g n k:Nat}{w:World}{S:Nat->Prop}
open Tryz
open Go.RowKit
section
open Go.Shelf
section
variable {w0 w w':World} {g p m t x:Nat} {P P':Ps} {F F':Nat->Prop} {b:Addr}
theorem zlj(hw:sL w0 b)(hs:uU w0 w g p m P F) bn on cn nm a bl c n0 n1(d0:w.cell? ⟨bn,on,none⟩=some (zi n0))(d1:w.cell? ⟨bn,on+1,none⟩=some (zi n1))(ha:-9223372036854775808<=uu P.L n0 n1/\uu P.L n0 n1<=9223372036854775807) :
  zC 52 #[zq g,.agg #[.string oN,.slice (some ⟨bn,on,none⟩) 2 cn,.string nm,.slice a bl c]] w fun e w'=>e=.returned (.string (GV (uu P.L n0 n1) (kX P.L n0 n1)))/\wC w0 w g p m { P with L:=iq P.L n0 n1 } F w':=by
 obtain⟨w1,t,x,jF,eh,z0,z1,z2,z3,s0,s1,HH,HX,re,HN,oL⟩:=kW hw hs (.string oN) (.slice (some ⟨bn,on,none⟩) 2 cn) (.string nm) (.slice a bl c);have c0:=aP d0 eh;have c1:=aP d1 eh;clear eh hs hw;unfold oN at*;go_enter func52,ntmps52
 go_wp2_with fail
 rw[aa jF];clear jF;go_quiet ((go_at_call 87;exact Calls.quiet_of_same (HH _)))
 clear HH;have HF:=ae (fun(W:World) (hW:zB w1 W)=>(re W hW).alloc n0 n1);go_wp2_with fail
 go_region_with (first
  | (go_at_call 89;refine(HF _ ?_).mono ?_;(repeat (first|exact zBr|refine below_drewN ?_ _|refine oa ?_));rintro e w2 ⟨rfl,F',hT,hU⟩)
  | (go_at_call 88;refine(pZ (oL _ hT.base) _ _ ha.1 ha.2).mono ?_;rintro e w3 ⟨rfl,bD⟩))
 all_goals
  have yd:=ae ((HN w2 F' hT ((au.aI (S:=F) (below_drewN (Below.refl _ w1) _)).trans hU)).below bD);clear bD hT hU HN oL HX re HF;go_wp2;go_ret;exact⟨rfl,yd⟩
theorem zeg(hw:sL w0 b)(hs:uU w0 w g p m P F) bn on cn nm a bl c n0 n1(d0:w.cell? ⟨bn,on,none⟩=some (zi n0))(d1:w.cell? ⟨bn,on+1,none⟩=some (zi n1)) l(hl:Bs w a c l)(fC:l.length=bl)(hx:n1<=9223372036854775807) :
  zC 52 #[zq g,.agg #[.string fi,.slice (some ⟨bn,on,none⟩) 2 cn,.string nm,.slice a bl c]] w fun e w'=>e=.returned (.string (nJ (mo P.L n0 n1 bl)))/\wC w0 w g p m { P with L:=uL P.L n0 n1 l } F w':=by
 obtain⟨w1,t,x,jF,eh,z0,z1,z2,z3,s0,s1,HH,HX,re,HN,oL⟩:=kW hw hs (.string fi) (.slice (some ⟨bn,on,none⟩) 2 cn) (.string nm) (.slice a bl c);have c0:=aP d0 eh;have c1:=aP d1 eh;have rE:Hid (∀ (W:World),zB w1 W->zC 91 #[zq x,zi n0,zi n1,.slice a bl c] W fun e w'=>e=.returned (bc (mo P.L n0 n1 bl))/\∃F',Tf w0 w' t p x m { P with L:=uL P.L n0 n1 l } F'/\au F F' W w'):=ae (fun W hW=>by have h:=(re W hW).write n0 n1 (hl.below (eh.trans (hW.mono eh.size))) hx;rw[fC]at h;exact h);clear hl fC;clear eh hs hw;unfold fi at*;go_enter func52,ntmps52
 go_wp2_with fail
 rw[aa jF];clear jF;go_quiet ((go_at_call 87;exact Calls.quiet_of_same (HH _)))
 clear HH;have HF:=ae (fun(W:World) (hW:zB w1 W)=>rE W hW);go_wp2_with fail
 go_region_with (first
  | (go_at_call 91;refine(HF _ ?_).mono ?_;(repeat (first|exact zBr|refine below_drewN ?_ _|refine oa ?_));rintro e w2 ⟨rfl,F',hT,hU⟩)
  | (go_at_call 9;refine(jI _ b _ (oL _ hT.base).bd (oL _ hT.base).et).mono ?_;rintro e w3 ⟨rfl,bD⟩))
 all_goals
  have yd:=ae ((HN w2 F' hT ((au.aI (S:=F) (below_drewN (Below.refl _ w1) _)).trans hU)).below bD);clear bD hT hU HN oL HX re HF;go_wp2;go_ret;exact⟨rfl,yd⟩
theorem zhM(hw:sL w0 b)(hs:uU w0 w g p m P F) bn on cn nm a bl c n0 n1 n2(d0:w.cell? ⟨bn,on,none⟩=some (zi n0))(d1:w.cell? ⟨bn,on+1,none⟩=some (zi n1))(d2:w.cell? ⟨bn,on+2,none⟩=some (zi n2))(hr:bZ (CT P.L n0 n1 n2))(xh:(CT P.L n0 n1 n2).length<=6400)(Ms:n1<=9223372036854775807)(mh:n2<=9223372036854775807) :
  zC 52 #[zq g,.agg #[.string iZ,.slice (some ⟨bn,on,none⟩) 3 cn,.string nm,.slice a bl c]] w (zr (.string (hxV (CT P.L n0 n1 n2) (mo P.L n0 n1 n2))) fun w'=>wC w0 w g p m P F w'):=by
 obtain⟨w1,t,x,jF,eh,z0,z1,z2,z3,s0,s1,HH,HX,re,HN,oL⟩:=kW hw hs (.string iZ) (.slice (some ⟨bn,on,none⟩) 3 cn) (.string nm) (.slice a bl c);have c0:=aP d0 eh;have c1:=aP d1 eh;have c2:=aP d2 eh;have uV:=ae (fun(W:World) (hW:zB w1 W)=>(re W hW).ask (f:=93) (ar:=#[zq x,zi n0,zi n1,zi n2]) (Q:=fun e w'=>∃a' c',e=zt #[.slice a' (CT P.L n0 n1 n2).length c',bc (mo P.L n0 n1 n2)]/\cW w' W.heap.size (.slice a' (CT P.L n0 n1 n2).length c') (CT P.L n0 n1 n2)) (fun g c hh=>(ZQ x g c w0.heap.size P.L n0 n1 n2 W hh Ms mh).mono fun e w' ⟨a',c',h1,h2,h3⟩=>⟨⟨a',c',h1,h2⟩,h3⟩));clear eh hs hw;unfold iZ at*;go_enter func52,ntmps52
 go_wp2_with fail
 rw[aa jF];clear jF;go_quiet ((go_at_call 87;exact Calls.quiet_of_same (HH _)))
 clear HH;have HF:=ae (fun(W:World) (hW:zB w1 W)=>uV W hW);go_wp2_with fail
 go_region_with (first
  | (go_at_call 93;refine(HF _ ?_).mono ?_;(repeat (first|exact zBr|refine below_drewN ?_ _|refine oa ?_));rintro e w2 ⟨⟨a',c',rfl,ho⟩,hT,hU⟩)
  | (go_at_call 92;refine(zhl (oL _ hT.base) _ _ _ _ (ho.zlw hr Sg) xh).m ?_;intro w3 bD))
 all_goals
  have yd:=ae ((HN w2 F hT (au.aI ((below_drewN (Below.refl _ w1) _).trans hU))).below bD);clear bD hT hU HN oL HX re HF;exact zjJ
theorem zli(hw:sL w0 b)(hs:uU w0 w g p m P F) bn on cn nm a bl c n0(d0:w.cell? ⟨bn,on,none⟩=some (zi n0))(hz:nm.size<=140737488351232) :
  zC 52 #[zq g,.agg #[.string lN,.slice (some ⟨bn,on,none⟩) 1 cn,.string nm,.slice a bl c]] w fun e w'=>e=.returned (.string (noS (Q8 P.L nm n0) (js P.L nm n0)))/\wC w0 w g p m { P with L:=Dj P.L nm n0 } F w':=by
 obtain⟨w1,t,x,jF,eh,z0,z1,z2,z3,s0,s1,HH,HX,re,HN,oL⟩:=kW hw hs (.string lN) (.slice (some ⟨bn,on,none⟩) 1 cn) (.string nm) (.slice a bl c);have c0:=aP d0 eh;clear eh hs hw;unfold lN at*;go_enter func52,ntmps52
 go_wp2_with fail
 rw[aa jF];clear jF;go_quiet ((go_at_call 87;exact Calls.quiet_of_same (HH _)))
 clear HH;have HF:=ae (fun(W:World) (hW:zB w1 W)=>(re W hW).set nm n0 hz);go_wp2_with fail
 go_region_with (first
  | (go_at_call 95;refine(HF _ ?_).mono ?_;(repeat (first|exact zBr|refine below_drewN ?_ _|refine oa ?_));rintro e w2 ⟨rfl,F',hT,hU⟩)
  | (go_at_call 94;refine(K4 (oL _ hT.base) _ _).mono ?_;rintro e w3 ⟨rfl,bD⟩))
 all_goals
  have yd:=ae ((HN w2 F' hT ((au.aI (S:=F) (below_drewN (Below.refl _ w1) _)).trans hU)).below bD);clear bD hT hU HN oL HX re HF;go_wp2;go_ret;exact⟨rfl,yd⟩
theorem zll(hw:sL w0 b)(hs:uU w0 w g p m P F) bn on cn nm a bl c n0(d0:w.cell? ⟨bn,on,none⟩=some (zi n0))(hn:-9223372036854775808<=n0/\n0<=9223372036854775807) :
  zC 52 #[zq g,.agg #[.string oP,.slice (some ⟨bn,on,none⟩) 1 cn,.string nm,.slice a bl c]] w (zr (.string (nJ 0)) fun w'=>wC w0 w g p m (og P n0) F w'):=by
 obtain⟨w1,t,x,jF,eh,z0,z1,z2,z3,s0,s1,HH,HX,re,HN,oL⟩:=kW hw hs (.string oP) (.slice (some ⟨bn,on,none⟩) 1 cn) (.string nm) (.slice a bl c);have c0:=aP d0 eh;clear eh hs hw;unfold oP at*;go_enter func52,ntmps52
 go_wp2_with fail
 rw[aa jF];clear jF;go_quiet ((go_at_call 87;exact Calls.quiet_of_same (HH _)))
 clear HH;have HF:=ae (fun(W:World) (hW:zB w1 W)=>(re W hW).fail n0 hn);go_wp2_with fail
 go_region_with (first
  | (go_at_call 101;refine(HF _ ?_).mono ?_;(repeat (first|exact zBr|refine below_drewN ?_ _|refine oa ?_));rintro e w2 ⟨rfl,F',hT,hU⟩))
 all_goals
  have pP:=ae (HN w2 F' hT ((au.aI (S:=F) (below_drewN (Below.refl _ w1) _)).trans hU));have HT:=ae (jI 0 b w2 (oL _ hT.base).bd (oL _ hT.base).et);rw[yN]at HT;clear hT hU HN oL HX re HF;exact fx
end
def Qy:Ren:={ f:=fun | 212=>205 | 263=>251 | 264=>252 | n=>n,t:=fun | 46=>249 | 51=>324 | 146=>325 | 53=>353 | 148=>354 | n=>n,g:=fun n=>n }
theorem zhX:Lays.n212 prog Qy:={ mixed:=SQ,f212:=func205.trans rfl,f263:=func251.trans rfl,f264:=func252.trans rfl,t46:=underlying249,a46:=isAgg249,z46:=sizeOf249,v46:=zeroValue249,t51:=underlying324,a51:=isAgg324,z51:=sizeOf324,v51:=zeroValue324,t53:=underlying353,a53:=isAgg353,z53:=sizeOf353,v53:=zeroValue353,t146:=underlying325,a146:=isAgg325,z146:=sizeOf325,v146:=zeroValue325,t148:=underlying354,a148:=isAgg354,z148:=sizeOf354,v148:=zeroValue354 }
def Mz(w:World)(g n k:Nat):Prop:=∃cs:Array Value,w.heap[g]?=some (.cells cs 4 (0,0))/\cs.size=n/\∀i,i<k->cs[i]?=some (.bool true)
theorem JT:(prog.info? 4).map (·.size)=some 1:=SQ
theorem zat:(prog.info? 4).map (fun i=>(i.zero,i.size,i.bytes))=some (some (.bool false),1,1):=SQ
theorem zgd{j:Nat}{u v:Value}(h:(List.replicate m u)[j]?=some v):j<m/\v=u:=by
 rw[qBx]at h;by_cases hjm:j<m
 ·rw[zy hjm]at h;exact⟨hjm,(zOi h).symm⟩
 ·rw[zn hjm]at h;cases h
theorem JN{dCap sLen sCap:Nat}{sp}(h:Mz w g n k)(hk:k<=n)(hm:m=Nat.min sLen (n-k))(hs:∀j,j<m->w.cell? (sp.add j)=some (.bool true))(dT sT ty:TypeId)(hu:prog.underlying dT=some (.slice 4)) :
  ∃cs,(Builtin.copy_ #[dT,sT] ty #[.slice (some (zw g k)) (n-k) dCap,.slice (some sp) sLen sCap]).run prog w=.ok (zi m) (w.setRow g cs)/\Mz (w.setRow g cs) g n (k+m):=by
 obtain⟨cs,h1,h2,h3⟩:=h;have hmn:m<=n-k:=by rw[hm];exact Nat.min_le_right _ _
 have cF:=run_copy_row (P:=prog) w dT sT ty 4 g k (n-k) dCap sp sLen sCap cs 4 (List.replicate m (Value.bool true)) hu JT h1 (by rw[qBW];exact hm) (fun j v hj=>by obtain⟨hjm,rfl⟩:=zgd hj;exact hs j hjm) (by rw[qBW,h2];omega) (fun v hv=>by rw[List.eq_of_mem_replicate hv];rfl);rw[qBW]at cF;refine⟨_,cF,_,setRow_heap w g cs _ _ _ h1,?_,fun i hi=>?_⟩
 ·rw[qBa,zLa,zLa,qBW,zLt,zLd,qBv,h2];omega
 ·rw[List.getElem?_toArray,qBO];have l1:(cs.toList.take k).length=k:=by rw[zLt,qBv,h2];omega
  by_cases hik:i<k
  ·rw[qAZ (by rw[l1];exact hik),qAi,zy hik,qCV];exact h3 i hik
  ·rw[qAR (by rw[l1];omega),l1,qAZ (by rw[qBW];omega),qBx,zy Sg]
theorem xq:prog.elem 84=4:=by simp[Program.elem,underlying84]
theorem xP w:(sizeOf 4).run prog w=.ok 1 w:=by
 have bW:=JT;cases hq:prog.info? 4 with
 | none=>simp[hq]at bW
 | some i =>exact EP
theorem XF g n k(hk:k<n) w:(Instr.slice 84 (.slice (zo g) n n) (some (zi k)) none none).run prog w=.ok (.slice (some (zw g k)) (n-k) (n-k)) w:=by
 have h:=qDT (P:=prog) (w:=w) 84 (zo g) n n (by rw[xq];exact underlying84) .i64 k Sg Sg;rw[xq,xP w]at h;refine Eq.trans h ?_;simp[Result.andThen,sliced,Addr.add];rw[zn Sg];by_cases h0:k=0
 ·rw[zy h0,h0]
 ·rw[zn h0]
theorem XG g n k(hk:k<=n)(h0:0<n) w:(Instr.slice 84 (.slice (zo g) n n) none (some (zi k)) none).run prog w=.ok (.slice (zo g) k n) w:=by have h:=run_slice_h (P:=prog) (w:=w) 84 (zo g) n n (by rw[xq];exact underlying84) .i64 k Sg Sg;rw[xq,xP w]at h;refine Eq.trans h ?_;simp[Result.andThen,sliced,Addr.add]
theorem IZ w n(hn:n<=1000000):∃cs:Array Value,cs.size=n/\Sem.run prog (Instr.makeSlice 84 (zi n) (zi n)) w=.ok (.slice (some (zp w.heap.size)) n n) (w.alloc (.cells cs 4)):=by obtain⟨i0,hi,cO,cU,cV⟩:=qAO zat;have cF:=run_make (P:=prog) w 84 4 i0 _ underlying84 hi cO .i64 .i64 n n Sg Sg (by rw[cV];omega) Sg;refine⟨_,?_,cF⟩;rw[cU,qCN,zTn];simp[size_madeCells]
theorem Mz.cell(h:Mz w g n k){i}(hi:i<k):w.cell? (zw g i)=some (.bool true):=by obtain⟨cs,h1,h2,h3⟩:=h;rw[qAD _ _ _ _ _ _ h1];exact h3 i hi
theorem zgL(n:Nat)(hn:n<=1000) w:zC 205 #[.int .u64 1,.int .u64 n] w (zr (.tuple #[.int .u64 0,.int .u64 n]) fun w'=>w=w'):=by have h:=Any.bits_Mul zhX 1 n Sg Sg w;rw[show(1*n / 18446744073709551616:Nat)=0 by omega,show(1*n%18446744073709551616:Nat)=n by omega]at h;refine h.mono ?_;rintro e w' ⟨rfl,rfl⟩;exact⟨rfl,rfl⟩
theorem below_setRow{B}{u v}(h:Below B u v)(hg:B<=g) cs:Below B u (v.setRow g cs):=⟨h.os,h.tape,h.output,by have:=h.size;simpa[World.setRow]using this,fun k hk=>by rw[qDM v g k _ Sg];exact h.block k hk⟩
theorem SO(n:Nat)(hn:n<=1000) gx w(hx:w.cell? (zp gx)=some (.bool true)):zC 154 #[.slice (zo gx) 1 1,zi n] w fun e w'=>∃g,e=.returned (.slice (zo g) n n)/\w.heap.size<=g/\Mz w' g n n/\zB w w':=by
 have HM:=ae (zgL n hn w);obtain⟨cs,lC,tN⟩:=IZ w n Sg;have ay:zB w (w.alloc (.cells cs 4)):=zBr.alloc zNr _;have mS:Mz (w.alloc (.cells cs 4)) w.heap.size n 0:=⟨cs,qAB _ _,lC,fun i hi=>absurd hi (qAX _)⟩;have Ms:(w.alloc (.cells cs 4)).cell? (zp gx)=some (.bool true):=by rw[ay.cell (qAA hx)];exact hx
 obtain⟨m0,ry⟩:∃m0,m0=Nat.min 1 (n-0):=⟨_,rfl⟩;have BJ:m0<=1/\m0<=n/\(0<n->m0=1):=by
  rw[ry];refine⟨Nat.min_le_left _ _,qAF (Nat.min_le_right _ _) Sg,fun h=>?_⟩
  show min 1 (n-0)=1
  omega
 obtain⟨c2,yJ,gw⟩:=JN (dCap:=n) (sLen:=1) (sCap:=1) (sp:=(zp gx)) mS (qAH _) ry (fun j hj=>by obtain rfl:j=0:=Sg;exact Ms) 84 84 3 underlying84;rw[Nat.sub_zero]at yJ;rw[qAl]at gw;have aK:=below_setRow ay (Nat.le_refl w.heap.size) c2;obtain⟨w1,e1⟩:∃x,w.alloc (.cells cs 4)=x:=⟨_,rfl⟩;rw[e1]at tN yJ gw aK;have bz:=ae (And.intro gw aK);have ME:=ae BJ;clear ry BJ mS Ms ay e1 gw aK lC hx;go_enter func154,ntmps154
 go_wp2_with fail
 refine HM.mono ?_;rintro e w' ⟨rfl,rfl⟩;clear HM;go_wp2_with fail
 go_loopw [8] (fun kv wr=>∃k:Nat,k<=n/\(0<n->1<=k)/\kv=zi k/\Mz wr w.heap.size n k/\zB w wr) (fun kv _=>n-(intOf kv).toNat)
 case atStart=>exact⟨m0,ME.2.1,fun h=>by have:=ME.2.2 h;omega,rfl,bz.1,bz.2⟩
 case round =>
  obtain⟨k,hk,kF,rfl,o4,ai⟩:=hrel;clear bz ME tN yJ;by_cases aB:k<n
  ·have fQ:=fun(W:World)=>XF w.heap.size n k aB W
   have gN:=fun(W:World)=>XG w.heap.size n k hk Sg W
   obtain⟨mm,Jg⟩:∃mm,mm=Nat.min k (n-k):=⟨_,rfl⟩;have tN:mm<=k/\mm<=n-k/\1<=mm:=by
    rw[Jg];refine⟨Nat.min_le_left _ _,Nat.min_le_right _ _,?_⟩
    show 1<=min k (n-k)
    have:=kF Sg;omega
   obtain⟨c3,yJ,rp⟩:=JN (w:=wr.drew) (dCap:=n-k) (sLen:=k) (sCap:=n) (sp:=⟨w.heap.size,0,none⟩) o4 hk Jg (fun j hj=>by have:=Mz.cell (w:=wr.drew) o4 (i:=j) Sg;rw[addr_add,qAl];exact this) 84 84 3 underlying84;have bD:=below_setRow (v:=wr.drew) (⟨ai.os,ai.tape,ai.output,ai.size,ai.block⟩:zB w wr.drew) (Nat.le_refl w.heap.size) c3;have HR:=ae (And.intro rp bD);have W8:=ae (And.intro tN kF);have qT:=tN.2.1;have hq3:=tN.2.2;clear Jg tN rp bD o4 ai kF;go_wp2_with fail
   go_region
   all_goals
    go_wp2;go_roundw
    case rel=>exact⟨k+mm,by have:=aa W8;omega,fun _=>by have:=aa W8;omega,Tc,HR.1,HR.2⟩
    case measure=>have:=aa W8;exact Te
  ·obtain rfl:k=n:=by omega
   have HR:=ae (And.intro o4 ai);clear o4 ai;go_wp2;go_ret;exact⟨_,rfl,zNr,HR.1,HR.2⟩
end
section
variable {w:World} {p:Nat} {S:Nat->Prop} {D:DS}
theorem Oe(h:td w p S D) :
  zC 155 #[zq p] w fun e w'=>∃g,e=.returned (.slice (zo g) D.mem.length D.mem.length)/\w.heap.size<=g/\uH w' g (p9 D.mem)/\zB w w':=by
 obtain⟨sb,bm,pv,h⟩:=h;have c2:=h.c2;have tM:=h.ok.ki;obtain⟨i0,dU,cO,cU,cV⟩:=qAO vJ;have h1:=h.alloc (.cells (gE (af D.mem.length)) 3);have c2':=h1.c2;rcases h.vy with ⟨rfl,ry⟩|⟨g,cap,rfl,ma,Rr,bf⟩
 ·have oz:D.mem.length=0:=by rw[ry];rfl
  have Wi:p9 D.mem=[]:=by rw[ry];rfl
  rw[oz]at c2' ⊢;rw[Wi];have l9:=run_copy_nil (P:=prog) (w.alloc (.cells (gE (af 0)) 3)) 88 88 3 3 (zp w.heap.size) 0 0 underlying88 (by rw[dU];rfl);clear h h1 ry oz Wi;go_enter func155,ntmps155
  go_wp2_with (at_make;refine rN rfl _ _ 88 rfl i0 underlying88 dU cO cU cV _ _ _ _ 0 rfl rfl rfl rfl Sg ?_)
  exact zpr
 ·unfold maxLen at Rr;obtain⟨n,hn⟩:∃n,D.mem.length=n:=⟨_,rfl⟩;have tP:(p9 D.mem).length=n:=by rw[zT,hn]
  have Jr:∀j v,((p9 D.mem).map (Value.int .i64))[j]?=some v->(w.alloc (.cells (gE (af D.mem.length)) 3)).cell? (Addr.add (zp g) j)=some v:=by
   intro j v hv;have hj:j<D.mem.length:=by
    rcases qBT j D.mem.length with h2|h2
    ·exact h2
    ·rw[qAY (by rw[zLm,zT];exact h2)]at hv;cases hv
   rw[addr_add,qAl,h1.wV j hj,<-hv];simp[p9,hj,List.getD]
  rw[hn]at Jr c2' ⊢;have l9:=run_copy_row (P:=prog) (w.alloc (.cells (gE (af n)) 3)) 88 88 3 3 w.heap.size 0 n n (zp g) n cap (gE (af n)) 3 ((p9 D.mem).map (Value.int .i64)) underlying88 (by rw[dU];simp[cU]) (qAB _ _) (by rw[zLm,tP];simp) Jr (by simp[gE,af,tP]) (fun v hv=>by obtain⟨z,_,rfl⟩:=qAT.1 hv;rfl);have hw:(w.alloc (.cells (gE (af n)) 3)).setRow w.heap.size ((gE (af n)).toList.take 0++(p9 D.mem).map (Value.int .i64)++(gE (af n)).toList.drop (0+((p9 D.mem).map (Value.int .i64)).length)).toArray=w.alloc (.cells (gE (p9 D.mem)) 3):=by rw[World.setRow_alloc_new];simp[gE,af,tP]
  rw[hw]at l9;have zqs:Sem.run prog (Builtin.copy_ #[88,88] 3 #[.slice (some (zp w.heap.size)) n n,.slice (zo g) n cap]) (w.alloc (.cells (gE (af n)) 3))=.ok (zi n) (w.alloc (.cells (gE (p9 D.mem)) 3)):=by rw[l9];simp[goInt,tP]
  rw[hn]at c2 tM ma;clear h h1 bf Jr hw l9 hn tP;go_enter func155,ntmps155
  go_wp2_with (at_make;refine rN rfl _ _ 88 rfl i0 underlying88 dU cO cU cV _ _ _ _ n rfl rfl rfl rfl Sg ?_)
  exact zpr
end
theorem Live.pending{w0:World}{p}{D}(h:Live w0 w p S D) :zC 155 #[zq p] w fun e w'=>∃g,e=.returned (.slice (zo g) D.mem.length D.mem.length)/\w.heap.size<=g/\uH w' g (p9 D.mem)/\zB w w':=Oe h.dev
section
open Go.Shelf
def oC(P:Ps):DS:=P.D.bX (List.replicate P.D.mem.length true) (-1) 0
def Bp(m:Nat)(P:Ps):Ps:=⟨(cj (oC P) m).1,(cj (oC P) m).2.1,jP (fun i=>dY (cj (oC P) m).1 (48+i)) m,jP (fun i=>dY (cj (oC P) m).1 (48+i)) m⟩
section
variable {w0 w w':World} {g p m n t x:Nat} {P P':Ps} {F F':Nat->Prop} {b:Addr} {D:DS}
theorem Lf.zm3{s}{K}(h:Lf w0 w p D F)(ry:eo D.secs.length=m)(BJ:1<=m)(kz:m<=200)(hr:yY D m s (prt K))(hK:K.length=32*m)(iF:bZ K)(hf:aD K)(AU:D.left<0) :
  zC 157 #[zq p] w fun e w'=>∃t x,e=zt #[zq t,.nilIface]/\∃F',Tf w0 w' t p x m ⟨(cj D m).1,s,K,K⟩ F'/\au F F' w w':=by
 obtain⟨S,hl,hF⟩:=h;have sW:=Dr hl ry BJ hr.down;have bW:=hl.F7.size;rcases zA hr with ⟨r1,r2,r3,r4,r5⟩|⟨r1,r2,r3,r4,r5⟩
 ·rw[r1,r2,aC]at sW;obtain⟨a,l,Lo⟩:=r4;refine(vj (sW.mono ?_)).mono (fun e w' h=>h.2);rintro e w1 ⟨v,rfl,S1,jC,mS,Aa,_⟩;obtain⟨q,rfl,sl,hq,l5⟩:=Aa (by trivial);refine⟨q,rfl,ae ((pV jC sl l5 Sg (by rw[r3.len];exact ry) kz (by rw[r3.len];exact hr.len) Lo.down hK (fun i hi=>by rw[kK r3.mem];exact r3.eH i hi) iF hf).mono ?_)⟩;rintro e w2 ⟨t,x,g,c,gk,rfl,hs,mi,hb⟩;have gw:=mS.trans (au.aI (S:=S1) hb);have fQ:=mS.size;refine⟨_,_,rfl,ae ⟨t,x,rfl,_,⟨q,S1,g,c,gk,_,by show fO w0 w2 t p q S1 _ s m x g c K gk (32*m) K (cj D m).1.down;rw[Lo.down];exact hs,rfl⟩,⟨gw.os,gw.tape,gw.output,gw.size,fun k hk hn=>gw.block k hk (fun hs=>hn (hF k hs)),fun k hk Lw=>?_⟩⟩⟩;rcases Lw with (Lw | Lw) | Lw
  ·exact hF k (gw.bA k hk Lw)
  ·omega
  ·have:=mi k Lw;omega
 ·exact absurd AU r2
theorem Pz.bX(h:Pz m n P)(hs:P.s<=9999):∃K s,yY (oC P) m s (prt K)/\aD K/\bZ K/\K.length=32*m/\P.s<=s/\s<=P.s+1/\Bp m P=⟨(cj (oC P) m).1,s,K,K⟩/\P.D.Ok/\(oC P).secs.length=n/\Pu m n (Bp m P):=by
 have key:∀K s,yY (oC P) m s (prt K)->K.length=32*m->Bp m P=⟨(cj (oC P) m).1,s,K,K⟩/\∃a nl,Nt (cj (oC P) m).1 m s (prt K) a nl/\(cj (oC P) m).1.secs.length=(oC P).secs.length:=fun K s hr hK=>by
  rcases zA hr with ⟨r1,r2,r3,r4,r5⟩|⟨r1,r2,r3,r4,r5⟩
  ·have e:jP (fun i=>dY (cj (oC P) m).1 (48+i)) m=K:=by rw[tK m (fun i hi=>r3.eH i hi)];exact BC hK
   obtain⟨a,nl,hn⟩:=r4;refine⟨?_,a,nl,hn,r3.len⟩;unfold Bp;rw[r2,e]
  ·exact absurd (show(oC P).left<0 by show(-1:Int)<0;decide) r2
 have hlen:∀D:DS,D.Ok->(D.bX (List.replicate D.mem.length true) (-1) 0).secs.length=D.secs.length:=fun D _=>fK _ _ _ _ _ _
 rcases h with h|⟨N,h⟩
 ·obtain⟨a0,nl0,Lr⟩:=h.nt;have hr:yY (oC P) m P.s (prt P.K):=h.opens _ _ _;obtain⟨e,a,nl,hn,lE⟩:=key P.K P.s hr h.lk;have hl:=(hlen P.D Lr.ok).trans h.sn;exact⟨P.K,P.s,hr,h.fk,h.bk,h.lk,qBA _,Sg,e,Lr.ok,hl,by rw[e];exact⟨⟨a,nl,hn⟩,h.fk,h.fk,h.bk,h.bk,h.lk,h.lk,lE.trans hl⟩⟩
 ·obtain⟨K,s,_,hr,hfK,hbK,hK,h1,h2⟩:=h.opens (List.replicate P.D.mem.length true) (-1) (c:=0) Sg;obtain⟨e,a,nl,hn,lE⟩:=key K s hr hK;have hl:=(hlen P.D h.ok).trans h.sn;exact⟨K,s,hr,hfK,hbK,hK,h1,h2,e,h.ok,hl,by rw[e];exact⟨⟨a,nl,hn⟩,hfK,hfK,hbK,hbK,hK,hK,lE.trans hl⟩⟩
theorem Mz.bls(h:Mz w g k k)(hk:k<=10000):Bls w (zo g) k (List.replicate k true):=by refine⟨by rw[qBW];exact zNr,by rw[qBW];omega,fun _=>⟨g,0,rfl,fun i hi=>?_⟩⟩;rw[qBW]at hi;rw[qAl,qAC,qBx,zy hi];exact h.cell hi
theorem au.wide{S':Nat->Prop}(h:au S S' w w'):au (sF S g) (sF S' g) w w':=⟨h.os,h.tape,h.output,h.size,fun k hk hn=>h.block k hk (fun hf=>hn (.inl hf)),fun k hk hf=>by
 rcases hf with hf|hf
 ·exact .inl (h.bA k hk hf)
 ·exact .inr hf⟩
theorem NC(hs:uU w0 w g p m P F)(hz:Pz m n P)(hS:P.s<=9999)(ry:eo n=m)(BJ:1<=m)(kz:m<=200):zC 102 #[zq g] w (zr .nilIface fun w'=>wC w0 w g p m (Bp m P) F w'):=by
 obtain⟨K,s,hr,hfK,hbK,hK,h1s,h2s,TW,jB,lE,hpu⟩:=hz.bX hS;have tM:=jB.ki;have eh:zB w (w.alloc (.cells #[.bool true] 4)):=zBr.alloc zNr _;obtain⟨w1,e1⟩:∃x,w.alloc (.cells #[.bool true] 4)=x:=⟨_,rfl⟩;have z0:w1.cell? (zp w.heap.size)=some (.bool true):=by rw[<-e1];simp
 rw[e1]at eh;have aB:=hs.lt;obtain⟨t,x,k1,k2,k3,k4⟩:=hs;have HKE:=ae (fun(W:World) (hW:zB w W)=>And.intro (show W.heap[g]?=some (.cells #[zq p,zq t] 104 (0,0)) by rw[hW.block g aB];exact k1) (k2.below hW));have q1:=(HKE w1 eh).1;have s0:w1.cell? (zp g)=some (zq p):=by rw[Go.Lib.cell_of_heap q1];rfl
 have s9:(w.alloc (.cells #[.bool true] 4)).cell? (zp g)=some (zq p):=by rw[e1];exact s0
 obtain⟨S1,jC,zqG⟩:=(HKE w1 eh).2.dev;have HP:=ae jC.pending;have HZ0:=ae z0;have Hy:=ae (fun k hk=>k2.lt k hk);have JW:=ae (And.intro k3 k4);have oF:=ae eh;have Hw:=ae (fun(W:World) (F':Nat->Prop) (hL:Lf w0 W p (oC P) F')=>hL.zm3 (by rw[lE];exact ry) BJ kz hr hK hbK hfK (show(-1:Int)<0 by decide));have HPS:=ae TW;have RI:Hid (oC P=P.D.bX (List.replicate P.D.mem.length true) (-1) (jW (-1))):=ae rfl;have jF:=ae e1;clear TW hr hfK hbK hK h1s h2s jB lE hpu eh e1 k1 k2 k3 k4 q1 jC zqG hz;generalize hM:P.D.mem.length=M at*;have HM:=ae hM;clear hM;go_enter func102,ntmps102
 go_wp2_with fail
 rw[aa jF];clear jF s9;refine HP.mono ?_;rintro e w2 ⟨gp,rfl,hgp,_,aK⟩;have dr:=zTs oF aK;have HRP:=ae (SO M Sg w.heap.size w2 (aP HZ0 aK));have bz:=ae dr;have gN:=dr.size;clear HP hgp aK dr HZ0 oF;go_wp2_with fail
 refine HRP.mono ?_;rintro e w3 ⟨gr,rfl,hgr,o4,bD⟩;have mr:=zTs bz bD;obtain⟨q3,hT3⟩:=HKE w3 mr;have s3:w3.cell? (zp g)=some (zq p):=by rw[Go.Lib.cell_of_heap q3];rfl
 have He:=hT3.dev.bX (-1) (-1) (keep:=List.replicate M true) ⟨o4.bls Sg,fun _ y hy hf=>by simp only[qAQ]at hy;subst hy;have:=Hy _ hf;dsimp only at this;omega⟩;have Gy:=aa RI;rw[qBW]at He;rw[<-Gy]at He;have HC:=ae He;have HQ3:=ae (And.intro q3 mr);have znP:g<w3.heap.size:=(zAg q3).1;clear He Gy o4 bD mr q3 hT3 HRP bz HKE RI hgr;go_wp2_with fail
 refine HC.m ?_;rintro w4 ⟨F4,uT,hU4⟩;have q4:w4.heap[g]?=some (.cells #[zq p,zq t] 104 (0,0)):=by rw[hU4.block g znP JW.1];exact HQ3.1
 have s4:w4.cell? (zp g)=some (zq p):=by rw[Go.Lib.cell_of_heap q4];rfl
 have hn4:¬F4 g:=fun hf=>JW.1 (hU4.bA g znP hf)
 have HO:=ae (Hw w4 F4 uT);have HU4:=ae (And.intro hU4 q4);have znO:g<w4.heap.size:=(zAg q4).1;clear HC Hw uT hU4 q4 s3;go_wp2_with fail
 refine HO.mono ?_;rintro e w5 ⟨t',x',rfl,F5,hT5,hU5⟩;have q5:w5.heap[g]?=some (.cells #[zq p,zq t] 104 (0,0)):=by rw[hU5.block g znO hn4];exact HU4.2
 have s5:w5.cell? (zw g 1)=some (zq t):=by rw[Go.Lib.cell_of_heap q5];rfl
 have f5:w5.frozen? (zw g 1)=false:=Go.Lib.frozen_of_heap q5 1;have hn5:¬F5 g:=fun hf=>hn4 (hU5.bA g znO hf)
 have htS:au (fun k=>k=g) (fun k=>k=g) w5 (w5.setCell (zw g 1) (zq t')):=au.setCell w5 _ rfl;have hT6:=hT5.other htS (fun k hk e=>hn5 (by rw[<-e];exact hk)) (fun k hk=>by rw[hk];exact JW.2);have HE:Hid (wC w0 w g p m (Bp m P) F (w5.setCell (zw g 1) (zq t'))):=ae (by refine⟨F5,⟨t',x',heap_set q5 _,by rw[aa HPS];exact hT6,hn5,JW.2⟩,?_⟩;have u1:au (sF F g) (sF F g) w w3:=au.aI HQ3.2;have u2:au (sF F g) (sF F4 g) w3 w4:=HU4.1.wide;have u3:au (sF F4 g) (sF F5 g) w4 w5:=hU5.wide;have u4:au (sF F5 g) (sF F5 g) w5 (w5.setCell (zw g 1) (zq t')):=au.setCell w5 _ (.inr rfl);exact u1.trans (u2.trans (u3.trans u4)));clear HO hT5 hU5 q5 hn5 htS hT6 HU4 HQ3 s4;exact zjc
