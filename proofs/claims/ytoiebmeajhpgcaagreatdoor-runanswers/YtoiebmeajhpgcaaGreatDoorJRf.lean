import Derived.Test.YtoiebmeajhpgcaaGreatDoorJRe
import Derived.OrdersHeld
set_option maxRecDepth 100000
set_option maxHeartbeats 16000000
set_option linter.all false
namespace Go.Proofs.YtoiebmeajhpgcaaGreatDoor
variable {s r f:BA}{v u:Int}{o o':Od}{ws:List BA}{w w0 w':World}{an:OA}{cn m g p n:Nat}{L l:LI}{b:Addr}{P:Ps}{F:Nat->Prop}
open Tryz
open Go.RowKit
section
open Go.Shelf
section
variable {w0 w w':World} {g p m n t x:Nat} {P P':Ps} {F F':Nat->Prop} {b:Addr}
theorem zek(hw:sL w0 b)(hs:uU w0 w g p m P F) an nl cn nm a bl c(hz:Pz m n P)(hS:P.s<=9999)(ry:eo n=m)(BJ:1<=m)(kz:m<=200) :
  zC 52 #[zq g,.agg #[.string e7,.slice an nl cn,.string nm,.slice a bl c]] w (zr (.string (nJ 0)) fun w'=>wC w0 w g p m (Bp m P) F w'):=by
 obtain⟨w1,t,x,jF,eh,z0,z1,z2,z3,s0,s1,HH,HX,re,HN,oL⟩:=kW hw hs (.string e7) (.slice an nl cn) (.string nm) (.slice a bl c);have HSS:=ae (fun q=>(hs.below eh).below (below_drewN (Below.refl _ w1) q));have HOV:=ae (fun q W(h:wC w0 (w1.drewN q) g p m (Bp m P) F W)=>wC.over eh (wC.over (below_drewN (Below.refl _ w1) q) h (hs.below eh).bA) hs.bA);unfold e7 at*;go_enter func52,ntmps52
 go_wp2_with fail
 rw[aa jF];go_quiet ((go_at_call 87;exact Calls.quiet_of_same (HH _)))
 have HF:=ae (NC (HSS nq) hz hS ry BJ kz);go_wp2_with fail
 refine HF.m ?_;intro w2 hq;have pP:=ae (HOV nq w2 hq);have lJ:=ae (oL w2 (by obtain⟨F',TU,_⟩:=hq;exact TU.base));have HT:=ae (jI 0 b w2 lJ.bd lJ.et);rw[yN]at HT;go_wp2_with fail
 refine HT.m ?_;intro w3 bD;have yd:=ae (pP.below bD);exact zjJ
end
def yU(v:Int):Prop:=-999999999<=v/\v<=999999999
theorem KI(h:rdN s=some v):yU v:=by
 unfold rdN at h;split at h
 ·split at h
  ·rename_i hc
   injection h with h
   subst h;exact⟨hc.2.1,hc.2.2⟩
  ·cases h
 ·cases h
theorem oR(h:tkO 78 s o=some o'):∃v,yU v/\o'={ o with cz:=o.cz++[v]}:=by
 cases hq:rdN s with
 | none=>rw[Ka hq]at h;cases h
 | some v =>
  rw[R7 hq]at h
  injection h with h
  exact⟨v,KI hq,h.symm⟩
theorem zfG(h:tkO 72 s o=some o'):∃l,Mr s=some l/\o'={ o with body:=l }:=by
 cases hq:Mr s with
 | none=>rw[Kb hq]at h;cases h
 | some l =>
  rw[R8 hq]at h
  injection h with h
  exact⟨l,rfl,h.symm⟩
theorem MV(h:tkO 65 s o=some o'):o'={ o with name:=s }:=by
 rw[Vm]at h
 injection h with h
 exact h.symm
theorem gH{i}(h:uN r f ws (i+1)=some o):∃o1,uN r f ws i=some o1/\tkO ((f.data.toList.getD i 0).toNat) (ws.getD i ⟨#[]⟩) o1=some o:=by
 change (match uN r f ws i with | some o=>tkO ((f.data.toList.getD i 0).toNat) (ws.getD i ⟨#[]⟩) o | none=>none)=some o at h;cases hq:uN r f ws i with
 | none=>rw[hq]at h;cases h
 | some o1=>rw[hq]at h;exact⟨o1,rfl,h⟩
theorem lR(h:uN r f ws 0=some o):o=⟨r,[],⟨#[]⟩,[]⟩:=(zOi h).symm
theorem mU(h:uN r ⟨#[]⟩ ws 0=some o):o=⟨r,[],⟨#[]⟩,[]⟩:=lR h
theorem zdX(h:uN r ⟨#[78]⟩ ws 1=some o):∃v,yU v/\o=⟨r,[v],⟨#[]⟩,[]⟩:=by obtain⟨o0,h0,h1⟩:=gH h;obtain rfl:=lR h0;obtain⟨v,hv,rfl⟩:=oR h1;exact⟨v,hv,rfl⟩
theorem zhA(h:uN r ⟨#[78,78]⟩ ws 2=some o):∃v u,yU v/\yU u/\o=⟨r,[v,u],⟨#[]⟩,[]⟩:=by obtain⟨o1,h1,h2⟩:=gH h;obtain⟨o0,h0,h1⟩:=gH h1;obtain rfl:=lR h0;obtain⟨v,hv,rfl⟩:=oR h1;obtain⟨u,hu,rfl⟩:=oR h2;exact⟨v,u,hv,hu,rfl⟩
theorem zdV(h:uN r ⟨#[78,78,78]⟩ ws 3=some o):∃v u z,yU v/\yU u/\yU z/\o=⟨r,[v,u,z],⟨#[]⟩,[]⟩:=by obtain⟨o2,h2,h3⟩:=gH h;obtain⟨o1,h1,h2⟩:=gH h2;obtain⟨o0,h0,h1⟩:=gH h1;obtain rfl:=lR h0;obtain⟨v,hv,rfl⟩:=oR h1;obtain⟨u,hu,rfl⟩:=oR h2;obtain⟨z,hz,rfl⟩:=oR h3;exact⟨v,u,z,hv,hu,hz,rfl⟩
theorem zdW(h:uN r ⟨#[78,78,72]⟩ ws 3=some o):∃v u l,yU v/\yU u/\o=⟨r,[v,u],⟨#[]⟩,l⟩:=by obtain⟨o2,h2,h3⟩:=gH h;obtain⟨o1,h1,h2⟩:=gH h2;obtain⟨o0,h0,h1⟩:=gH h1;obtain rfl:=lR h0;obtain⟨v,hv,rfl⟩:=oR h1;obtain⟨u,hu,rfl⟩:=oR h2;obtain⟨l,_,rfl⟩:=zfG h3;exact⟨v,u,l,hv,hu,rfl⟩
theorem zhB(h:uN r ⟨#[65,78]⟩ ws 2=some o):∃v,yU v/\o=⟨r,[v],ws.getD 0 ⟨#[]⟩,[]⟩:=by obtain⟨o1,h1,h2⟩:=gH h;obtain⟨o0,h0,h1⟩:=gH h1;obtain rfl:=lR h0;obtain rfl:=MV h1;obtain⟨v,hv,rfl⟩:=oR h2;exact⟨v,hv,rfl⟩
theorem zdY(h:uN r ⟨#[65]⟩ ws 1=some o):o=⟨r,[],ws.getD 0 ⟨#[]⟩,[]⟩:=by obtain⟨o0,h0,h1⟩:=gH h;obtain rfl:=lR h0;obtain rfl:=MV h1;rfl
def rl(m:Nat)(P:Ps)(o:Od):Ps×BA :=
 if o.row=oN then ({ P with L:=iq P.L (o.cz.getD 0 0) (o.cz.getD 1 0)},GV (uu P.L (o.cz.getD 0 0) (o.cz.getD 1 0)) (kX P.L (o.cz.getD 0 0) (o.cz.getD 1 0)))
 else if o.row=jr then ({ P with L:=sZ P.L (o.cz.getD 0 0)},nJ (nD P.L (o.cz.getD 0 0)))
 else if o.row=oP then (og P (o.cz.getD 0 0),nJ 0)
 else if o.row=fi then ({ P with L:=uL P.L (o.cz.getD 0 0) (o.cz.getD 1 0) o.body },nJ (mo P.L (o.cz.getD 0 0) (o.cz.getD 1 0) o.body.length))
 else if o.row=iZ then (P,hxV (CT P.L (o.cz.getD 0 0) (o.cz.getD 1 0) (o.cz.getD 2 0)) (mo P.L (o.cz.getD 0 0) (o.cz.getD 1 0) (o.cz.getD 2 0)))
 else if o.row=lN then ({ P with L:=Dj P.L o.name (o.cz.getD 0 0)},noS (Q8 P.L o.name (o.cz.getD 0 0)) (js P.L o.name (o.cz.getD 0 0)))
 else if o.row=fT then ({ P with L:=Gs P.L o.name },nJ (pB P.L o.name))
 else if o.row=oO then (P,GV (BR P.L o.name (-1)) (xW P.L o.name (-1)))
 else if o.row=dN then ((fm m P).1,nJ (fm m P).2)
 else if o.row=fV then ({ P with L:=P.K },nJ 0)
 else if o.row=fU then (P,GV P.s 0)
 else if o.row=e7 then (Bp m P,nJ 0)
 else if o.row=ir then ({ P with L:=sU P.L },GV (tD 288 (dC P.L)) 0)
 else if o.row=e6 then ({ P with L:=swT P.L },GV ((jn P.L 40).length:Int) 0)
 else if o.row=gZ then (P,nsS ((aA P.L).length:Int) (aR (aA P.L)) (aR (aO ((P.L.length:Int)-288) (aA P.L))) (cM 0 (aO ((P.L.length:Int)-288) (aA P.L))) ((aO ((P.L.length:Int)-288) (aA P.L)).length:Int) 0)
 else (P,nJ 0)
theorem Kp m P o(h:o.row=oN):rl m P o=({ P with L:=iq P.L (o.cz.getD 0 0) (o.cz.getD 1 0)},GV (uu P.L (o.cz.getD 0 0) (o.cz.getD 1 0)) (kX P.L (o.cz.getD 0 0) (o.cz.getD 1 0))):=Ur
theorem Ec m P o(h:o.row=jr):rl m P o=({ P with L:=sZ P.L (o.cz.getD 0 0)},nJ (nD P.L (o.cz.getD 0 0))):=Ur
theorem Kr m P o(h:o.row=oP):rl m P o=(og P (o.cz.getD 0 0),nJ 0):=Ur
theorem Bb m P o(h:o.row=fi):rl m P o=({ P with L:=uL P.L (o.cz.getD 0 0) (o.cz.getD 1 0) o.body },nJ (mo P.L (o.cz.getD 0 0) (o.cz.getD 1 0) o.body.length)):=Ur
theorem Ea m P o(h:o.row=iZ):rl m P o=(P,hxV (CT P.L (o.cz.getD 0 0) (o.cz.getD 1 0) (o.cz.getD 2 0)) (mo P.L (o.cz.getD 0 0) (o.cz.getD 1 0) (o.cz.getD 2 0))):=Ur
theorem Ko m P o(h:o.row=lN):rl m P o=({ P with L:=Dj P.L o.name (o.cz.getD 0 0)},noS (Q8 P.L o.name (o.cz.getD 0 0)) (js P.L o.name (o.cz.getD 0 0))):=Ur
theorem Bc m P o(h:o.row=fT):rl m P o=({ P with L:=Gs P.L o.name },nJ (pB P.L o.name)):=Ur
theorem Kq m P o(h:o.row=oO):rl m P o=(P,GV (BR P.L o.name (-1)) (xW P.L o.name (-1))):=Ur
theorem yn m P o(h:o.row=dN):rl m P o=((fm m P).1,nJ (fm m P).2):=Ur
theorem Bh m P o(h:o.row=fV):rl m P o=({ P with L:=P.K },nJ 0):=Ur
theorem Be m P o(h:o.row=fU):rl m P o=(P,GV P.s 0):=Ur
theorem Bg m P o(h:o.row=e7):rl m P o=(Bp m P,nJ 0):=Ur
theorem Eb m P o(h:o.row=ir):rl m P o=({ P with L:=sU P.L },GV (tD 288 (dC P.L)) 0):=Ur
theorem Bd m P o(h:o.row=e6):rl m P o=({ P with L:=swT P.L },GV ((jn P.L 40).length:Int) 0):=Ur
theorem D9 m P o(h:o.row=gZ):rl m P o=(P,nsS ((aA P.L).length:Int) (aR (aA P.L)) (aR (aO ((P.L.length:Int)-288) (aA P.L))) (cM 0 (aO ((P.L.length:Int)-288) (aA P.L))) ((aO ((P.L.length:Int)-288) (aA P.L)).length:Int) 0):=Ur
theorem UQ(h:fF jx 1 w an cn [v]):∃bn on,an=some ⟨bn,on,none⟩/\w.cell? ⟨bn,on,none⟩=some (zi v):=by obtain⟨bn,on,e,hc⟩:=h.2.2.2 Sk;exact⟨bn,on,e,zle⟩
theorem zeB(h:fF jx 1 w an cn [v,u]):∃bn on,an=some ⟨bn,on,none⟩/\w.cell? ⟨bn,on,none⟩=some (zi v)/\w.cell? ⟨bn,on+1,none⟩=some (zi u):=by obtain⟨bn,on,e,hc⟩:=h.2.2.2 Sk;exact⟨bn,on,e,zle,zov⟩
theorem zlt{z:Int}(h:fF jx 1 w an cn [v,u,z]):∃bn on,an=some ⟨bn,on,none⟩/\w.cell? ⟨bn,on,none⟩=some (zi v)/\w.cell? ⟨bn,on+1,none⟩=some (zi u)/\w.cell? ⟨bn,on+2,none⟩=some (zi z):=by obtain⟨bn,on,e,hc⟩:=h.2.2.2 Sk;exact⟨bn,on,e,zle,zov,by have:=hc 2 z rfl 0 _ rfl;simpa using this⟩
theorem zeS L n t:-9223372036854775808<=uu L n t/\uu L n t<=9223372036854775807:=by have:=xe L;unfold uu;split <;> omega
theorem zdO(hf:aD L) s:-9223372036854775808<=BR L s (-1)/\BR L s (-1)<=9223372036854775807:=by
 have:=yB hf s;unfold BR;split
 ·rcases this with h|⟨h1,h2,_⟩ <;> omega
 ·omega
theorem VC(hl:L.length=32*m)(hm:m<=200) h x n:(CT L h x n).length<=6400:=by
 unfold CT;split
 ·exact zcR
 ·simp
structure Ow (w0 w:World) (b:Addr) (g p m n:Nat) (P:Ps) (F:Nat->Prop):Prop where
 GM:sL w0 b
 ss:uU w0 w g p m P F
 pz:Pz m n P
 s0:0<=P.s
 s9:P.s<=9999
 m0:eo n=m
 m1:9<=m
 m2:m<=200
theorem Ow.bC(h:Ow w0 w b g p m n P F):aD P.L/\bZ P.L/\P.L.length=32*m:=by obtain⟨t,x,_,h2,_⟩:=h.ss;exact⟨h2.bC.1,h2.bC.2.1,h2.bC.2.2.1⟩
theorem zlm(h:Ow w0 w b g p m n P F) s(hs:s.size<=3000) o(ho:rdO s=some o) an cn a c(hn:fF jx 1 w an cn o.cz)(hb:Bs w a c o.body) :
  zC 52 #[zq g,odV o an cn a c] w (zr (.string (rl m P o).2) fun w'=>wC w0 w g p m (rl m P o).1 F w'):=by
 obtain⟨sY,Hg,Wh⟩:=h.bC;have kz:=h.m2;have hnm:=fun x hx=>qAF (y8 s x hx) hs
 have xV:(((jZ s).drop 1).getD 0 ⟨#[]⟩).size<=140737488351232:=by
  by_cases hl:0<((jZ s).drop 1).length
  ·rw[qAC,zLg hl];have:=hnm _ (qBF (qAf hl));exact qAF this Si
  ·rw[qAC,qAY Sg];decide
 unfold rdO at ho;obtain⟨r,hr⟩:∃x,(jZ s).getD 0 ⟨#[]⟩=x:=⟨_,rfl⟩;rw[hr]at ho;obtain⟨ws,hws⟩:∃x,(jZ s).drop 1=x:=⟨_,rfl⟩;rw[hws]at ho xV;generalize (jZ s).length=WL at*;obtain⟨f,hf⟩:∃f,qy r=some f:=by
  cases hq:qy r with
  | none=>rw[hq]at ho;cases ho
  | some f=>exact⟨f,rfl⟩
 rw[hf]at ho;dsimp only at ho;have nU:uN r f ws f.size=some o:=by
  by_cases hl:WL=f.size+1
  ·rw[zy hl]at ho;exact ho
  ·rw[zn hl]at ho;cases ho
 unfold qy at hf;by_cases h0:r=oN
 ·rw[zy h0]at hf
  injection hf with hf
  subst hf;subst h0;obtain⟨v,u,hv,hu,rfl⟩:=zhA nU;rw[Kp _ _ _ rfl];obtain⟨bn,on,rfl,d0,d1⟩:=zeB hn;unfold yU at*;exact zlj h.GM h.ss bn on cn _ a _ c v u d0 d1 (zeS _ _ _)
 rw[zn h0]at hf;by_cases h1:r=jr
 ·rw[zy h1]at hf
  injection hf with hf
  subst hf;subst h1;obtain⟨v,hv,rfl⟩:=zdX nU;rw[Ec _ _ _ rfl];obtain⟨bn,on,rfl,d0⟩:=UQ hn;unfold yU at*;exact zhO h.GM h.ss v bn on cn _ c _ a d0
 rw[zn h1]at hf;by_cases h2:r=oP
 ·rw[zy h2]at hf
  injection hf with hf
  subst hf;subst h2;obtain⟨v,hv,rfl⟩:=zdX nU;rw[Kr _ _ _ rfl];obtain⟨bn,on,rfl,d0⟩:=UQ hn;unfold yU at*;exact zll h.GM h.ss bn on cn _ a _ c v d0 Sg
 rw[zn h2]at hf;by_cases h3:r=fi
 ·rw[zy h3]at hf
  injection hf with hf
  subst hf;subst h3;obtain⟨v,u,l,hv,hu,rfl⟩:=zdW nU;rw[Bb _ _ _ rfl];obtain⟨bn,on,rfl,d0,d1⟩:=zeB hn;unfold yU at*;exact zeg h.GM h.ss bn on cn _ a _ c v u d0 d1 l hb rfl Sg
 rw[zn h3]at hf;by_cases h4:r=iZ
 ·rw[zy h4]at hf
  injection hf with hf
  subst hf;subst h4;obtain⟨v,u,z,hv,hu,hz,rfl⟩:=zdV nU;rw[Ea _ _ _ rfl];obtain⟨bn,on,rfl,d0,d1,d2⟩:=zlt hn;unfold yU at*;exact zhM h.GM h.ss bn on cn _ a _ c v u z d0 d1 d2 (zgg Hg _ _ _) (VC Wh kz _ _ _) Sg Sg
 rw[zn h4]at hf;by_cases h5:r=lN
 ·rw[zy h5]at hf
  injection hf with hf
  subst hf;subst h5;obtain⟨v,hv,rfl⟩:=zhB nU;rw[Ko _ _ _ rfl];obtain⟨bn,on,rfl,d0⟩:=UQ hn;unfold yU at*;exact zli h.GM h.ss bn on cn _ a _ c v d0 xV
 rw[zn h5]at hf;by_cases h6:r=fT
 ·rw[zy h6]at hf
  injection hf with hf
  subst hf;subst h6;obtain rfl:=zdY nU;rw[Bc _ _ _ rfl];exact zeh h.GM h.ss an _ cn _ a _ c xV
 rw[zn h6]at hf;by_cases h7:r=oO
 ·rw[zy h7]at hf
  injection hf with hf
  subst hf;subst h7;obtain rfl:=zdY nU;rw[Kq _ _ _ rfl];exact zlk h.GM h.ss an _ cn _ a _ c xV (zdO sY _)
 rw[zn h7]at hf;by_cases h8:r=dN
 ·rw[zy h8]at hf
  injection hf with hf
  subst hf;subst h8;obtain rfl:=mU nU;rw[yn _ _ _ rfl];exact zah h.GM h.ss an _ cn _ a _ c h.s0 (by have:=h.s9;omega) (h.pz.stays h.s9)
 rw[zn h8]at hf;by_cases h9:r=fV
 ·rw[zy h9]at hf
  injection hf with hf
  subst hf;subst h9;obtain rfl:=mU nU;rw[Bh _ _ _ rfl];exact zel h.GM h.ss an _ cn _ a _ c
 rw[zn h9]at hf;by_cases vR:r=fU
 ·rw[zy vR]at hf
  injection hf with hf
  subst hf;subst vR;obtain rfl:=mU nU;rw[Be _ _ _ rfl];exact zej h.GM h.ss an _ cn _ a _ c ⟨h.s0,by have:=h.s9;omega⟩
 rw[zn vR]at hf;by_cases BQ:r=e7
 ·rw[zy BQ]at hf
  injection hf with hf
  subst hf;subst BQ;obtain rfl:=mU nU;rw[Bg _ _ _ rfl];exact zek h.GM h.ss an _ cn _ a _ c h.pz h.s9 h.m0 (by have:=h.m1;omega) h.m2
 rw[zn BQ]at hf;by_cases Fs:r=ir
 ·rw[zy Fs]at hf
  injection hf with hf
  subst hf;subst Fs;obtain rfl:=mU nU;rw[Eb _ _ _ rfl];exact zhN h.GM h.ss an _ cn _ a _ c (qAF pH Si)
 rw[zn Fs]at hf;by_cases Mx:r=e6
 ·rw[zy Mx]at hf
  injection hf with hf
  subst hf;subst Mx;obtain rfl:=mU nU;rw[Bd _ _ _ rfl];exact zei h.GM h.ss an _ cn _ a _ c (qAF (xr _ _) Si)
 rw[zn Mx]at hf;by_cases PO:r=gZ
 ·rw[zy PO]at hf
  injection hf with hf
  subst hf;subst PO;obtain rfl:=mU nU;rw[D9 _ _ _ rfl];have sm:=(Hs.of P.L).zfK sY;have st0:0<=((aA P.L).length:Int)/\((aA P.L).length:Int)<=1000000:=Sg;have st1:0<=(aR (aA P.L))/\(aR (aA P.L))<=1000000:=Sg;have st2:0<=(aR (aO ((P.L.length:Int)-288) (aA P.L)))/\(aR (aO ((P.L.length:Int)-288) (aA P.L)))<=1000000:=Sg;have st3:0<=(cM 0 (aO ((P.L.length:Int)-288) (aA P.L)))/\(cM 0 (aO ((P.L.length:Int)-288) (aA P.L)))<=1000000:=Sg;have st4:0<=((aO ((P.L.length:Int)-288) (aA P.L)).length:Int)/\((aO ((P.L.length:Int)-288) (aA P.L)).length:Int)<=1000000:=Sg;exact zhL h.GM h.ss an _ cn _ a _ c st0 st1 st2 st3 st4
 rw[zn PO]at hf;cases hf
def jf(m:Nat)(P:Ps)(s:BA):Ps×BA:=match rdO s with | some o=>rl m P o | none=>(P,zax)
theorem eJ(h:rdO s=some o):jf m P s=rl m P o:=by unfold jf;rw[h]
theorem r7(h:rdO s=none):jf m P s=(P,zax):=by unfold jf;rw[h]
theorem Ow.below(h:Ow w0 w b g p m n P F)(hb:zB w w'):Ow w0 w' b g p m n P F:=⟨h.GM,h.ss.below hb,h.pz,h.s0,h.s9,h.m0,h.m1,h.m2⟩
theorem UY(h:Ow w0 w b g p m n P F) s(hs:s.size<=3000) :
  zC 12 #[zq g,.string s] w (zr (.string (jf m P s).2) fun w'=>wC w0 w g p m (jf m P s).1 F w'):=by
 have HR:=ae (zb2 (h.GM.below h.ss.base) s hs);have HO:=ae (fun(W:World) (hW:zB w W)=>h.below hW);have HS:=ae (fun(Q:Ps) (W W':World) (hW:zB w W) (hq:wC w0 W g p m Q F W')=>wC.over hW hq h.ss.bA);clear h;cases ho:rdO s with
 | some o =>
  rw[eJ ho];have lJ:Hid (zC 51 #[.string s] w fun e w'=>zB w w'/\∃an cn a c,e=zt #[odV o an cn a c,.nilIface]/\fF jx 1 w' an cn o.cz/\Bs w' a c o.body):=ae (HR.mono (fun e w' hq=>by
   obtain⟨hb,hq|hq⟩:=hq
   ·obtain⟨o',an,cn,a,c,h1,h2,h3,h4⟩:=hq;rw[ho]at h1;obtain rfl:=zOi h1;exact⟨hb,an,cn,a,c,h2,h3,h4⟩
   ·rw[ho]at hq;cases hq.1))
  have HDO:=ae (fun(W:World) (hW:zB w W) (an:OA) (cn:Nat) (a:OA) (c:Nat) (hn:fF jx 1 W an cn o.cz) (hb:Bs W a c o.body)=>zlm (HO W hW) s hs o ho an cn a c hn hb);clear HR HO ho;go_enter func12,ntmps12
  go_wp2_with fail
  refine lJ.mono ?_;rintro e w1 ⟨ay,an,cn,a,c,rfl,hn,vQ⟩;have eh:zB w1 (w1.alloc (.cells #[.string o.row,.slice an o.cz.length cn,.string o.name,.slice a o.body.length c] 112)):=zBr.alloc zNr _;have Rs:=ay.trans (eh.mono ay.size);have HD:=ae (HDO _ Rs an cn a c (hn.below eh) (vQ.below eh));have HBB:=ae Rs;clear ay hn vQ eh Rs HDO lJ;unfold odV at*;go_wp2_with fail
  refine HD.m ?_;intro w3 hq;have HE:=ae (HS _ _ _ HBB hq);clear hq HD;exact zjc
 | none =>
  rw[r7 ho];have lJ:Hid (zC 51 #[.string s] w fun e w'=>zB w w'/\e=.returned (.tuple #[.agg #[.string ⟨#[]⟩,.slice none 0 0,.string ⟨#[]⟩,.slice none 0 0],Hq b])):=ae (HR.mono (fun e w' hq=>by
   obtain⟨hb,hq|hq⟩:=hq
   ·obtain⟨o',an,cn,a,c,h1,_⟩:=hq;rw[ho]at h1;cases h1
   ·exact⟨hb,hq.2⟩))
  have HTB:=ae (fun(W:World) (hW:zB w W)=>za3 b W ((HO W hW).GM.below (HO W hW).ss.base).bd);have fP:=ae (fun(W:World) (hW:zB w W)=>(show wC w0 W g p m P F W from⟨F,(HO W hW).ss,au.refl _ _⟩));clear HR HO ho;unfold Hq at*;go_enter func12,ntmps12
  go_wp2_with fail
  refine lJ.mono ?_;rintro e w1 ⟨ay,rfl⟩;have eh:zB w1 (w1.alloc (.cells #[.string ⟨#[]⟩,.slice none 0 0,.string ⟨#[]⟩,.slice none 0 0] 112)):=zBr.alloc zNr _;have Rs:=ay.trans (eh.mono ay.size);have HT:=ae (HTB _ Rs);have HE0:=ae (HS _ _ _ Rs (fP _ Rs));clear ay eh Rs HTB fP lJ;go_wp2_with fail
  refine HT.m ?_;intro w3 bD;have HE:=ae (HE0.below bD);clear bD HT HE0;exact zjc
theorem ND w:zC 8 #[] w fun e w'=>∃g p F,e=zt #[zq g,.nilIface]/\uU w w' g p 32 (oh 80 32) F:=by
 have HN:=ae (zcy 80 w w zBr Sg Sg);have HC:=ae (fun W q(S:Nat->Prop) (hl:Live w W q S (DS.new 80))=>Xw (m:=32) hl Sg Sg Si);go_enter func8,ntmps8
 go_wp2_with fail
 refine HN.mono ?_;rintro e w1 ⟨p,S,rfl,hl,_,_⟩;have qt:=ae (HC w1 p S hl);go_wp2_with fail
 refine qt.mono ?_;rintro e w2 ⟨t,x,rfl,F,hF⟩;have eh:zB w2 (w2.alloc (.cells #[zq p,zq t] 104)):=zBr.alloc zNr _;have bW:=hF.base.size;have HE:Hid (uU w (w2.alloc (.cells #[zq p,zq t] 104)) w2.heap.size p 32 (oh 80 32) F):=ae ⟨t,x,qAB _ _,hF.below eh,fun hf=>by have:=hF.lt _ hf;omega,bW⟩;clear hF qt eh bW;go_wp2;go_ret2;exact⟨_,p,F,rfl,HE⟩
end
theorem zb5:∀ {k:Nat} {o:Od},uN r f ws k=some o->∀v∈o.cz,yU v
 | 0,o,h=>by rw[lR h];intro v hv;cases hv
 | k+1,o,h=>by
  obtain⟨o1,h1,h2⟩:=gH h;have ih:=zb5 h1;unfold tkO at h2;split at h2
  ·split at h2
   ·rename_i v hv
    injection h2 with h2
    subst h2;intro u hu;rcases zMa hu with hu|hu
    ·exact ih u hu
    ·rw[zMs hu];exact KI hv
   ·cases h2
  ·split at h2
   ·split at h2
    ·injection h2 with h2
     subst h2;exact ih
    ·cases h2
   ·injection h2 with h2
    subst h2;exact ih
theorem zjF(h:rdO s=some o):∀v∈o.cz,yU v:=by
 unfold rdO at h;split at h
 ·split at h
  ·exact zb5 h
  ·cases h
 ·cases h
theorem zdf(h:∀v∈l,yU v) i:yU (l.getD i 0):=by
 rw[qAC];cases hq:l[i]? with
 | none=>exact⟨Si,Si⟩
 | some v=>exact h v (qAs hq)
section
variable {m n:Nat} {P:Ps}
theorem Pz.put(h:Pz m n P)(hf:aD L)(hb:bZ L)(hl:L.length=32*m):Pz m n { P with L:=L }:=by
 rcases h with h|⟨N,h⟩
 ·exact .inl ⟨h.nt,hf,h.fk,hb,h.bk,hl,h.lk,h.sn⟩
 ·exact .inr ⟨N,h.ok,h.down,h.bX,hf,h.fk,h.fn,hb,h.bk,h.bn,hl,h.lk,h.ln,h.sn⟩
theorem Pz.V4(h:Pz m n P){q}(hq:yU q):Pz m n (og P q):=by
 have Zt:-9223372036854775808<=q/\q<=9223372036854775807:=by unfold yU at hq;omega
 rcases h with h|⟨N,h⟩
 ·exact .inl (h.V4 Zt)
 ·exact .inr ⟨N,h.ok.fail Zt,h.down,h.bX,h.fl,h.fk,h.fn,h.bl,h.bk,h.bn,h.ll,h.lk,h.ln,h.sn⟩
def KpZ(m n:Nat)(P Q:Ps):Prop:=Pz m n Q/\P.s<=Q.s/\Q.s<=P.s+1
theorem zbk(h:Pz m n P)(hs:P.s<=9999) o(ho:∀v∈o.cz,yU v):aD (rl m P o).1.L->bZ (rl m P o).1.L->(rl m P o).1.L.length=32*m->KpZ m n P (rl m P o).1:=by
 have same:∀L:LI,aD L->bZ L->L.length=32*m->KpZ m n P { P with L:=L }:=fun L a b c=>⟨h.put a b c,qBA _,zji⟩
 have idn:KpZ m n P P:=⟨h,qBA _,Sg⟩;unfold rl;by_cases h0:o.row=oN
 ·rw[zy h0];exact same _
 rw[zn h0];by_cases h1:o.row=jr
 ·rw[zy h1];exact same _
 rw[zn h1];by_cases h2:o.row=oP
 ·rw[zy h2];exact fun _ _ _=>⟨h.V4 (zdf ho 0),qBA _,zji⟩
 rw[zn h2];by_cases h3:o.row=fi
 ·rw[zy h3];exact same _
 rw[zn h3];by_cases h4:o.row=iZ
 ·rw[zy h4];exact zbK
 rw[zn h4];by_cases h5:o.row=lN
 ·rw[zy h5];exact same _
 rw[zn h5];by_cases h6:o.row=fT
 ·rw[zy h6];exact same _
 rw[zn h6];by_cases h7:o.row=oO
 ·rw[zy h7];exact zbK
 rw[zn h7];by_cases h8:o.row=dN
 ·rw[zy h8];exact fun _ _ _=>h.step hs (6,0,0,0,⟨#[]⟩,[]) (by intro x hx;cases hx)
 rw[zn h8];by_cases h9:o.row=fV
 ·rw[zy h9];exact same _
 rw[zn h9];by_cases vR:o.row=fU
 ·rw[zy vR];exact zbK
 rw[zn vR];by_cases BQ:o.row=e7
 ·rw[zy BQ];intro _ _ _;obtain⟨K,s,_,_,_,_,k5,k6,k7,_,_,k8⟩:=h.bX hs;refine⟨.inl k8,?_,?_⟩ <;> (show _<=_;rw[k7];assumption)
 rw[zn BQ];by_cases Fs:o.row=ir
 ·rw[zy Fs];exact same _
 rw[zn Fs];by_cases Mx:o.row=e6
 ·rw[zy Mx];exact same _
 rw[zn Mx];by_cases PO:o.row=gZ
 ·rw[zy PO];exact zbK
 rw[zn PO];exact zbK
theorem OT(h:Pz m n P)(hs:P.s<=9999) s(hf:aD (jf m P s).1.L)(hb:bZ (jf m P s).1.L)(hl:(jf m P s).1.L.length=32*m):KpZ m n P (jf m P s).1:=by
 cases ho:rdO s with
 | none=>rw[r7 ho];exact⟨h,qBA _,zji⟩
 | some o =>rw[eJ ho]at hf hb hl ⊢;exact zbk h hs o (zjF ho) hf hb hl
end
theorem Ow.next{F':Nat->Prop}(h:Ow w0 w b g p m n P F) s(hs:P.s+1<=9999)(hS:uU w0 w' g p m (jf m P s).1 F'):Ow w0 w' b g p m n (jf m P s).1 F'/\(jf m P s).1.s<=P.s+1:=by
 have hf:aD (jf m P s).1.L/\bZ (jf m P s).1.L/\(jf m P s).1.L.length=32*m:=by obtain⟨t,x,_,h2,_⟩:=hS;exact⟨h2.bC.1,h2.bC.2.1,h2.bC.2.2.1⟩
 obtain⟨k1,k2,k3⟩:=OT h.pz h.s9 s hf.1 hf.2.1 hf.2.2;have:=h.s0;exact⟨⟨h.GM,hS,k1,Sg,Sg,h.m0,h.m1,h.m2⟩,k3⟩
section
open Go.Shelf
def TF(s:BA):BA×BA:=(tx (Go.Lib.cut s.data.toList [10]).1,tx (Go.Lib.cut s.data.toList [10]).2.1)
theorem zj7 s:(TF s).1.size<=s.size:=by
 obtain⟨d⟩:=s;unfold TF Go.Lib.cut;generalize Go.Lib.index d.toList [10]=i
 show(tx _).data.size<=d.size
 split <;> simp only[tx,qBa,zLt,qBv] <;> omega
theorem TE s(h:s.size≠0):(TF s).2.size<s.size:=by
 obtain⟨d⟩:=s;have h':d.size≠0:=h;unfold TF Go.Lib.cut;generalize Go.Lib.index d.toList [10]=i
 show(tx _).data.size<d.size
 split <;> simp only[tx,qBa,zLd,zLc,qBS,qBv] <;> omega
def lnF:Nat->BA->List BA
 | 0,_=>[]
 | k+1,s=>if s.size=0 then []else (TF s).1::lnF k (TF s).2
theorem EX:∀ (k j:Nat) (s:BA),s.size<=k->s.size<=j->lnF k s=lnF j s
 | 0,0,_,_,_=>rfl
 | 0,j+1,s,h,_=>by rw[lnF,lnF,zy Sg]
 | k+1,0,s,_,h=>by rw[lnF,lnF,zy Sg]
 | k+1,j+1,s,h1,h2=>by
  rw[lnF,lnF];by_cases hz:s.size=0
  ·rw[zy hz,zy hz]
  ·have:=TE s hz;rw[zn hz,zn hz,EX k j _ Sg Sg]
def Rg(s:BA):List BA:=lnF s.size s
theorem La(h:s.size=0):Rg s=[]:=by unfold Rg;rw[h];rfl
theorem EW(h:s.size≠0):Rg s=(TF s).1::Rg (TF s).2:=by have:=TE s h;unfold Rg;rw[EX s.size (s.size-1+1) s zNr Sg,lnF,zn h,EX (s.size-1) (TF s).2.size _ Sg zNr]
def lim(x:BA):BA:=if x.size<=3000 then x else ⟨#[]⟩
theorem zkb x:(lim x).size<=3000:=by
 unfold lim;split
 ·assumption
 ·decide
theorem EZ{x}(h:x.size<=3000):lim x=x:=zy h
def zmH:Value->Nat
 | .string s=>s.size
 | _=>0
theorem Y1 n(hn:1<=n) l g w0 b(hw:sL w0 b) s(hs:s.size<=3000)(J:List BA->World->Prop)(hJ:∀pre A B,J pre A->zB A B->J pre B)(hY:∀pre x W,J pre W->pre.length<3000->YieldAt Fence.wide (n-1) prog l #[.string (lim x)] W fun e W'=>e=.returned (.bool true)/\J (pre++[x]) W'/\Below w0.heap.size W W') W(hW:zB w0 W)(hg:W.cell? (zp g)=some (.string s))(h0:J [] W) :
  CallsIn Fence.wide n prog 48 #[.func (.yield l) #[] #[],zq g] W fun e W'=>(∃v,e=.returned v)/\J (Rg s) W':=by
 have HY:=ae hY;have HJ:=ae hJ;have HW:=ae hw;clear hY hJ hw;refine callsIn_of_wp func48 rfl trivial ?_ rfl;simp only[ntmps48,qBa,zLc,qBS,Nat.reduceAdd,Nat.reduceSub,qCG,qCH,qCc,qCP,qAg,qBG]
 gi_wp2
 gi_loopw [3] (fun iv wr=>∃pre r,iv=.string r/\Rg s=pre++Rg r/\pre.length+r.size<=s.size/\J pre wr/\zB w0 wr) (fun iv _=>zmH iv)
 case atStart=>exact⟨[],s,rfl,rfl,by simp,h0,hW⟩
 case round =>
  obtain⟨pre,r,rfl,hp,hl,hJ1,ay⟩:=hrel;by_cases hz:r.size=0
  ·obtain rfl:r=⟨#[]⟩:=by obtain⟨d⟩:=r;have:d=#[]:=Array.eq_empty_of_size_eq_zero hz;rw[this]
   gi_wp2
   go_end0
   refine⟨⟨_,rfl⟩,?_⟩;rw[hp,La hz,qAh];exact hJ1
  ·have t3:r≠⟨#[]⟩:=fun e=>hz (by rw[e];rfl)
   have t4:r.toList.isEmpty=false:=by simpa using gC t3
   have HC:=ae ((qBt (n:=n-1)).2 (zhQ (HW.below ay) r ⟨#[10]⟩ (by omega)));have HN:=ae (EW hz);have aB:=TE r hz;have hle:=zj7 r;have HP:=ae hp;have aQ:=ae ay;have HJ1:=ae (fun W hW=>HJ _ _ W hJ1 hW)
   gi_wp2
   refine⟨trivial,HC.mono ?_⟩;rintro e w1 ⟨rfl,aK⟩;change (TF r).2.size<r.size at aB;have HJ2:=ae (HJ1 _ aK);have bz:=zTr aQ aK;obtain⟨fn,tmps,assign,body,hy,hR⟩:=HY pre (TF r).1 w1 HJ2 (by omega);rw[EZ (by omega)]at hy;have HR:=ae hR;change (Instr.yield l #[Value.string (tx (Go.Lib.cut r.data.toList [10]).1)]).run _ _=_ at hy
   gi_wp2
   refine HR.mono ?_;rintro e W3 ⟨rfl,hJ3,Af⟩;have HJ3:=ae hJ3;have JW:=ae (bz.trans Af)
   gi_wp2
   go_roundw
   case rel=>exact⟨pre++[(TF r).1],(TF r).2,rfl,by rw[aa HP,aa HN,qBO];rfl,by rw[zLa,qBM];omega,HJ3,JW⟩
   case measure=>exact aB
theorem zcX n s w :
  CallsIn Fence.wide n prog 10 #[.string s] w (zr (.func (.func 48) #[] #[.pointer (some (zp w.heap.size))]) fun w'=>w'=w.alloc (.cells #[.string s] 9)):=by
 refine callsIn_of_wp func10 rfl trivial ?_ rfl;simp only[ntmps10,qBa,zLc,qBS,Nat.reduceAdd,Nat.reduceSub,qCG,qCH,qCc,qCP,qAg,qBG]
 gi_wp2
 go_ret;exact Uq
end
theorem oq k:(nJ k).size<=20000:=by
 unfold nJ enS
 repeat' split
 all_goals decide
theorem EI(h:-9223372036854775808<=v/\v<=9223372036854775807) k:(GV v k).size<=20000:=by
 unfold GV;split
 ·exact qAF (gJ v h.1 h.2) Si
 ·exact oq k
theorem zjW q k:(noS q k).size<=20000:=by
 unfold noS;split
 ·cases q <;> decide
 ·exact oq k
theorem I4:∀l:LI,(l.flatMap hxT).length=2*l.length
 | []=>rfl
 | x::l=>by rw[qCB,zLa,I4 l,zLc];show 2+_=_;omega
theorem zkh(h:l.length<=6400) k:(hxV l k).size<=20000:=by
 unfold hxV tQ;split
 ·rw[kI,I4];omega
 ·exact oq k
theorem zjV{a b c d e}(ha:-9223372036854775808<=a/\a<=9223372036854775807)(hb:-9223372036854775808<=b/\b<=9223372036854775807)(hc:-9223372036854775808<=c/\c<=9223372036854775807)(hd:-9223372036854775808<=d/\d<=9223372036854775807)(he:-9223372036854775808<=e/\e<=9223372036854775807) k:(nsS a b c d e k).size<=20000:=by
 unfold nsS jn5;split
 ·have h1:=gJ a ha.1 ha.2;have h2:=gJ b hb.1 hb.2;have h3:=gJ c hc.1 hc.2;have h4:=gJ d hd.1 hd.2;have h5:=gJ e he.1 he.2;have h6:(⟨#[32]⟩:BA).size=1:=rfl;rw[kI];simp only[zLa,bY,h6];omega
 ·exact oq k
theorem zjl(hf:aD P.L)(hl:P.L.length=32*m)(hm:m<=200)(hs:0<=P.s/\P.s<=9999) o:(rl m P o).2.size<=20000:=by
 unfold rl;by_cases h0:o.row=oN
 ·rw[zy h0];dsimp only;exact EI (zeS _ _ _) _
 rw[zn h0];by_cases h1:o.row=jr
 ·rw[zy h1];exact WR
 rw[zn h1];by_cases h2:o.row=oP
 ·rw[zy h2];exact WR
 rw[zn h2];by_cases h3:o.row=fi
 ·rw[zy h3];exact WR
 rw[zn h3];by_cases h4:o.row=iZ
 ·rw[zy h4];dsimp only;exact zkh (VC hl hm _ _ _) _
 rw[zn h4];by_cases h5:o.row=lN
 ·rw[zy h5];dsimp only;exact zjW _ _
 rw[zn h5];by_cases h6:o.row=fT
 ·rw[zy h6];exact WR
 rw[zn h6];by_cases h7:o.row=oO
 ·rw[zy h7];dsimp only;exact EI (zdO hf _) _
 rw[zn h7];by_cases h8:o.row=dN
 ·rw[zy h8];exact WR
 rw[zn h8];by_cases h9:o.row=fV
 ·rw[zy h9];exact WR
 rw[zn h9];by_cases vR:o.row=fU
 ·rw[zy vR];dsimp only;refine EI ?_ _;omega
 rw[zn vR];by_cases BQ:o.row=e7
 ·rw[zy BQ];exact WR
 rw[zn BQ];by_cases Fs:o.row=ir
 ·rw[zy Fs];dsimp only;have:=pH (L:=P.L);refine EI ?_ _;omega
 rw[zn Fs];by_cases Mx:o.row=e6
 ·rw[zy Mx];dsimp only;have:=xr P.L 40;refine EI ?_ _;omega
 rw[zn Mx];by_cases PO:o.row=gZ
 ·rw[zy PO];dsimp only;have sm:=(Hs.of P.L).zfK hf;refine zjV ?_ ?_ ?_ ?_ ?_ _ <;> omega
 rw[zn PO];exact WR
theorem Lb(hf:aD P.L)(hl:P.L.length=32*m)(hm:m<=200)(hs:0<=P.s/\P.s<=9999) s:(jf m P s).2.size<=20000:=by
 cases ho:rdO s with
 | none=>rw[r7 ho];show zax.size<=20000;decide
 | some o=>rw[eJ ho];exact zjl hf hl hm hs o
def xC(m:Nat)(P:Ps)(l:List BA):Ps×LI:=l.foldl (fun a x=>((jf m a.1 (lim x)).1,a.2++c7 (jf m a.1 (lim x)).2++[10])) (P,[])
theorem En m P l x:xC m P (l++[x])=((jf m (xC m P l).1 (lim x)).1,(xC m P l).2++c7 (jf m (xC m P l).1 (lim x)).2++[10]):=by unfold xC;rw[qBb];rfl
