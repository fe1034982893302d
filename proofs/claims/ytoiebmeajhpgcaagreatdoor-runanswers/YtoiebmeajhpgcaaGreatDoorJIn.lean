import Derived.Test.YtoiebmeajhpgcaaGreatDoorJIm
set_option maxRecDepth 100000
set_option maxHeartbeats 16000000
set_option linter.all false
namespace Go.Proofs.YtoiebmeajhpgcaaGreatDoor
variable {l:LI}{k:Nat}
open Tryz
open Go.RowKit
theorem zfJ{h}(hq:ef l.length=true)(h1:1<=h)(h2:h<=40)(ht:aw l h≠0):aX l h=0:=aV.2 ⟨hq,aN.2 ⟨h1,h2⟩,ht⟩
theorem JK(ht:aw l ((k:Int)+1)≠0):entsK l (k+1)=entsK l k++[ao l ((k:Int)+1)]:=by
 show entsK l k++_=_
 rw[zn ht]
theorem P8(ht:aw l ((k:Int)+1)=0):entsK l (k+1)=entsK l k:=by
 show entsK l k++_=_
 rw[zy ht,qAh]
theorem mQ a cap l w(hb:Bs w a cap l)(hq:ef l.length=true) :
  zC 128 #[.slice a l.length cap] w fun e w'=>∃v,e=zt #[v,.nilIface]/\cX xY 4 124 w' w.heap.size v (entsK l 40)/\zB w w':=by
 have HL:=ae (fun W=>dX l.length W);have hl:=cm.1 hq;have HQ:=ae hq;rw[hq]at HL;obtain⟨i0,dU,cO,cU,cV⟩:=qAO O7;have HB:=ae hb;have fC:=hb.2.2.1;go_enter func128,ntmps128
 go_wp2_with (go_at_call 183;refine(HL _).m ?_;rintro w1 rfl)
 go_loopw [4,5] (fun v hv wr=>∃k:Nat,k<=40/\hv=zi ((k:Int)+1)/\cX xY 4 124 wr w.heap.size v (entsK l k)/\zB w wr) (fun _ hv _=>41-(intOf hv).toNat)
 case atStart=>exact zbM
 case round =>
  obtain⟨k,hk,rfl,az,ai⟩:=hrel;obtain⟨va,vm,vc,rfl⟩:=az.shape;by_cases aB:k<40
  ·have aH:=HB.below ai;have HH:=ae (Wn a cap l ((k:Int)+1) wr aH Sg Sg Sg);by_cases ht:aw l ((k:Int)+1)=0
   ·rw[ht]at HH;have HE:=ae (P8 ht);have HO:=ae az;have aJ:=ae ai;go_wp2_with (go_at_call 184;refine HH.m ?_;intro w1 fM;subst fM)
    exact sC
   ·rw[qBZ.2 ht]at HH;have HG:=ae (z8 a cap l ((k:Int)+1) wr aH (zfJ HQ Sg Sg ht));have HE:=ae (JK ht);have jD:=ae (dt l k);have HO:=ae az;have aJ:=ae ai;generalize PA:ao l ((k:Int)+1)=nE at*;obtain⟨x,y,z,t⟩:=nE;unfold kV at HG;dsimp only at HG;go_wp2_with (first|(go_at_call 184;refine HH.m ?_;intro w1 fM;subst fM))
    refine HG.m ?_;intro w1 ay;have ia:=zTs aJ ay;have dr:=ia.alloc ia.size (.cells #[zi x,zi y,zi z,zi t] 124);have dF:=ae (dr.alloc dr.size (.cells #[zi x,zi y,zi z,zi t] 124));have oE:=ae (((HO.below ay).below (zBr.alloc zNr (.cells #[zi x,zi y,zi z,zi t] 124))).below (zBr.alloc zNr (.cells #[zi x,zi y,zi z,zi t] 124)));have bW:=aJ.size;have Ac:=ay.size;have kq:=ae (by have:=qAB (w1.alloc (.cells #[zi x,zi y,zi z,zi t] 124)) (.cells #[zi x,zi y,zi z,zi t] 124);rw[cJ]at this;exact this);exact yi
  ·obtain rfl:k=40:=by omega
   have HO:=ae az;have aJ:=ae ai;go_wp2;go_ret2;exact⟨_,rfl,HO,aJ⟩
def vp(r:(BA×Int)):Value:=.agg #[.string r.1,zi r.2]
def GA(w:World)(g:Nat)(r:(BA×Int)):Prop:=w.heap[g]?=some (.cells #[.string r.1,zi r.2] 134 (0,0))
section
variable {w:World} {g:Nat} {r:(BA×Int)}
theorem GA.lt(h:GA w g r):g<w.heap.size:=(zAg h).1
theorem GA.cells(h:GA w g r):w.cell? (zp g)=some (.string r.1)/\w.cell? (zw g 1)=some (zi r.2):=by simp only[qAD _ _ _ _ _ _ h];exact⟨rfl,rfl⟩
theorem GA.below{w'}{B}(h:GA w g r)(hb:Below B w w')(hg:g<B):GA w' g r:=(hb.block g hg).trans h
end
theorem GA.new(w:World) r:GA (w.alloc (.cells #[.string r.1,zi r.2] 134)) w.heap.size r:=qAB w _
theorem zbN s h(hn:iW s)(h1:1<=h)(h2:h<=40):(splice (af 11) 0 (bH s)).set 10 h=gu (s,h):=by
 have hl:=cE s hn.2.1;have aG:¬kp (s,h)=true:=zmJ;unfold gu;rw[zn aG];have hm:h%256=h:=Sg;have e:splice (af 11) 0 (bH s)=bH s++[0,0,0]:=by unfold splice;rw[List.take_zero,qAg,qAl,hl];rfl
 rw[e,List.set_append_right _ _ Sg,hl];dsimp only;rw[hm];rfl
theorem KB s h w(h0:s.size=0)(hh:h=0) :
  zC 238 #[.agg #[.string s,zi h]] w (Ends w (af 11) .nilIface):=by
 subst hh;obtain⟨i0,hi,cO,cU,cV⟩:=qAO dw;have he:=sy s h0;have qs:=ae (GA.new w (s,0));go_enter func238,ntmps238
 go_wp2_with (at_make;refine bV rfl _ _ 29 rfl i0 underlying29 hi cO cU cV _ _ _ _ 11 rfl rfl rfl rfl Sg ?_;intro w2 fR gN aK;rw[cJ]at fR gN;have gj:=qs.below aK Sk;obtain⟨c0,c1⟩:=gj.cells;have bz:=ae (((Below.refl _ w).alloc zNr _).trans (aK.mono Sk));have Q1:=ae fR)
 go_ret2;have hlen:=ag 11;exact⟨_,11,by rw[hlen];rfl,Q1.bs (cI 11) Si,bz⟩
theorem GN s h w(h0:¬(s.size=0/\h=0))(hh:eC h=false) :
  zC 238 #[.agg #[.string s,zi h]] w (Ends w [] (bc 1)):=by
 rw[aF 1 Si];obtain⟨i0,hi,cO,cU,cV⟩:=qAO dw;have qs:=ae (GA.new w (s,h));have HH:=ae (fun W=>gK h W);rw[hh]at HH;by_cases hs:s.size=0
 ·have he:=sy s hs;have h1:=fun e=>h0 ⟨hs,e⟩
  exact oi
 ·have he:=qk s Sg;exact oi
theorem Nv s h w(hs:s.size<=140737488351232)(hh:eC h=true)(hn:¬iW s) :
  zC 238 #[.agg #[.string s,zi h]] w (Ends w [] (bc 2)):=by
 rw[aF 2 Si];obtain⟨i0,hi,cO,cU,cV⟩:=qAO dw;have qs:=ae (GA.new w (s,h));have HH:=ae (fun W=>gK h W);have yI:=aN.1 hh;have HP:=ae (fun W=>lS s W hs hn);rw[hh]at HH;have uo:s.toList.isEmpty=true\/s.toList.isEmpty=false:=by cases s.toList.isEmpty <;> simp
 rcases uo with he|he
 all_goals
  go_enter func238,ntmps238
  go_wp2_with (first|(at_make;refine bV rfl _ _ 29 rfl i0 underlying29 hi cO cU cV _ _ _ _ 11 rfl rfl rfl rfl Sg ?_;intro w2 fR gN aK;rw[cJ]at fR gN;have gj:=qs.below aK Sk;obtain⟨c0,c1⟩:=gj.cells;have bz:=ae (((Below.refl _ w).alloc zNr _).trans (aK.mono Sk)))|(go_at_call 229;refine(HH _).m ?_;intro w3 qw;subst qw)|(go_at_call 139;refine(HP _).m ?_;intro w4 eU;have fh:=zTr bz eU))
  go_ret2;exact⟨none,0,rfl,eu _,fh⟩
theorem Nu s h w(hh:eC h=true)(hn:iW s) :
  zC 238 #[.agg #[.string s,zi h]] w (Ends w (gu (s,h)) .nilIface):=by
 obtain⟨i0,hi,cO,cU,cV⟩:=qAO dw;have qs:=ae (GA.new w (s,h));have HH:=ae (fun W=>gK h W);have yI:=aN.1 hh;have he:=qk s hn.1;have HP:=ae (fun W=>Ci s W hn.1 hn.2.1 hn.2.2);have xU:=cE s hn.2.1;have Gw:=xy s;have HR:=ae (zbN s h hn yI.1 yI.2);rw[hh]at HH;clear hh hn;generalize bH s=N at*;go_enter func238,ntmps238
 go_wp2_with (first|(at_make;refine bV rfl _ _ 29 rfl i0 underlying29 hi cO cU cV _ _ _ _ 11 rfl rfl rfl rfl Sg ?_;intro w2 fR gN aK;rw[cJ]at fR gN;have gj:=qs.below aK Sk;obtain⟨c0,c1⟩:=gj.cells;have bz:=ae (((Below.refl _ w).alloc zNr _).trans (aK.mono Sk));have Q1:=ae fR;have rF:=ae gj;clear fR aK gj)|(go_at_call 229;refine(HH _).m ?_;intro w3 qw;subst qw))
 refine(HP _).mono ?_;rintro e w4 ⟨g,rfl,hg,hk4,eU⟩;have zkE:=Q1.below eU;have zdC:=rF.below eU rF.lt;have fh:=zTr bz eU;have jT:=hk4.bs Gw Sg;have vK:=ag 11;have l9:Sem.run prog (Builtin.copy_ #[29,29] 3 #[.slice (some ⟨w.heap.size+1,0,none⟩) 11 11,.slice (zo g) 8 8]) w4=.ok (zi 8) (fj w4 (w.heap.size+1) (splice (af 11) 0 N)):=by have:=qJ (P:=prog) w4 29 29 3 underlying29 aT (w.heap.size+1) 0 11 11 (some ⟨w.heap.size+1,0,none⟩) (zo g) N.length (af 11) N Sg (fun _=>rfl) Sg zkE jT;rw[xU]at this;exact this
 have hk5:gz (fj w4 (w.heap.size+1) (splice (af 11) 0 N)) (w.heap.size+1) (splice (af 11) 0 N):=kr zkE _;have il:zB w (fj w4 (w.heap.size+1) (splice (af 11) 0 N)):=e8 _ fh (qBi _);have zn0:GA (fj w4 (w.heap.size+1) (splice (af 11) 0 N)) w.heap.size (s,h):=(qDM w4 _ _ _ Sg).trans zdC;have lE:(splice (af 11) 0 N).length=11:=by rw[length_splice Sg];exact vK
 obtain⟨d0,d1⟩:=zn0.cells;have kS:=hk5.cell 10 Sg;have oI:=hk5.frozen 10;have iE:Hid (bZ (gu (s,h))):=ae (FW _);have HK5:=ae hk5;have oM:=ae il;clear hk4 zkE zdC zn0 hk5 il eU jT fh bz Q1 rF HP c0 c1 Gw;generalize splice (af 11) 0 N=X at*;generalize fj w4 (w.heap.size+1) X=w5 at*;generalize X.getD 10 0=x0 at*;go_wp2;go_ret2;have hk6:=HK5.set 10 h;rw[aa HR]at hk6;have xh:(gu (s,h)).length=11:=by rw[<-aa HR,qAz];exact lE
 exact⟨some ⟨w.heap.size+1,0,none⟩,(gu (s,h)).length,by rw[xh];rfl,hk6.bs iE Sg,oM.setCell Y3 _⟩
theorem Nw r w(hs:r.1.size<=140737488351232) :
  zC 238 #[vp r] w (Ends w (if fA r=0 then gu r else []) (bc (fA r))):=by
 obtain⟨s,h⟩:=r;dsimp only at hs;unfold vp;dsimp only;by_cases h0:kp (s,h)=true
 ·have e:fA (s,h)=0:=by unfold fA;rw[zy h0]
  have e2:gu (s,h)=af 11:=by unfold gu;rw[zy h0]
  rw[e,zy rfl,e2,aC];have:=iP.1 h0;exact KB s h w this.1 this.2
 ·have C5:=fun h=>h0 (iP.2 h)
  cases hh:eC h with
  | false =>
   have e:fA (s,h)=1:=by unfold fA;rw[zn h0,zy hh]
   rw[e,zn Si];exact GN s h w C5 hh
  | true =>
   by_cases hn:dG s=true
   ·have e:fA (s,h)=0:=by unfold fA;rw[zn h0,zn zfA,zy hn]
    rw[e,zy rfl,aC];exact Nu s h w hh (cL.1 hn)
   ·have e:fA (s,h)=2:=by unfold fA;rw[zn h0,zn zfA,zn hn]
    rw[e,zn Si];exact Nv s h w hs hh (fun h=>hn (cL.2 h))
theorem zjM b(len cap:Nat) i s h w(hb:len<=140737488351232)(hq:ef len=false) :
  zC 201 #[.slice b len cap,zi i,.agg #[.string s,zi h]] w (Ends w [] (bc 3)):=by
 rw[aF 3 Si];have HL:=ae (fun W=>dX len W);rw[hq]at HL;go_enter func201,ntmps201
 go_wp2_with (go_at_call 183;refine(HL _).m ?_;rintro w1 rfl)
 exact zms
theorem zcf b(len cap:Nat) i s h w(hb:len<=140737488351232)(hq:ef len=true)(hi:i<0\/7<i) :
  zC 201 #[.slice b len cap,zi i,.agg #[.string s,zi h]] w (Ends w [] (bc 1)):=by
 rw[aF 1 Si];have HL:=ae (fun W=>dX len W);have HI:=ae (fun W=>vG i W);rw[hq]at HL;have hp:Oc i=false:=by unfold Oc;rw[qCj,qAt,qAt];omega
 rw[hp]at HI;go_enter func201,ntmps201
 go_wp2_with (first|(go_at_call 183;refine(HL _).m ?_;rintro w1 rfl)|(go_at_call 237;refine(HI _).m ?_;rintro w1 rfl))
 exact zms
theorem zjL b cap L(i:Nat) r w(aH:Bs w b cap L)(hq:ef L.length=true)(hi:i<=7)(hs:r.1.size<=140737488351232) :
  zC 201 #[.slice b L.length cap,zi i,.agg #[.string r.1,zi r.2]] w (Ends w (if fA r=0 then splice L (200+11*i) (gu r)else []) (bc (fA r))):=by
 have HL:=ae (fun W=>dX L.length W);have hlen:=cm.1 hq;have ja:=ae (Nw r (w.alloc (.cells #[.string r.1,zi r.2] 134)) hs);have HRL:=ae (fun h=>vo (r:=r) h);have HP:=ae (fun W=>tu i W Sg);have bD:=aH.2.2.1;have qp:=ae aH;have iX:Hid (zB w (w.alloc (.cells #[.string r.1,zi r.2] 134))):=ae (zBr.alloc zNr _);have HI:=ae (fun W=>vG i W);have hp:Oc i=true:=by unfold Oc;rw[qAa,qAK,qAK];omega
 rw[hp]at HI;rw[hq]at HL;clear hp;unfold vp at ja;generalize gu r=R,fA r=c at*;by_cases hc:c=0
 ·subst hc;rw[zy rfl]at ja ⊢;rw[aC]at ja ⊢;have xh:=HRL rfl;have HW:=ae (fun W ra rc h5 h6=>DK b cap L (200+11*i) ra rc R W h5 h6 (by intro e;rw[e]at xh;simp at xh) Sg);have Db:=ae (length_splice (z:=L) (l:=R) (off:=200+11*i) Sg);rw[xh]at HW;generalize 200+11*i=p at*;go_enter func201,ntmps201
  go_wp2_with (first|(go_at_call 183;refine(HL _).m ?_;rintro w1 rfl)|(go_at_call 237;refine(HI _).m ?_;rintro w1 rfl))
  refine ja.mono ?_;rintro e w2 ⟨a2,c2,rfl,gy,aK⟩;have dr:=zTs iX aK;have CO:=ae (HW w2 a2 c2 (qp.below dr) gy);have bz:=ae dr;rw[xh];go_wp2_with (go_at_call 192;refine(HP _).m ?_;intro w3 qw;subst qw)
  refine CO.mono ?_;rintro e w4 ⟨a4,c4,rfl,jT,eU⟩;have fh:=zTr bz eU;have Gp:=ae jT;go_wp2;go_ret2;exact⟨a4,c4,zg4,Gp,fh⟩
 ·rw[zn hc]at ja ⊢;rw[aF _ hc]at ja ⊢;go_enter func201,ntmps201
  go_wp2_with (first|(go_at_call 183;refine(HL _).m ?_;rintro w1 rfl)|(go_at_call 237;refine(HI _).m ?_;rintro w1 rfl))
  refine ja.mono ?_;rintro e w2 ⟨a2,c2,rfl,gy,aK⟩;have bz:=zTr iX aK;go_wp2;go_ret2;exact⟨none,0,rfl,eu _,bz⟩
theorem Lg b cap L i r w(aH:Bs w b cap L)(hs:r.1.size<=140737488351232) :
  zC 201 #[.slice b L.length cap,zi i,vp r] w (Ends w (rn L i r) (bc (EA L i r))):=by
 have hl:=aH.2.2.1;unfold vp;cases hq:ef L.length with
 | false =>
  have e:EA L i r=3:=by unfold EA;rw[zy hq]
  have e2:rn L i r=[]:=zil;rw[e,e2];exact zjM b L.length cap i r.1 r.2 w hl hq
 | true =>
  by_cases hi:i<0\/7<i
  ·have e:EA L i r=1:=by unfold EA;rw[zn zab,zy hi]
   have e2:rn L i r=[]:=zil;rw[e,e2];exact zcf b L.length cap i r.1 r.2 w hl hq hi
  ·have e:EA L i r=fA r:=by unfold EA;rw[zn zab,zn hi]
   obtain⟨I,rfl⟩:=qAN (show 0<=i by omega);unfold rn;rw[e,zTn];exact zjL b cap L I r w aH hq Sg hs
theorem SC c w:zC 194 #[.int .u8 c] w (zr (.bool (c != 0)) fun w'=>w=w'):=by
 go_enter func194,ntmps194
 exact Tt
theorem G5 a cap l w(aH:Bs w a cap l) :
  zC 234 #[.slice a l.length cap,.func (.func 194) #[] #[]] w (zr (zi (im l)) fun w'=>w=w'):=by
 have hl:=aH.2.2.1;have HN:=ae (fun k=>CA (l:=l) (k:=k));have HM:=ae (Cz (l:=l));generalize im l=F at*;go_enter func234,ntmps234
 go_wp2
 go_loop [5,8] (fun _ i=>∃k:Nat,k<=l.length/\i=zi k/\∀j,j<k->(l.getD j 0 != 0)=false) (fun _ i=>l.length-(intOf i).toNat)
 case atStart=>exact YR
 case round =>
  obtain⟨k,hk,rfl,bQ⟩:=hrel;have HA:=bQ;by_cases aB:k<l.length
  ·obtain⟨b,off,rfl,bf⟩:=aH.at k aB;have HC:=ae (SC (l.getD k 0) w);have HK:=ae (HN k aB);have HF:=ae (fun h=>cd.step (f:=fun j=>(l.getD j 0 != 0)) HA h);generalize l.getD k 0=c at*;cases hb:(c != 0)
   ·rw[hb]at HC;have HS:=ae (HF hb);go_wp2_with (go_at_call 194;refine HC.mono ?_;rintro e w' ⟨rfl,rfl⟩)
    exact OX
   ·rw[hb]at HC;have HS:=ae (HK hb HA);go_wp2_with (go_at_call 194;refine HC.mono ?_;rintro e w' ⟨rfl,rfl⟩)
    go_ret;exact⟨by rw[aa HS];rfl,rfl⟩
  ·exact Pl
theorem LY a cap l w(aH:Bs w a cap l) :
  zC 193 #[.slice a l.length cap,.func (.func 194) #[] #[]] w (zr (.bool (isRoot l)) fun w'=>w=w'):=by
 have HI:=ae (G5 a cap l w aH);have hv:im l=-1/\isRoot l=false\/0<=im l/\isRoot l=true:=by
  unfold im;cases isRoot l with
  | true=>rw[zy rfl];exact .inr ⟨Sg,rfl⟩
  | false=>rw[zn Sk];exact .inl ⟨rfl,rfl⟩
 exact DC
theorem XI:(prog.info? 134).map (·.size)=some 2:=SQ
theorem GA.set{w}{g}{r}(h:GA w g r) s x:GA ((w.setCell (zp g) (.string s)).setCell (zw g 1) (zi x)) g (s,x):=by have h1:=qAI w g 0 _ _ (.string s) h;exact qAI _ g 1 _ _ (zi x) h1
theorem SE a cap r w(hb:Bs w a cap r)(BQ:r.length=11) :
  zC 195 #[.slice a 11 cap] w (zr (.agg #[.string (rootOf r).1,zi (rootOf r).2]) fun w'=>zB w w'):=by
 have gT:zB w (w.alloc (.cells #[.string { data:=#[]},zi 0] 134)):=zBr.alloc zNr _;have ay:=hb.below gT;obtain⟨a',hhi,aK⟩:=jK (P:=prog) (t:=29) underlying29 aT ay 8 Sg;rw[BQ,show((8:Nat):Int)=8 from rfl]at hhi;have h8:(r.take 8).length=8:=VW;have HG:=ae (Cy a' cap (r.take 8) _ aK);rw[h8]at HG;have HN:=ae (GA.new w (({ data:=#[]}:BA),0));have qp:=ae hb;have iX:=ae gT;unfold rootOf;dsimp only;generalize (bI (r.take 8)).1=s,(bI (r.take 8)).2=c at*;generalize hx:r.getD 10 0=x;have HX:=ae hx;go_enter func195,ntmps195
 go_wp2_with fail
 refine HG.m ?_;intro w1 ay;have jl:=HN.below ay Sk;obtain⟨c0,c1⟩:=jl.cells;have f0:=qAd _ _ 0 _ _ jl;have f1:=qAd _ _ 1 _ _ jl;have ia:=zTs iX ay;have kT:=qp.below ia;obtain⟨b,off,rfl,bf⟩:=kT.at 10 Sg;have iT:=kT.1.getD 10;have ja:=ae jl;have aQ:=ae ia;dsimp only at c0 c1;rw[aa HX]at bf iT;go_wp2;refine qBV (qDO rfl _ _ w.heap.size 134 _ (0,0) _ rfl (ja.set s x) underlying134 rfl (by rw[XI];rfl)) rfl ?_;exact⟨rfl,(aQ.setCell zNr _).setCell zNr _⟩
theorem El(ht:isRoot (rowAt l k)=true):aE l (k+1)=aE l k++[rootOf (rowAt l k)]:=by
 show aE l k++_=_
 rw[zy ht]
theorem IA(ht:isRoot (rowAt l k)=false):aE l (k+1)=aE l k:=by
 show aE l k++_=_
 rw[zn (by rw[ht];simp),qAh]
theorem yD a cap l w(hb:Bs w a cap l)(hq:ef l.length=true) :
  zC 134 #[.slice a l.length cap] w fun e w'=>∃v,e=zt #[v,.nilIface]/\cX Dl 2 134 w' w.heap.size v (aE l 8)/\zB w w':=by
 have HL:=ae (fun W=>dX l.length W);have hl:=cm.1 hq;rw[hq]at HL;clear hq;obtain⟨i0,dU,cO,cU,cV⟩:=qAO Jb;have HB:=ae hb;have fC:=hb.2.2.1;clear hb;go_enter func134,ntmps134
 go_wp2_with (go_at_call 183;refine(HL _).m ?_;rintro w1 rfl)
 go_loopw [4,12] (fun v hv wr=>∃k:Nat,k<=8/\hv=zi k/\cX Dl 2 134 wr w.heap.size v (aE l k)/\zB w wr) (fun _ hv _=>8-(intOf hv).toNat)
 case atStart=>exact zbM
 case round =>
  obtain⟨k,hk,rfl,az,ai⟩:=hrel;obtain⟨va,vm,vc,rfl⟩:=az.shape;by_cases aB:k<8
  ·have aH:=HB.below ai;have nh:=ae (tu k wr Sg);have Gg:=ae (tu (k+1) wr Sg);have ek:((k+1:Nat):Int)=(k:Int)+1:=by omega
   rw[ek]at Gg;obtain⟨a',hlh,aK⟩:=dP (P:=prog) (t:=29) underlying29 aT aH (200+11*k) (200+11*(k+1)) Sg Sg;have e11:200+11*(k+1)-(200+11*k)=11:=Sg;rw[e11]at hlh aK;have Fe:(rowAt l k).length=11:=aY Sg;have HC:=ae (LY a' (cap-(200+11*k)) (rowAt l k) wr aK);have HR:=ae (SE a' (cap-(200+11*k)) (rowAt l k) wr aK Fe);rw[Fe]at HC;have HO:=ae az;have aJ:=ae ai;generalize 200+11*(k+1)=p2,200+11*k=p1 at*;by_cases ht:isRoot (rowAt l k)=true
   ·rw[ht]at HC;have HE:=ae (El ht);have jD:=ae (iO l k);clear ht;generalize PA:rootOf (rowAt l k)=nE at*;clear PA;obtain⟨s,x⟩:=nE;dsimp only at HR;go_wp2_with (first|(go_at_call 192;refine nh.m ?_;intro w1 fM;subst fM)|(go_at_call 192;refine Gg.m ?_;intro w1 fM;subst fM)|(go_at_call 193;refine HC.m ?_;intro w1 fM;subst fM))
    refine HR.m ?_;intro w1 ay;have ia:=zTs aJ ay;have dF:=ae (ia.alloc ia.size (.cells #[.string s,zi x] 134));have oE:=ae ((HO.below ay).below (zBr.alloc zNr (.cells #[.string s,zi x] 134)));have bW:=aJ.size;have Ac:=ay.size;have kq:Hid ((w1.alloc (.cells #[.string s,zi x] 134)).heap[w1.heap.size]?=some (.cells (Dl (s,x)).toArray 134 (0,0))):=ae (qAB w1 _);clear ay ia HO aJ HR HC;go_wp2_with (at_builtin;refine aS rfl _ _ 131 rfl w.heap.size i0 (.agg #[.string ByteArray.empty,zi 0]) 24 underlying131 dU cO cU cV rfl Si Si _ _ rfl oE w1.heap.size (s,x) rfl kq rfl (VA _) (qAF jD Sg) Tb ?_)
    exact zmi
   ·have ht':isRoot (rowAt l k)=false:=by simpa using ht
    rw[ht']at HC;have HE:=ae (IA ht');clear ht ht' HR;go_wp2_with (first|(go_at_call 192;refine nh.m ?_;intro w1 fM;subst fM)|(go_at_call 192;refine Gg.m ?_;intro w1 fM;subst fM)|(go_at_call 193;refine HC.m ?_;intro w1 fM;subst fM))
    exact sC
  ·obtain rfl:k=8:=by omega
   have HO:=ae az;have aJ:=ae ai;clear az ai;go_wp2;go_ret2;exact⟨_,rfl,HO,aJ⟩
