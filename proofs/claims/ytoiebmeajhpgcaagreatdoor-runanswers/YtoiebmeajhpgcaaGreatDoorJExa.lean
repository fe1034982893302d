import Derived.Test.YtoiebmeajhpgcaaGreatDoorJChp
import Derived.Shelf.SlSortCmp.QuietGrown
import Derived.Deep.SlicePairs
import Derived.Shelf.SlSortCmp.WholeK
import Derived.Shelf.SlSortCmp.NoneTotal
import Derived.Shelf.SlicesG.Cmp
import Derived.Shelf.SlicesQ.IndexFunc
import Derived.Shelf.SlicesE.Clone
import Derived.Shelf.SlGeneric
import Derived.Ground.SlsfProg
import Derived.Ground.SlgcProg
import Derived.Ground.SlgfProg
import Derived.Ground.SlgnProg
set_option maxRecDepth 100000
set_option maxHeartbeats 16000000
set_option linter.all false
namespace Go.Proofs.YtoiebmeajhpgcaaGreatDoor
variable {w w':World}{e:(I2)}{a:OA}{cap:Nat}{l:List (I2)}{n:Int}
open Tryz
open Go.RowKit Go.Sort
def uc(e:(I2)):Prop:=(-9223372036854775808<=e.1/\e.1<=9223372036854775807)/\-9223372036854775808<=e.2/\e.2<=9223372036854775807
def Sm(e:(I2)):Prop:=(-9000<=e.1/\e.1<=9000)/\-9000<=e.2/\e.2<=9000
theorem below_draws{B}(h:Below B w w') n:Below B w (w'.drewN n):=by
 induction n with
 | zero=>exact h
 | succ n ih=>exact ih.drew
theorem mT{q}{os}:zB w (grow (w.drewN q) os):=by
 have:∀ (os:List Obj) (W:World),zB w W->w.heap.size<=W.heap.size->zB w (grow W os.toArray):=by
  intro os;induction os with
  | nil=>intro W h _;rw[show grow W #[]=W from grow_empty W];exact h
  | cons o r ih =>
   intro W h hs;have e:grow W (o::r).toArray=grow (W.alloc o) r.toArray:=by
    rw[alloc_eq_grow,grow_grow]
    congr 1
    simp
   rw[e];refine ih _ (h.alloc hs _) Tb
 have h:=this os.toList (w.drewN q) (below_draws zBr q) zNr;exact TH
def bhd(e:(I2)):Int:=wrap64 (e.1+e.2)
def zK(a b:(I2)):Bool:=decide (a.1<bhd b)&&decide (b.1<bhd a)
theorem UT(h:Sm e):bhd e=e.1+e.2:=by obtain⟨⟨h1,h2⟩,h3,h4⟩:=h;unfold bhd wrap64;omega
theorem zcl{a b}(ha:Sm a)(hb:Sm b):zK a b=over a b:=by unfold zK over;rw[UT ha,UT hb]
theorem F8 e w :
  zC 264 #[.agg #[zi e.1,zi e.2]] w fun x w'=>x=.returned (zi (bhd e))/\∃q os,w'=grow (w.drewN q) os:=by
 obtain⟨x,y⟩:=e;dsimp only;go_enter func264,ntmps264
 exact zi1
theorem F9 e w(h:Sm e) :
  zC 264 #[.agg #[zi e.1,zi e.2]] w fun x w'=>x=.returned (zi (e.1+e.2))/\zB w w' :=
 (F8 e w).mono fun x w' ⟨h1,q,os,h2⟩=>⟨by rw[h1,UT h],by rw[h2];exact mT⟩
theorem O2 n e w(h0:0<=n)(hn:n<=6400)(h:uc e) :
  zC 303 #[zi n,.agg #[zi e.1,zi e.2]] w fun x w'=>x=.returned (.bool (there n e))/\zB w w':=by
 obtain⟨x,y⟩:=e;obtain⟨⟨h1,h2⟩,h3,h4⟩:=h;dsimp only at*;unfold there;dsimp only;by_cases g1:0<=x
 ·by_cases g2:1<=y
  ·rw[qAE g1,qAE g2];exact JL
  ·rw[qAE g1,qAG g2];exact JL
 ·rw[qAG g1];exact JL
theorem B1(w:World) x y(t:TypeId) n os:(grow ((w.alloc (.cells #[x,y] t)).drewN n) os).cell? (zp w.heap.size)=some x/\(grow ((w.alloc (.cells #[x,y] t)).drewN n) os).cell? (zw w.heap.size 1)=some y:=by
 constructor
 ·exact zpd
 ·exact zpd
theorem x6(w:World) x y x' y'(t:TypeId) n os:(grow (((w.alloc (.cells #[x,y] t)).alloc (.cells #[x',y'] t)).drewN n) os).cell? (zp w.heap.size)=some x/\(grow (((w.alloc (.cells #[x,y] t)).alloc (.cells #[x',y'] t)).drewN n) os).cell? (zw w.heap.size 1)=some y:=by
 have h:=B1 w x y t 0 #[];rw[show grow ((w.alloc (.cells #[x,y] t)).drewN 0) #[]=w.alloc (.cells #[x,y] t)from grow_empty _]at h;refine⟨cell_grown Tb ?_ n os,cell_grown Tb ?_ n os⟩
 ·rw[qBQ _ _ (zp w.heap.size) Sk];exact h.1
 ·rw[qBQ _ _ (zw w.heap.size 1) Sk];exact h.2
theorem zc5 a b w :
  zC 306 #[.agg #[zi a.1,zi a.2],.agg #[zi b.1,zi b.2]] w fun x w'=>x=.returned (.bool (zK a b))/\∃q os,w'=grow (w.drewN q) os:=by
 have mixed:prog.follows .mixedOrders=true:=SQ;have ca:=fun W=>F8 a W
 have cb:=fun W=>F8 b W
 obtain⟨x,y⟩:=a;obtain⟨u,v⟩:=b;unfold zK;generalize bhd (x,y)=p at*;generalize bhd (u,v)=q at*;have HA:=ae ca;have HB:=ae cb;have l1:=fun n os=>(x6 w (zi x) (zi y) (zi u) (zi v) 122 n os).1
 have l2:=fun n os=>(x6 w (zi x) (zi y) (zi u) (zi v) 122 n os).2
 have l3:=fun n os=>(B1 (w.alloc (.cells #[zi x,zi y] 122)) (zi u) (zi v) 122 n os).1
 have l4:=fun n os=>(B1 (w.alloc (.cells #[zi x,zi y] 122)) (zi u) (zi v) 122 n os).2
 rw[show(w.alloc (.cells #[zi x,zi y] 122)).heap.size=w.heap.size+1 by simp]at l3 l4;clear ca cb;dsimp only at*;have kP:∀n os,∃q os',grow (((w.alloc (.cells #[zi x,zi y] 122)).alloc (.cells #[zi u,zi v] 122)).drewN n) os=grow (w.drewN q) os':=fun n os=>⟨n,_,by rw[alloc_eq_grow,alloc_eq_grow,grow_grow];show grow (grow (w.drewN n) _) os=_;rw[grow_grow]⟩
 have HF:=ae kP;by_cases c1:x<q
 ·rw[qAE c1,qCd];go_enter func306,ntmps306
  go_wp2_with fail
  generalize (w.alloc (.cells #[zi x,zi y] 122)).alloc (.cells #[zi u,zi v] 122)=W at*;go_quiet_grown (first | (go_at_call 264;first | exact Calls.grown_of (HB _) | exact Calls.grown_of (HA _)))
  exact zlW
 ·have dd:=qAG c1;rw[dd,qCa];go_enter func306,ntmps306
  go_wp2_with fail
  generalize (w.alloc (.cells #[zi x,zi y] 122)).alloc (.cells #[zi u,zi v] 122)=W at*;go_quiet_grown (first | (go_at_call 264;first | exact Calls.grown_of (HB _) | exact Calls.grown_of (HA _)))
  exact zlW
section
open Go.Shelf
def Uu:Ren:={ f:=fun | 6=>308 | 15=>333 | 14=>332 | 28=>348 | 29=>317 | 20=>340 | 21=>341 | 22=>342 | 23=>343 | 24=>344 | 25=>345 | 26=>346 | 27=>347 | 46=>358 | 47=>359 | 48=>360 | 49=>361 | 50=>362 | 57=>366 | n=>n,t:=fun | 22=>94 | 24=>122 | 25=>402 | 3=>3 | 39=>249 | 0=>0 | 53=>324 | 55=>353 | 4=>4 | 46=>432 | 45=>431 | 50=>63 | 5=>5 | 9=>9 | 66=>443 | 70=>447 | 76=>451 | 77=>72 | n=>n,g:=fun n=>n }
theorem zeb:SlLaysF0.n6 prog Uu:={ mixed:=SQ,f6:=⟨ "slices.SortFunc[[]vaultkeel/api.Extent,vaultkeel/api.Extent]",Si,func308.trans rfl⟩,f14:=⟨ "slices.pdqsortCmpFunc[vaultkeel/api.Extent]",Si,func332.trans rfl⟩,f15:=func333.trans rfl,f20:=⟨ "slices.insertionSortCmpFunc[vaultkeel/api.Extent]",Si,func340.trans rfl⟩,f21:=⟨ "slices.heapSortCmpFunc[vaultkeel/api.Extent]",Si,func341.trans rfl⟩,f22:=⟨ "slices.breakPatternsCmpFunc[vaultkeel/api.Extent]",Si,func342.trans rfl⟩,f23:=⟨ "slices.choosePivotCmpFunc[vaultkeel/api.Extent]",Si,func343.trans rfl⟩,f24:=⟨ "slices.reverseRangeCmpFunc[vaultkeel/api.Extent]",Si,func344.trans rfl⟩,f25:=⟨ "slices.partialInsertionSortCmpFunc[vaultkeel/api.Extent]",Si,func345.trans rfl⟩,f26:=⟨ "slices.partitionEqualCmpFunc[vaultkeel/api.Extent]",Si,func346.trans rfl⟩,f27:=⟨ "slices.partitionCmpFunc[vaultkeel/api.Extent]",Si,func347.trans rfl⟩,f28:=func348.trans rfl,f29:=func317.trans rfl,f46:=⟨ "slices.siftDownCmpFunc[vaultkeel/api.Extent]",Si,func358.trans rfl⟩,f47:=func359.trans rfl,f48:=func360.trans rfl,f49:=⟨ "slices.medianAdjacentCmpFunc[vaultkeel/api.Extent]",Si,func361.trans rfl⟩,f50:=⟨ "slices.medianCmpFunc[vaultkeel/api.Extent]",Si,func362.trans rfl⟩,f57:=⟨ "slices.order2CmpFunc[vaultkeel/api.Extent]",Si,func366.trans rfl⟩,t0:=underlying0,a0:=isAgg0,z0:=sizeOf0,v0:=zeroValue0,t3:=underlying3,a3:=isAgg3,z3:=sizeOf3,v3:=zeroValue3,t4:=underlying4,a4:=isAgg4,z4:=sizeOf4,v4:=zeroValue4,t5:=underlying5,a5:=isAgg5,z5:=sizeOf5,v5:=zeroValue5,t9:=underlying9,a9:=isAgg9,z9:=sizeOf9,v9:=zeroValue9,t22:=underlying94,a22:=isAgg94,z22:=sizeOf94,v22:=zeroValue94,t25:=underlying402,a25:=isAgg402,z25:=sizeOf402,v25:=zeroValue402,t39:=underlying249,a39:=isAgg249,z39:=sizeOf249,v39:=zeroValue249,t45:=underlying431,a45:=isAgg431,z45:=sizeOf431,v45:=zeroValue431,t46:=underlying432,a46:=isAgg432,z46:=sizeOf432,v46:=zeroValue432,t50:=underlying63,a50:=isAgg63,z50:=sizeOf63,v50:=zeroValue63,t53:=underlying324,a53:=isAgg324,z53:=sizeOf324,v53:=zeroValue324,t55:=underlying353,a55:=isAgg353,z55:=sizeOf353,v55:=zeroValue353,t66:=underlying443,a66:=isAgg443,z66:=sizeOf443,v66:=zeroValue443,t70:=underlying447,a70:=isAgg447,z70:=sizeOf447,v70:=zeroValue447,t76:=underlying451,a76:=isAgg451,z76:=sizeOf451,v76:=zeroValue451,t77:=underlying72,a77:=isAgg72,z77:=sizeOf72,v77:=zeroValue72 }
def zaa:Ren:={ f:=fun | 5=>296 | 7=>327 | n=>n,t:=fun | 22=>3 | 3=>3 | 4=>4 | n=>n,g:=fun n=>n }
theorem zon:SlLaysC2.n5 prog zaa:={ mixed:=SQ,f5:=⟨ "cmp.Compare[int]",Si,func296.trans rfl⟩,f7:=⟨ "cmp.isNaN[int]",Si,func327.trans rfl⟩,t3:=underlying3,a3:=isAgg3,z3:=sizeOf3,v3:=zeroValue3,t4:=underlying4,a4:=isAgg4,z4:=sizeOf4,v4:=zeroValue4,t22:=underlying3,a22:=isAgg3,z22:=sizeOf3,v22:=zeroValue3 }
def Uv:Ren:={ f:=fun | 8=>304 | 6=>331 | n=>n,t:=fun | 22=>94 | 23=>122 | 25=>400 | 4=>4 | 3=>3 | 0=>0 | n=>n,g:=fun n=>n }
theorem zec:SlLaysH0.n8 prog Uv:={ mixed:=SQ,f6:=⟨ "slices.IndexFunc[[]vaultkeel/api.Extent,vaultkeel/api.Extent]",Si,func331.trans rfl⟩,f8:=⟨ "slices.ContainsFunc[[]vaultkeel/api.Extent,vaultkeel/api.Extent]",Si,func304.trans rfl⟩,t0:=underlying0,a0:=isAgg0,z0:=sizeOf0,v0:=zeroValue0,t3:=underlying3,a3:=isAgg3,z3:=sizeOf3,v3:=zeroValue3,t4:=underlying4,a4:=isAgg4,z4:=sizeOf4,v4:=zeroValue4,t22:=underlying94,a22:=isAgg94,z22:=sizeOf94,v22:=zeroValue94,t25:=underlying400,a25:=isAgg400,z25:=sizeOf400,v25:=zeroValue400 }
def P5:Ren:={ f:=fun | 41=>307 | n=>n,t:=fun | 22=>94 | 23=>122 | 4=>4 | n=>n,g:=fun n=>n }
theorem WB:SlLaysE0.n41 prog P5:={ mixed:=SQ,f41:=⟨ "slices.Clone[[]vaultkeel/api.Extent,vaultkeel/api.Extent]",Si,func307.trans rfl⟩,t4:=underlying4,a4:=isAgg4,z4:=sizeOf4,v4:=zeroValue4,t22:=underlying94,a22:=isAgg94,z22:=sizeOf94,v22:=zeroValue94 }
def lG(e:(I2)):List Value:=[zi e.1,zi e.2]
def xB(w:World)(a:OA)(cap:Nat)(l:List (I2)):Prop :=(∀e∈l,uc e)/\(l.length<=cap/\(a=none->cap=0))/\l.length<=8796093021952/\(l≠[]->∃b off,a=some ⟨b,off,none⟩/\∀i,i<l.length->w.cell? ⟨b,off+i*2,none⟩=some (zi (l.getD i (0,0)).1)/\w.cell? ⟨b,off+i*2+1,none⟩=some (zi (l.getD i (0,0)).2))
theorem xB.below(h:xB w a cap l)(hb:zB w w'):xB w' a cap l:=by obtain⟨h1,h2,h3,h4⟩:=h;refine⟨h1,h2,h3,fun aG=>?_⟩;obtain⟨b,off,rfl,hc⟩:=h4 aG;refine⟨b,off,rfl,fun i hi=>?_⟩;obtain⟨c0,c1⟩:=hc i hi;exact⟨(hb.cell (qAA c0)).trans c0,(hb.cell (qAA c1)).trans c1⟩
theorem xB.inI(h:xB w a cap l) i:uc (l.getD i (0,0)):=by
 by_cases hi:i<l.length
 ·have:l.getD i (0,0)=l[i]:=by simp[List.getD,hi]
  rw[this];exact h.1 _ (qAf hi)
 ·have:l.getD i (0,0)=(0,0):=by simp[List.getD,qAY (by omega:l.length<=i)]
  rw[this];unfold uc;decide
theorem Ni(hn:n<=6400)(h:there n e=true):Sm e:=by have:=wK.1 h;unfold Sm;omega
theorem UN e x g W(c0:W.cell? (zp g)=some (zi e.1))(c1:W.cell? (zw g 1)=some (zi e.2)) :
  zC 305 #[.agg #[zi x.1,zi x.2],zq g] W fun r w'=>r=.returned (.bool (zK e x))/\zB W w':=by
 have hg:=qAA c0;dsimp only at hg;have d0:(W.alloc (.cells #[zi x.1,zi x.2] 122)).cell? (zp g)=some (zi e.1):=by rw[qBQ _ _ (zp g) hg];exact c0
 have d1:(W.alloc (.cells #[zi x.1,zi x.2] 122)).cell? (zw g 1)=some (zi e.2):=by rw[qBQ _ _ (zw g 1) hg];exact c1
 have HO:=ae (zc5 e x (W.alloc (.cells #[zi x.1,zi x.2] 122)));generalize zK e x=r at*;go_enter func305,ntmps305
 go_wp2_with fail
 refine HO.mono ?_;rintro e' w1 ⟨rfl,q,os,rfl⟩;go_wp2;go_ret;exact⟨rfl,((Below.refl _ W).alloc zNr _).trans (mT.mono Sk)⟩
theorem LQ{w:World}{b off cap:Nat}{l:List (I2)}(i:Nat)(hi:i<=l.length)(hl:l.length<=cap)(h0:0<cap)(w':World) :
  (Instr.slice 94 (.slice (some ⟨b,off,none⟩) l.length cap) none (some (zi i)) none).run prog w'=.ok (.slice (some ⟨b,off,none⟩) i cap) w':=by
 have he:prog.elem 94=122:=by simp[Program.elem,underlying94]
 rw[run_slice_h (P:=prog) (w:=w') 94 _ l.length cap (by rw[he];exact underlying94) .i64 i Sg Sg,he,sizeOf122 w'];exact zmg
theorem zao{k}(hk:k<l.length):chkL n (l.take k) (l.drop k)=if there n (l.getD k (0,0))=false then 1 else if (l.take k).any (over (l.getD k (0,0)))=true then 7 else chkL n (l.take (k+1)) (l.drop (k+1)):=by rw[qBf hk];have e:l.getD k (0,0)=l[k]:=UR;rw[e,qAx hk];rfl
theorem zeP(hn:n<=6400)(he:there n e=true)(hl:∀x∈l,there n x=true):l.any (zK e)=l.any (over e):=by
 induction l with
 | nil=>rfl
 | cons x r ih =>rw[List.any_cons,List.any_cons,ih (fun y hy=>hl y (by simp[hy])),zcl (Ni hn he) (Ni hn (hl x Sk))]
theorem zaq n a len cap w(hn:n<0\/6400<n) :
  zC 262 #[zi n,.slice a len cap] w fun e w'=>e=.returned (bc 1)/\w=w':=by
 rw[aF 1 Si];by_cases h:n<0
 ·exact MW
 ·have h2:6400<n:=by omega
  exact MW
theorem UL n a len cap w(h0:0<=n)(hn:n<=6400)(hl:200<len)(hb:len<=8796093021952) :
  zC 262 #[zi n,.slice a len cap] w fun e w'=>e=.returned (bc 4)/\w=w':=by
 rw[aF 4 Si];exact MW
theorem zap n a cap l w(hl:xB w a cap l)(h0:0<=n)(hn:n<=6400)(hN:l.length<=200) :
  zC 262 #[zi n,.slice a l.length cap] w fun e w'=>e=.returned (bc (chkL n [] l))/\zB w w':=by
 have g1:¬n<0:=Sg;have g2:¬6400<n:=Sg;have g3:¬(200:Int)<l.length:=Sg;have HL:=ae hl;clear hl;go_enter func262,ntmps262
 go_wp2_with fail
 go_loopw [20] (fun v wr=>∃k:Nat,k<=l.length/\v=zi k/\zB w wr/\chkL n [] l=chkL n (l.take k) (l.drop k)/\∀e∈l.take k,there n e=true) (fun v _=>l.length-(intOf v).toNat)
 case atStart=>exact⟨0,qAH _,rfl,zBr,by rw[List.take_zero,qCE],fun e he=>by rw[List.take_zero]at he;cases he⟩
 case round =>
  obtain⟨k,hk,rfl,ai,hz,oA⟩:=hrel;by_cases aB:k<l.length
  ·have aG:l≠[]:=by intro e;rw[e]at aB;simp at aB
   obtain⟨b,off,rfl,bf⟩:=HL.2.2.2 aG;obtain⟨c0,c1⟩:=bf k aB;have rH:=qAA c0;dsimp only at rH;rw[<-ai.cell (qAA c0)]at c0;rw[<-ai.cell (qAA c1)]at c1;have fu:=HL.inI k;have ma:=HL.2.1.1;have lE:=fun w'=>LQ (w:=w) (b:=b) (off:=off) k hk ma Sg w'
   rw[zao aB]at hz;have o6:l.getD k (0,0)=l[k]:=by simp[List.getD,aB]
   have uO:∀e∈l.take (k+1),there n (l.getD k (0,0))=true->there n e=true:=fun e he hth=>by
    rw[qAx aB]at he;rcases zMa he with he|he
    ·exact oA e he
    ·rw[zMs he,<-o6];exact hth
   have zht:there n (l.getD k (0,0))=true->(l.take k).any (zK (l.getD k (0,0)))=(l.take k).any (over (l.getD k (0,0))):=fun hth=>zeP hn hth oA
   have jz:zB w (wr.alloc (.cells #[zi (l.getD k (0,0)).1,zi (l.getD k (0,0)).2] 122)):=ai.alloc ai.size _;have HT:=ae (O2 n (l.getD k (0,0)) (wr.alloc (.cells #[zi (l.getD k (0,0)).1,zi (l.getD k (0,0)).2] 122)) h0 hn fu);have HC0:Hid ((wr.alloc (.cells #[zi (l.getD k (0,0)).1,zi (l.getD k (0,0)).2] 122)).cell? (zp wr.heap.size)=some (zi (l.getD k (0,0)).1)):=ae znb;have qt:Hid ((wr.alloc (.cells #[zi (l.getD k (0,0)).1,zi (l.getD k (0,0)).2] 122)).cell? (zw wr.heap.size 1)=some (zi (l.getD k (0,0)).2)):=ae znb;have zfj:=ae bf;have HZ:=ae hz;have x8:=ae uO;have zaH:=ae zht;have oF:=ae jz;clear hz uO zht bf oA fu o6 jz ai aG;generalize l.getD k (0,0)=e at*;cases hth:there n e with
   | false =>
    rw[hth]at HT;have HE:Hid (chkL n [] l=1):=ae (by rw[aa HZ,zy hth]);clear HZ x8 zaH hth;go_wp2_with fail
    refine HT.mono ?_;rintro e' w1 ⟨rfl,ay⟩;have aQ:=zTr oF ay;clear ay;go_wp2;go_ret;exact⟨by rw[aa HE];rfl,aQ⟩
   | true =>
    rw[hth]at HT;have HTH:=ae hth;clear hth;go_wp2_with fail
    refine HT.mono ?_;rintro e' w1 ⟨rfl,ay⟩;have aQ:=zTr oF ay;have hd0:=(ay.cell (qAA HC0)).trans HC0;have T9:=(ay.cell (qAA qt)).trans qt;have qd:=AnyQ.slices_ContainsFunc zec 2 isAgg122 sizeOf122 lG (fun _=>rfl) (zK e) 305 #[.pointer (some (zp wr.heap.size))] (enters_of func305 SQ rfl) b off k cap l w1
     (fun W x hW=>(UN e x wr.heap.size W ((hW.cell (qAA hd0)).trans hd0) ((hW.cell (qAA T9)).trans T9)).mono fun r w' ⟨hr,vQ⟩=>⟨hr,hW.trans (vQ.mono hW.size)⟩)
     hk Sg (by have:=aQ.size;omega)
     (fun j hj i v hv=>by
      obtain⟨q0,q1⟩:=zfj j hj;have ej:l[j]! = l.getD j (0,0):=zay;rw[ej]at hv
      match i,hv with
      | 0,hv=>obtain rfl:=zOi hv;exact(aQ.cell (qAA q0)).trans q0
      | 1,hv=>obtain rfl:=zOi hv;exact(aQ.cell (qAA q1)).trans q1
      | i+2,hv=>simp[lG]at hv)
    change zC 304 _ _ _ at qd;rw[zaH HTH]at qd;have Vc:=ae qd;clear qd ay hd0 T9 HC0 qt HT;have HZ2:Hid (chkL n [] l=if (l.take k).any (over e)=true then 7 else chkL n (l.take (k+1)) (l.drop (k+1))):=ae (by rw[aa HZ,zn (by rw[aa HTH];simp)]);clear HZ zaH;generalize (l.take k).any (over e)=r at*;cases r with
    | true =>
     have HE:Hid (chkL n [] l=7):=ae (by rw[aa HZ2,zy rfl]);clear HZ2;go_wp2_with fail
     refine Vc.mono ?_;rintro e' w2 ⟨rfl,aK⟩;have bz:=zTr aQ aK;clear aK;go_wp2;go_ret;exact⟨by rw[aa HE];rfl,bz⟩
    | false =>
     go_wp2_with fail
     refine Vc.mono ?_;rintro e' w2 ⟨rfl,aK⟩;have bz:=zTr aQ aK;clear aK;go_wp2;go_roundw
     case rel=>exact⟨k+1,Sg,Tc,bz,by rw[aa HZ2];simp,fun x hx=>x8 x hx HTH⟩
     case measure=>exact Te
  ·obtain rfl:k=l.length:=by omega
   have HE:Hid (chkL n [] l=0):=ae (by rw[hz,qAr zNr];rfl);clear hz oA;go_wp2;go_ret;exact⟨by rw[aa HE];rfl,ai⟩
theorem B0 n a cap l w(hl:xB w a cap l) :
  zC 262 #[zi n,.slice a l.length cap] w fun e w'=>e=.returned (bc (nY n l))/\zB w w':=by
 unfold nY;by_cases h1:n<0\/6400<n
 ·rw[zy h1];exact(zaq n a l.length cap w h1).mono fun e w' ⟨he,hw⟩=>⟨he,by rw[<-hw];exact zBr⟩
 ·rw[zn h1];by_cases h2:200<l.length
  ·rw[zy h2];exact(UL n a l.length cap w Sg Sg h2 hl.2.2.1).mono fun e w' ⟨he,hw⟩=>⟨he,by rw[<-hw];exact zBr⟩
  ·rw[zn h2];exact zap n a cap l w hl Sg Sg Sg
