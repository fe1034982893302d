import Derived.Test.YtoiebmeajhpgcaaGreatDoorJExa
import Derived.Test.YtoiebmeajhpgcaaGreatDoorJHal
set_option maxRecDepth 100000
set_option maxHeartbeats 16000000
set_option linter.all false
namespace Go.Proofs.YtoiebmeajhpgcaaGreatDoor
variable {w w':World}{B g k:Nat}{v:Value}{l T:List (I2)}{e:(I2)}
open Tryz
open Go.RowKit Go.Shelf Go.Sort
def oe(w:World)(B:Nat)(v:Value)(l:List (I2)):Prop:=w.ownsRow B 122 2 v l.length (l.flatMap lG)
theorem gM(l:List (I2)):(l.flatMap lG).length=l.length*2:=by
 induction l with
 | nil=>rfl
 | cons e r ih=>rw[qCB,zLa,ih,zLc];show 2+r.length*2=_;omega
theorem we:∀ (l:List (I2)) (i:Nat),i<l.length->(l.flatMap lG)[i*2]?=some (zi (l.getD i (0,0)).1)/\(l.flatMap lG)[i*2+1]?=some (zi (l.getD i (0,0)).2)
 | [],i,h=>Yy
 | e::r,0,_=>⟨rfl,rfl⟩
 | e::r,i+1,h=>by
  have:=we r i TH;rw[qCB]
  show([Value.int .i64 e.1,zi e.2]++r.flatMap lG)[(i+1)*2]?=_/\([Value.int .i64 e.1,zi e.2]++r.flatMap lG)[(i+1)*2+1]?=_
  rw[qAR Tb,qAR Tb];simp only[zLc,qBS,qAl,Nat.reduceAdd];rw[show(i+1)*2-2=i*2 by omega,show(i+1)*2+1-2=i*2+1 by omega];exact this
theorem Ap(l:List (I2)):∀u∈l.flatMap lG,u.oneCell'=true:=by
 intro u hu;obtain⟨e,_,hu⟩:=List.mem_flatMap.1 hu;unfold lG at hu;rcases zMc hu with rfl|hu
 ·rfl
 ·rcases zMc hu with rfl|hu
  ·rfl
  ·cases hu
theorem oe.nil w B:oe w B (.slice none 0 0) []:=⟨Sk,.inl ⟨rfl,rfl⟩⟩
theorem oe.Z9(h:oe w B v l)(hb:∀e∈l,uc e)(hl:l.length<=8796093021952):∃a c,v=.slice a l.length c/\xB w a c l:=by
 rcases h.2 with ⟨rfl,h0⟩|⟨g,cap,cur,rfl,hB,hc,h3,h4,h5,h6⟩
 ·have:l=[]:=qAp h0;subst this;exact⟨none,0,rfl,fun e he=>(by cases he),⟨zNr,fun _=>rfl⟩,Si,fun h=>absurd rfl h⟩
 ·refine⟨some (zp g),cap,rfl,hb,⟨h3,fun e=>TB⟩,hl,fun _=>⟨g,0,rfl,fun i hi=>?_⟩⟩;obtain⟨q0,q1⟩:=we l i hi;rw[<-h6,qAi,zy Sg]at q0 q1;rw[qAD _ _ _ _ _ _ hc,qAD _ _ _ _ _ _ hc,qAl];exact⟨by simpa using q0,by simpa using q1⟩
theorem oe.below(h:oe w B v l)(hb:zB w w'):oe w' B v l:=by exact ud
theorem oe.base{B':Nat}(h:oe w B v l)(hb:B'<=B):oe w B' v l:=by exact JR
theorem z6:(prog.info? 122).map (fun i=>(i.zero,i.size,i.bytes))=some (some (.agg #[zi 0,zi 0]),2,16):=SQ
theorem UJ n c w :zC 307 #[.slice none n c] w (zr (.slice none 0 0) fun w'=>w'=w):=AnyE.slices_Clone_nil WB n c w
theorem Qr x c w :
  zC 307 #[.slice (some x) 0 c] w fun e w'=>∃v,e=.returned v/\oe w' w.heap.size v []/\zB w w':=by
 obtain⟨i0,hi,cO,cU,cV⟩:=qAO z6;have q22:=fun w a n c n' c'=>Lib.run_eql_slice_nil w _ _ a n c n' c' underlying94
 go_enter func307,ntmps307
 go_wp2_with (at_builtin;refine qBU _ rfl _ _ 94 rfl w.heap.size 122 i0 (.agg #[zi 0,zi 0]) 2 16 underlying94 hi cO cU cV rfl Si _ _ _ rfl (World.ownsRow_made w #[] 0 zNr (qAH _) Sk) x 0 c [] rfl rfl (fun j u hj=>by simp at hj) (fun u hu=>by cases hu) (qAH _) Sk Sk ?_)
 intro v' w1 az fE yH;go_wp2;go_ret;exact⟨v',rfl,az,((Below.refl _ w).alloc zNr _).grown fE Sk zj5⟩
theorem zan a cap l w(hl:xB w a cap l) :
  zC 307 #[.slice a l.length cap] w fun e w'=>∃v,e=.returned v/\oe w' w.heap.size v l/\zB w w':=by
 obtain⟨h1,h2,h3,h4⟩:=hl;by_cases h0:l=[]
 ·subst h0;cases a with
  | none=>exact(UJ _ _ w).mono fun e w' ⟨he,hw⟩=>⟨_,he,by rw[hw];exact oe.nil _ _,Xd⟩
  | some x=>exact Qr x cap w
 ·obtain⟨b,off,rfl,hc⟩:=h4 h0;obtain⟨i0,hi,cO,cU,cV⟩:=qAO z6;refine(AnyE.slices_Clone WB i0 (.agg #[zi 0,zi 0]) 2 16 hi cO cU cV rfl Si sizeOf122 b off l.length cap (l.flatMap lG) w (gM l) Ts Sg (fun j u hj=>?_) (Ap l)).mono ?_
  ·have o7:j<l.length*2:=by rw[<-gM];exact(zLs hj).1
   obtain⟨c0,c1⟩:=hc (j / 2) Sg;obtain⟨q0,q1⟩:=we l (j / 2) Sg;exact DJ
  ·rintro e w' ⟨v,rfl,az,_,hb⟩;exact⟨v,rfl,az,hb⟩
def UI(x y:(I2)):Int:=Lib.compareInt x.1 y.1
theorem ltX x y:ltOf UI x y=decide (x.1<y.1):=by
 unfold ltOf UI Lib.compareInt;by_cases h1:x.1<y.1
 ·simp[h1]
 ·by_cases h2:y.1<x.1 <;> simp[h1,h2]
theorem zpG:SWO (ltOf UI) where
 irrefl x:=by rw[ltX];simp
 trans x y z h1 h2:=by rw[ltX]at*;simp at*;omega
 ntrans x y z h1 h2:=by rw[ltX]at*;simp at*;omega
theorem NH x y W:zC 309 #[.agg #[zi x.1,zi x.2],.agg #[zi y.1,zi y.2]] W (zr (zi (UI x y)) fun w'=>∃q os',w'=grow (W.drewN q) os'):=by
 have qd:=fun W'=>AnyG.cmp_Compare_int zon x.1 y.1 W'
 change ∀W',zC 296 _ _ _ at qd;unfold UI;generalize Lib.compareInt x.1 y.1=r at qd ⊢;go_enter func309,ntmps309
 go_wp2_with (go_at_call 296;refine(qd _).mono ?_;rintro e w' ⟨rfl,rfl⟩)
 go_ret;exact⟨rfl,0,_,by rw[alloc_eq_grow,alloc_eq_grow,grow_grow];rfl⟩
theorem zex qq off size w:CmpLays prog 309 #[] lG 2 UI qq off size w :=fun _ _ _ _ x y=>NH x y _
theorem Fz d:(flatK lG 2 d).toList=d.toList.flatMap lG:=by
 apply List.ext_getElem?;intro t;by_cases ht:t<d.size*2
 ·have h1:=get_flatK lG 2 d t ht;have hs:t<(flatK lG 2 d).size:=by rw[size_flatK];exact ht
  rw[getElem!_pos _ t hs]at h1;rw[zLg (by simpa using hs)];have e1:(flatK lG 2 d).toList[t]'(by simpa using hs)=(flatK lG 2 d)[t]:=Sk;rw[e1,h1];obtain⟨q0,q1⟩:=we d.toList (t / 2) Tb;have e2:d.toList.getD (t / 2) (0,0)=d[t / 2]! := by rw[getElem!_pos _ (t / 2) Sg];simp[List.getD,qBX (show t / 2<d.size by omega)]
  rw[e2]at q0 q1;rcases Nat.mod_two_eq_zero_or_one t with hm|hm
  ·rw[hm];have e:t / 2*2=t:=by omega
   rw[e]at q0;rw[q0];rfl
  ·rw[hm];have e:t / 2*2+1=t:=by omega
   rw[e]at q1;rw[q1];rfl
 ·rw[qAY Tb,qAY (by rw[gM];simp;omega)]
theorem yo w g m d' os:(sortWorldK lG 2 w g 0 m d' os).heap=w.heap.modify g (onCells (putCells id 0 (flatK lG 2 d')))++os:=rfl
theorem Sj{cap:Nat}{cur}{d'}{m}{os}(hB:B<=g)(hg:w.heap[g]?=some (.cells cur 122 (0,0)))(hn:d'.size<=cap)(hm:cap<=maxLen)(hs:cur.size=cap*2) :
  oe (sortWorldK lG 2 w g 0 m d' os) B (.slice (zo g) d'.size cap) d'.toList/\Below g w (sortWorldK lG 2 w g 0 m d' os):=by
 have aB:=(zAg hg).1;have znV:(sortWorldK lG 2 w g 0 m d' os).heap[g]?=some (.cells (putCells id 0 (flatK lG 2 d') cur) 122 (0,0)):=by rw[yo,Array.getElem?_append_left (by simpa using aB),qCD,zy rfl,hg];rfl
 refine⟨⟨by rw[gM],.inr ⟨g,cap,_,Sk,hB,znV,by simpa using hn,hm,by simp[putCells,hs],?_⟩⟩,⟨rfl,rfl,rfl,?_,fun k hk=>?_⟩⟩
 ·apply List.ext_getElem?;intro t;rw[qAi];by_cases ht:t<d'.size*2
  ·rw[zy (by simpa using ht),<-Fz];have h2:t<cap*2:=by omega
   simp only[qCV];unfold putCells;rw[Array.getElem?_mapIdx,qBX (by rw[hs];exact h2),qBX (by rw[size_flatK];exact ht)];simp only[qDS];rw[zy ⟨qAH _,by rw[size_flatK,qAl];exact ht⟩,Nat.sub_zero,getElem!_pos _ t (by rw[size_flatK];exact ht)];rfl
  ·rw[zn (by simpa using ht),qAY (by rw[gM];simpa using ht)]
 ·rw[yo];simp
 ·rw[yo,Array.getElem?_append_left (by simpa using Nat.lt_trans hk aB),qCD,zn Sg]
theorem zbo B v l w(h:oe w B v l)(hB:B<=w.heap.size)(hl:l.length<=8796093021952) :
  zC 308 #[v,.func (.func 309) #[] #[]] w (zr (.tuple #[]) fun w'=>∃s:List (I2),s.Perm l/\s.Pairwise (fun a b=>a.1<=b.1)/\oe w' B v s/\Below B w w'):=by
 rcases h.2 with ⟨rfl,h0⟩|⟨g,cap,cur,rfl,hB,hc,h3,h4,h5,h6⟩
 ·have:l=[]:=qAp h0;subst this;exact(AnyF.slices_SortFunc_none zeb none 0 _ w).mono fun e w' ⟨he,hw⟩=>⟨he,[],List.Perm.refl _,List.Pairwise.nil,by rw[hw];exact oe.nil _ _,Xd⟩
 ·have aB:=(zAg hc).1;have hH:HoldsK lG 2 w g 0 l.toArray:=by
   intro j hj;rw[size_flatK]at hj;have Hd:j<l.length*2:=zbh;rw[qAl];refine⟨?_,qAd w g j _ _ hc⟩;rw[qAD _ _ _ _ _ _ hc];have e1:(cur.toList.take (l.length*2))[j]?=(flatK lG 2 l.toArray).toList[j]?:=by rw[h6,Fz]
   rw[qAi,zy Hd]at e1;have hs:j<(flatK lG 2 l.toArray).size:=by rw[size_flatK];exact hj
   simp only[qCV]at e1;rw[e1,qBX hs,getElem!_pos _ j hs];rfl
  have qd:=AnyQ.slices_SortFunc zeb 2 isAgg122 sizeOf122 lG (fun _=>rfl) (fun x v hv=>Ap [x] v (by simpa using hv)) UI zpG 309 #[] g 0 cap l.toArray w (enters_of func309 SQ rfl) (zex g 0 _ w) hH aB Tb;change zC 308 _ _ _ at qd;rw[qBa]at qd;refine qd.mono ?_;rintro e w' ⟨rfl,d',n,os,hp,hs,rfl⟩;have bW:d'.size=l.length:=by have:=hp.1;simpa using this
  obtain⟨ho,ai⟩:=Sj (w:=w) (B:=B) (g:=g) (cap:=cap) (cur:=cur) (d':=d') (m:=n) (os:=os) hB hc Sg h4 h5;rw[bW]at ho;refine⟨rfl,d'.toList,?_,?_,ho,ai.mono hB⟩
  ·have:=hp.2.2;rw[show d'.extract 0 l.length=d' by rw[<-bW];simp,show l.toArray.extract 0 l.length=l.toArray by simp]at this;exact V0
  ·rw[qCT];intro i j hi hj hij;have:=hs i j (qAH _) hij (by simp at hj;omega);rw[ltX]at this;have h1:d'[j]! = d'.toList[j]:=by rw[getElem!_pos _ j zbh];simp
   have h2:d'[i]! = d'.toList[i]:=by rw[getElem!_pos _ i (by simpa using hi)];simp
   rw[h1,h2]at this;have:=of_decide_eq_false this;omega
theorem SK a cap l w(hl:xB w a cap l) :
  zC 263 #[.slice a l.length cap] w fun e w'=>∃v s,e=.returned v/\s.Perm l/\s.Pairwise (fun a b=>a.1<=b.1)/\oe w' w.heap.size v s/\zB w w':=by
 have HC:=ae (zan a cap l w hl);have l7:=hl.2.2.1;generalize hN:l.length=N at*;have HN:=ae hN;go_enter func263,ntmps263
 go_wp2_with fail
 refine HC.mono ?_;rintro e w1 ⟨v,rfl,ho,hb⟩;have HS:=ae (zbo w.heap.size v l w1 ho hb.size (by rw[aa HN];exact l7));have HB:=ae hb;go_wp2_with fail
 refine HS.m ?_;rintro w2 ⟨s,hp,hs,ho,hb⟩;have HF:=ae (And.intro hp (And.intro hs (And.intro ho (HB.trans hb))));go_wp2;go_ret;exact⟨v,s,rfl,HF.1,HF.2.1,HF.2.2.1,HF.2.2.2⟩
theorem XU(hk:k<T.length):runsOf 0 (T.take (k+1))=runsOf 0 (T.take k)++(if dj 0 (T.take k)<(T.getD k (0,0)).1 then [(dj 0 (T.take k),(T.getD k (0,0)).1-dj 0 (T.take k))]else [])/\dj 0 (T.take (k+1))=(T.getD k (0,0)).1+(T.getD k (0,0)).2:=by
 have e:T.getD k (0,0)=T[k]:=UR;rw[qAx hk,gP,pa,e];refine⟨?_,rfl⟩
 show _++(_++[])=_
 rw[qAh]
theorem zad(hT:∀e∈T,(0<=e.1/\0<=e.2)/\e.1+e.2<=6400):∀k,0<=dj 0 (T.take k)/\dj 0 (T.take k)<=6400:=by
 have:∀ (s:List (I2)) (f:Int),0<=f->f<=6400->(∀e∈s,(0<=e.1/\0<=e.2)/\e.1+e.2<=6400)->0<=dj f s/\dj f s<=6400:=by
  intro s;induction s with
  | nil=>intro f h1 h2 _;exact⟨h1,h2⟩
  | cons e r ih=>intro f _ _ h;have:=h e Sk;exact ih _ Sg Sg (fun x hx=>h x UD)
 intro k;exact this _ 0 Sg Sg (fun e he=>hT e (qAj he))
theorem Wx(w:World) x y(t:TypeId):∀j u,[x,y][j]?=some u->(w.alloc (.cells #[x,y] t)).cell? (((zp w.heap.size):Addr).add j)=some u:=by
 intro j u hj;rw[addr_add,qAD _ _ _ _ _ (0,0) (qAB w _)]
 match j,hj with
 | 0,hj=>simp at hj;subst hj;rfl
 | 1,hj=>simp at hj;subst hj;rfl
theorem zea(w:World) o x y(t:TypeId):∀j u,[x,y][j]?=some u->((w.alloc o).alloc (.cells #[x,y] t)).cell? ((⟨w.heap.size+1,0,none⟩:Addr).add j)=some u:=by have:=Wx (w.alloc o) x y t;rw[show(w.alloc o).heap.size=w.heap.size+1 by simp]at this;exact this
theorem zd9 x y:∀u∈[Value.int .i64 x,Value.int .i64 y],u.oneCell'=true:=Ap [(x,y)]
theorem oe.more{w w':World}{B:Nat}{v v':Value}{l:List (I2)}{x y:Int}(h:w'.ownsRow B 122 2 v' (l.length+1) (l.flatMap lG++[zi x,zi y])):oe w' B v' (l++[(x,y)]):=by unfold oe;rw[zLa,qBY];exact h
theorem oe.block(h:oe w B v l):∀k,v.ownBlock=some k->B<=k/\k<w.heap.size:=World.ownsRow.lt h
theorem ZW n a cap l w(hl:xB w a cap l)(hc:nY n l≠0) :
  zC 210 #[zi n,.slice a l.length cap] w (zr (.tuple #[.slice none 0 0,bc (nY n l)]) fun w'=>zB w w'):=by
 have HC:=ae (B0 n a cap l w hl);rw[aF _ hc]at HC ⊢;generalize nY n l=c,l.length=N at*;go_enter func210,ntmps210
 go_wp2_with fail
 refine HC.m ?_;intro w1 hb;go_wp2;go_ret2;exact⟨rfl,hb⟩
theorem zdU n a cap l w(hl:xB w a cap l)(hc:nY n l=0) :
  zC 210 #[zi n,.slice a l.length cap] w fun e w'=>∃v,e=zt #[v,.nilIface]/\oe w' w.heap.size v (dh n (ix l))/\zB w w':=by
 obtain⟨i0,dU,cO,cU,cV⟩:=qAO z6;have Hf:=B0 n a cap l w hl;rw[hc,aC]at Hf;obtain⟨h0,h1,h2,hg⟩:=eZ.1 hc;have HC:=ae Hf;have HL:=ae hl;have HG:=ae hg;clear Hf hl hc hg;go_enter func210,ntmps210
 go_wp2_with fail
 refine HC.m ?_;intro w1 ay;have HR:=ae (SK a cap l w1 (HL.below ay));have aQ:=ae ay;clear ay HC;go_wp2_with fail
 refine HR.mono ?_;rintro e w2 ⟨vs,s,rfl,hp,hs,ho,aK⟩;have hse:=HG.Sh hp hs;subst hse;have hlen:(YtoiebmeajhpgcaaGreatDoor.ix l).length<=200:=by rw[hp.length_eq];exact h2
 have Jm:=HG.perm hp;have bz:=zTr aQ aK;have zsy:=aK.size;have zsz:=aQ.size;have nU:(w2.alloc (.cells #[zi n,zi 0] 122)).ownsRow w1.heap.size 122 2 vs (YtoiebmeajhpgcaaGreatDoor.ix l).length ((YtoiebmeajhpgcaaGreatDoor.ix l).flatMap lG):=qBP ho _;have HGS:=ae Jm;have HO:=ae nU;have HOW:=ae ho.block;clear ho nU hp hs aK aQ Jm HR;generalize znX:YtoiebmeajhpgcaaGreatDoor.ix l=s at*;have zri:=ae znX;clear znX;go_wp2_with (at_builtin;refine qBU _ rfl _ _ 94 rfl w1.heap.size 122 i0 (.agg #[zi 0,zi 0]) 2 16 underlying94 dU cO cU cV rfl Si _ _ _ rfl HO (zp w2.heap.size) 1 1 [zi n,zi 0] rfl rfl (Wx _ _ _ _) (zd9 _ _) Ts Sg Tb ?_)
 intro vt w3 qU zdx znG;have xi:oe w3 w1.heap.size vt (s++[(n,0)]):=oe.more (w:=w2) (v:=vs) qU;have dF:Hid (zB w w3):=ae (((bz.alloc bz.size _)).grown zdx Tb (fun k hk=>by have:=(HOW k hk).1;omega));have hT:∀e∈s++[(n,0)],(0<=e.1/\0<=e.2)/\e.1+e.2<=6400:=fun e he=>by
  rcases zMa he with he|he
  ·have:=HGS.all e he;omega
  ·rw[zMs he];exact Tu
 have hTl:(s++[(n,0)]).length<=201:=by rw[zLa];simp;omega
 obtain⟨at',ct,rfl,hTx⟩:=xi.Z9 (fun e he=>by have:=hT e he;unfold uc;omega) Sg;have aG:s++[(n,0)]≠[]:=Sk;obtain⟨bt,ot,rfl,bf⟩:=hTx.2.2.2 aG;have Cv:=qAA (bf 0 Sk).1;dsimp only at Cv;have zfj:=ae bf;have HT:=ae hT;have kA:dh n s=runsOf 0 ((s++[(n,0)]).take (s++[(n,0)]).length):=by rw[qAk];rfl
 have JX:=ae kA;rw[show(s.length:Nat)+1=(s++[(n,0)]).length by simp]at*;clear bf hTx xi qU zdx znG hT HO HOW HGS bz kA aG;generalize s++[(n,0)]=T at*;go_wp2_with fail
 go_loopw [7,8,24] (fun rv0 fv cv wr=>∃ (k:Nat) (rv:Value),rv=rv0/\k<=T.length/\cv=zi k/\fv=zi (dj 0 (T.take k))/\oe wr w3.heap.size rv (runsOf 0 (T.take k))/\zB w3 wr) (fun _ _ cv _=>T.length-(intOf cv).toNat)
 case atStart=>exact⟨0,_,rfl,qAH _,rfl,rfl,oe.nil _ _,zBr⟩
 case round =>
  obtain⟨k,rv,hrv,hk,rfl,rfl,az,ai⟩:=hrel;subst hrv;by_cases aB:k<T.length
  ·obtain⟨c0,c1⟩:=zfj k aB;rw[<-ai.cell (p:=⟨bt,ot+k*2,none⟩) Cv]at c0;rw[<-ai.cell (p:=⟨bt,ot+k*2+1,none⟩) Cv]at c1;obtain⟨r1,r2⟩:=XU aB;obtain⟨f1,f2⟩:=zad HT k;have xh:(runsOf 0 (T.take k)).length<=201:=qAF (zoqq _ _) Tb;have o6:T.getD k (0,0)∈T:=by
    have:T.getD k (0,0)=T[k]:=by simp[List.getD,aB]
    rw[this];exact qAf aB
   have hTk:=HT _ o6;have hblk:=az.block;have xF:=ai.size;generalize T.getD k (0,0)=e at*;generalize dj 0 (T.take k)=f at*;obtain⟨x,y⟩:=e;dsimp only at*;obtain⟨⟨t1,t2⟩,t3⟩:=hTk;have tL:Sm (x,y):=by unfold Sm;dsimp only;omega
   by_cases hfx:f<x
   ·rw[zy hfx]at r1;have QR:=ae r1;have lJ:=ae r2;have Pt:=qAL Cv xF;have ru:((wr.alloc (.cells #[zi x,zi y] 122)).alloc (.cells #[zi f,zi (x-f)] 122)).ownsRow w3.heap.size 122 2 rv (runsOf 0 (T.take k)).length ((runsOf 0 (T.take k)).flatMap lG):=qBP (qBP az _) _;have B7:=ae ru;have aJ:=ae ai;have H5:=ae hblk;clear ru az ai r1 r2 hblk o6;generalize cF:runsOf 0 (T.take k)=rr at*;have Mg:=ae cF;clear cF;go_wp2_with (at_builtin;refine qBU _ rfl _ _ 94 rfl w3.heap.size 122 i0 (.agg #[zi 0,zi 0]) 2 16 underlying94 dU cO cU cV rfl Si _ _ _ rfl B7 ⟨wr.heap.size+1,0,none⟩ 1 1 [zi f,zi (x-f)] rfl rfl (zea _ _ _ _ _) (zd9 _ _) Ts Sg Tb ?_)
    intro v' w' jy Lv hn';have sX:oe w' w3.heap.size v' (rr++[(f,x-f)]):=oe.more (w:=wr) (v:=rv) jy;have pI:zB w3 w':=((aJ.alloc xF _).alloc Tb _).grown Lv Tb (fun j hj=>(H5 j hj).1);have Gw:some wr.heap.size≠rv.ownBlock:=fun e=>by have:=(H5 _ e.symm).2;omega
    have d0:w'.cell? (zp wr.heap.size)=some (zi x):=Lv.cell (a:=⟨wr.heap.size,0,none⟩) (by rw[qBQ _ _ (zp wr.heap.size) Sk,qAD _ _ _ _ _ (0,0) (qAB wr _)];rfl) Gw;have d1:w'.cell? (zw wr.heap.size 1)=some (zi y):=Lv.cell (a:=⟨wr.heap.size,1,none⟩) (by rw[qBQ _ _ (zw wr.heap.size 1) Sk,qAD _ _ _ _ _ (0,0) (qAB wr _)];rfl) Gw;have HBH:=ae (F9 (x,y) w' tL);have HO':=ae sX;have Ve:=ae pI;clear jy Lv hn' sX pI Gw c0 c1 B7;go_wp2_with fail
    refine HBH.m ?_;intro w5 il;have Rz:=ae ((aa HO').below il);have oM:=ae ((aa Ve).trans (il.mono (aa Ve).size));clear il d0 d1;exact JF
   ·rw[zn hfx,qAh]at r1;have QR:=ae r1;have lJ:=ae r2;have ay:zB w3 (wr.alloc (.cells #[zi x,zi y] 122)):=ai.alloc xF _;have ru:oe (wr.alloc (.cells #[zi x,zi y] 122)) w3.heap.size rv (runsOf 0 (T.take k)):=qBP az _;have HBH:=ae (F9 (x,y) (wr.alloc (.cells #[zi x,zi y] 122)) tL);have B7:=ae ru;have aJ:=ae ay;clear ru az ai r1 r2 hblk o6 ay;go_wp2_with fail
    refine HBH.m ?_;intro w5 il;have Rz:=ae (B7.below il);have oM:=zTr aJ il;clear il;exact JF
  ·obtain rfl:k=T.length:=by omega
   rw[<-aa JX,<-aa zri]at az;have HF:=ae az;have Q4:=zTr dF ai;have xF:=dF.size;clear az ai;go_wp2;go_ret2;exact⟨_,rfl,HF.base xF,Q4⟩
theorem pK n a cap l w(hl:xB w a cap l) :
  zC 210 #[zi n,.slice a l.length cap] w fun e w'=>∃v,e=zt #[v,bc (nY n l)]/\oe w' w.heap.size v (aO n l)/\zB w w':=by
 unfold aO;by_cases hc:nY n l=0
 ·rw[zy hc];exact(zdU n a cap l w hl hc).mono fun e w' ⟨v,he,h1,h2⟩=>⟨v,by rw[he,hc];rfl,h1,h2⟩
 ·rw[zn hc];exact(ZW n a cap l w hl hc).mono fun e w' ⟨he,h2⟩=>⟨_,he,oe.nil _ _,h2⟩
def GF(w:World)(g:Nat)(e:(I2)):Prop:=w.heap[g]?=some (.cells #[zi e.1,zi e.2] 122 (0,0))
theorem GF.lt(h:GF w g e):g<w.heap.size:=(zAg h).1
theorem GF.c0(h:GF w g e):w.cell? (zp g)=some (zi e.1):=zmc
theorem GF.c1(h:GF w g e):w.cell? (zw g 1)=some (zi e.2):=zmc
theorem GF.fr(h:GF w g e) i:w.frozen? (zw g i)=false:=qAd w g i _ _ h
theorem GF.alloc(h:GF w g e) o:GF (w.alloc o) g e:=(qAb w o h.lt).trans h
theorem GF.set(h:GF w g e) x y:GF ((w.setCell (zp g) (zi x)).setCell (zw g 1) (zi y)) g (x,y):=by have h1:=qAI w g 0 _ _ (zi x) h;have h2:=qAI (w.setCell (zp g) (zi x)) g 1 _ _ (zi y) h1;exact h2
theorem GF.new(w:World) x y:GF (w.alloc (.cells #[zi x,zi y] 122)) w.heap.size (x,y):=qAB w _
theorem zhD n a cap l size w(hl:xB w a cap l)(hc:nY n l≠0) :
  zC 186 #[zi n,.slice a l.length cap,zi size] w (zr (.tuple #[zi 0,bc (nY n l)]) fun w'=>zB w w'):=by
 have HC:=ae (pK n a cap l w hl);rw[aF _ hc]at HC ⊢;generalize nY n l=c,aO n l=h,l.length=N at*;exact Bx
theorem zd3 n a cap l size w(hl:xB w a cap l)(hc:nY n l=0)(hs:size<1\/6400<size) :
  zC 186 #[zi n,.slice a l.length cap,zi size] w (zr (.tuple #[zi 0,bc 1]) fun w'=>zB w w'):=by
 have HC:=ae (pK n a cap l w hl);rw[hc,aC]at HC;rw[aF 1 Si];generalize aO n l=h,l.length=N at*;by_cases h1:size<1
 ·exact Bx
 ·have h2:6400<size:=by omega
  exact Bx
theorem zd2{size}{h:List (I2)}(hk:k<h.length):fN size (h.take (k+1))=gq size (fN size (h.take k)) (h.getD k (0,0)):=by have e:h.getD k (0,0)=h[k]:=UR;unfold fN;rw[qAx hk,qBb,e];rfl
theorem zd5 n a cap l size w(hl:xB w a cap l)(hc:nY n l=0)(fQ:1<=size)(gN:size<=6400) A E(hAE:((fN size (aO n l)).2=0/\A=0/\E=4)\/((fN size (aO n l)).2≠0/\A=(fN size (aO n l)).1/\E=0)) :
  zC 186 #[zi n,.slice a l.length cap,zi size] w (zr (.tuple #[zi A,bc E]) fun w'=>zB w w'):=by
 obtain⟨tL,hlen⟩:=ez hc;have h0:=(eZ.1 hc).2.1;have HC:=ae (pK n a cap l w hl);rw[hc,aC]at HC;generalize aO n l=h at*;have HAE:=ae hAE;generalize l.length=N at*;go_enter func186,ntmps186
 go_wp2_with fail
 refine HC.mono ?_;rintro e w1 ⟨v,rfl,ho,ay⟩;obtain⟨ah,ch,rfl,hx⟩:=ho.Z9 (fun e he=>by have:=tL e he;unfold uc;omega) Sg;have HX:=ae hx;have aQ:=ae ay;have HSM:=ae tL;go_wp2_with fail
 go_loopw [32] (fun cv wr=>∃k:Nat,k<=h.length/\cv=zi k/\GF wr w1.heap.size (fN size (h.take k))/\zB w1 wr) (fun cv _=>h.length-(intOf cv).toNat)
 case atStart=>exact⟨0,qAH _,rfl,GF.new _ _ _,zBr.alloc zNr _⟩
 case round =>
  obtain⟨k,hk,rfl,hB,ai⟩:=hrel;by_cases aB:k<h.length
  ·have aG:h≠[]:=by intro e;rw[e]at aB;simp at aB
   obtain⟨b,off,rfl,bf⟩:=HX.2.2.2 aG;obtain⟨c0,c1⟩:=bf k aB;rw[<-ai.cell (qAA c0)]at c0;rw[<-ai.cell (qAA c1)]at c1;have eF:=zd2 (size:=size) aB;have xG:=hB.lt;generalize h.getD k (0,0)=r at*;generalize fN size (h.take k)=nf at*;obtain⟨x,y⟩:=r;obtain⟨b1,b2⟩:=nf;dsimp only at*;have hB':=hB.alloc (.cells #[zi x,zi y] 122);have hR:=GF.new wr x y;have d0:=hB.c0;have d1:=hB.c1;have e0:=hB.fr 0;have e1:=hB.fr 1;dsimp only at d0 d1;have qo:=ae hB;have sO:=ae ai;have jz:zB w1 (wr.alloc (.cells #[zi x,zi y] 122)):=ai.alloc ai.size _;have oF:=ae jz;have Ve:=ae hB';have fP:=ae eF;clear hB hB' ai jz eF bf hR aG;by_cases q1:size<=y
   ·by_cases q2:b2=0
    ·have rJ:Hid (fN size (h.take (k+1))=(x,y)):=ae zow;subst q2;exact CV
    ·by_cases q3:y<b2
     ·have rJ:Hid (fN size (h.take (k+1))=(x,y)):=ae zos;exact CV
     ·have rJ:Hid (fN size (h.take (k+1))=(b1,b2)):=ae zmk;exact J9
   ·have rJ:Hid (fN size (h.take (k+1))=(b1,b2)):=ae zmO;exact J9
  ·obtain rfl:k=h.length:=by omega
   rw[qAk]at hB;have d0:=hB.c0;have d1:=hB.c1;have Q4:=zTr aQ ai;clear hB ai;have hae:=aa HAE;clear HAE;generalize fN size h=nf at*;obtain⟨b1,b2⟩:=nf;dsimp only at*;rcases hae with ⟨q,rfl,rfl⟩|⟨q,rfl,rfl⟩
   ·subst q;go_wp2;go_ret2;exact⟨rfl,Q4⟩
   ·go_wp2;go_ret2;exact⟨rfl,Q4⟩
theorem zhE n a cap l size w(hl:xB w a cap l) :
  zC 186 #[zi n,.slice a l.length cap,zi size] w (zr (.tuple #[zi (ic n l size),bc (iG n l size)]) fun w'=>zB w w'):=by
 by_cases hc:nY n l=0
 ·by_cases hs:size<1\/6400<size
  ·have e1:iG n l size=1:=by unfold iG;rw[zn (fun h=>h hc),zy hs]
   have e2:ic n l size=0:=zih;rw[e1,e2];exact zd3 n a cap l size w hl hc hs
  ·by_cases h0:(fN size (aO n l)).2=0
   ·have e1:iG n l size=4:=by unfold iG;rw[zn (fun h=>h hc),zn hs,zy h0]
    have e2:ic n l size=0:=zih;exact zd5 n a cap l size w hl hc Sg Sg _ _ (.inl ⟨h0,e2,e1⟩)
   ·have e1:iG n l size=0:=by unfold iG;rw[zn (fun h=>h hc),zn hs,zn h0]
    have e2:ic n l size=(fN size (aO n l)).1:=zih;exact zd5 n a cap l size w hl hc Sg Sg _ _ (.inr ⟨h0,e2,e1⟩)
 ·have e1:iG n l size=nY n l:=by unfold iG;rw[zy hc]
  have e2:ic n l size=0:=by unfold ic;rw[e1,zn hc]
  rw[e1,e2];exact zhD n a cap l size w hl hc
