import Derived.Test.YtoiebmeajhpgcaaGreatDoorJDfr
import Derived.Test.YtoiebmeajhpgcaaGreatDoorJVws
import Derived.Maps.OwnSet
import Derived.Test.YtoiebmeajhpgcaaGreatDoorJPgp
set_option maxRecDepth 100000
set_option maxHeartbeats 16000000
set_option linter.all false
namespace Go.Proofs.YtoiebmeajhpgcaaGreatDoor
variable {X p n gm q m k:Nat}{l:List (Int×LI×LI)}{w:World}{t:Nat->Bool}
open Tryz
open Go.RowKit
section
open Go.MapKept
open Go.ChangeMaps
open Go.Sort
open Go.Shelf
open Go.Maps (Keyed)
def inP(X p j:Nat):Bool:=decide (X / 32<=j)&&decide (j<p / 32)
theorem zdc X j:inP X X j=false:=by unfold inP;rw[qCj,qAt,qAt];omega
theorem zdd(h:X<=p) j:inP X (p+(32-p%32)) j=(inP X p j || (j == p / 32)):=by unfold inP;have h1:(p+(32-p%32)) / 32=p / 32+1:=Sg;rw[h1,qDE];simp only[qAa,Bool.or_eq_true,qDF,qCA];omega
theorem zg2(h1:X<=p)(h2:p=X\/(p%32=0/\p<X+n+32/\X<X+n))(h3:X+n<=p) j:inP X p j=true ↔ ∃k,k<n/\(X+k) / 32=j:=by
 unfold inP;simp only[qAa,qDF];constructor
 ·rintro ⟨h4,h5⟩;rcases h2 with rfl|⟨h6,h7,h8⟩
  ·omega
  ·by_cases h:X / 32=j
   ·exact⟨0,Sg,Sg⟩
   ·exact⟨32*j-X,Sg,Sg⟩
 ·rintro ⟨k,hk,rfl⟩;rcases h2 with rfl|⟨h6,h7,h8⟩
  ·omega
  ·constructor
   ·omega
   ·omega
theorem R5 l c j:kZ (l++[c]) j=(kZ l j || (List.range c.2.2.length).any (fun k=>(c.1.toNat+k) / 32 == j)):=by unfold kZ;rw[qCR];simp
theorem zci(h:pgE l=0):∀c∈l,0<=c.1/\c.1<6400/\c.1+c.2.2.length<=6400:=by
 induction l with
 | nil=>intro c hc;cases hc
 | cons d r ih =>
  unfold pgE at h;by_cases hd:d.1<0\/6400<=d.1\/6400-d.1<d.2.2.length
  ·rw[zy hd]at h;cases h
  ·rw[zn hd]at h;intro c hc;rcases zMc hc with rfl|hc
   ·omega
   ·exact ih h c hc
theorem MU(h:pgE l=0){j}(hj:kZ l j=true):j<200:=by obtain⟨c,hc,k,hk,rfl⟩:=A8.1 hj;have:=zci h c hc;omega
def GB(w:World)(gm q:Nat)(t:Nat->Bool):Prop :=∃D:DataW Unit,w.ownsMap prog 3 (plainElem prog 3) gm q D/\(∀z:Int,Maps.has D (.int .i64 z)=true->0<=z)/\∀j:Nat,Maps.has D (.int .i64 j)=t j
theorem GB.made(w:World):GB (w.alloc (.map #[] 0)) w.heap.size 0 (fun _=>false):=⟨.map [],World.ownsMap_made w _ _ _,fun z hz=>Vt,fun j=>rfl⟩
theorem GB.lt(h:GB w gm q t):gm<w.heap.size:=zig
theorem GB.same{w':World}(h:GB w gm q t)(hs:w'.heap[gm]?=w.heap[gm]?):GB w' gm q t:=zgk
theorem Zh:(prog.info? 3).map (fun i=>(i.zero,i.size,i.bytes))=some (some (zi 0),1,8):=SQ
theorem Xg w:(zeroValue 3).run prog w=.ok (zi 0) w:=by obtain⟨i0,dU,cO,cU,cV⟩:=qAO Zh;simp[zeroValue,typeInfo,dU,cO]
theorem Vi(j:Nat)(hj:j<1000):(Lit.int .i64 (j:Int)).wf=true:=qBo Sg
theorem GB.look(h:GB w gm q t)(j:Nat)(hj:j<1000):∃c:Int,(Instr.lookup 301 (.map (some gm)) (zi j) false).run prog w=.ok (zi c) w:=by obtain⟨D,h1,h2,h3⟩:=h;have gL:=Maps.keyOf_int_mk (P:=prog) underlying3 (Vi j hj);obtain⟨c,cF,_,_⟩:=h1.lookup_int (Maps.int_keyed underlying3) underlying301 underlying3 (Xg w) gL;exact⟨c,cF⟩
theorem GB.store(h:GB w gm q t)(hq:q<100000000)(j:Nat)(hj:j<1000) x(hx:(Lit.int .i64 x).wf=true) :
  ∃w',(Instr.mapUpdate 301 (.map (some gm)) (zi j) (zi x)).run prog w=.ok () w'/\GB w' gm (q+1) (fun i=>t i || (i == j))/\w.mapTurned w' gm:=by
 obtain⟨D,h1,h2,h3⟩:=h;have hK:=Maps.int_keyed (P:=prog) underlying3;have gL:=Maps.keyOf_int_mk (P:=prog) underlying3 (Vi j hj);obtain⟨w',cF,jy,ht⟩:=h1.store hK underlying301 Ts gL (plainElem_int underlying3 (a:=x) hx);have sr:=hK.key gL;refine⟨w',cF,⟨_,jy,fun z hz=>?_,fun i=>?_⟩,ht⟩
 ·by_cases e:z=j
  ·omega
  ·have aG:Lit.int .i64 z≠Lit.int .i64 (j:Int):=by intro e2;simp only[qCC,qBL]at e2;exact e e2
   rw[Maps.has_put_other aG]at hz;exact h2 z hz
 ·by_cases e:i=j
  ·subst e;exact ziF
  ·have aG:Lit.int .i64 (i:Int)≠Lit.int .i64 (j:Int):=by intro e2;simp only[qCC,qBL]at e2;omega
   show Maps.has _ _=(t i || (i == j))
   rw[Maps.has_put_other aG,h3 i,qAU.2 e,qCM]
theorem GB.keys{D:DataW Unit}(h1:w.ownsMap prog 3 (plainElem prog 3) gm q D)(h2:∀z:Int,Maps.has D (.int .i64 z)=true->0<=z)(h3:∀j:Nat,Maps.has D (.int .i64 j)=t j)(ht:∀j,t j=true->j<200) :
  (((List.range 200).filter t).map (fun i:Nat=>(i:Int))).Perm (intKeys D):=by
 refine CollectedI.perm (left:=fun _=>false) ⟨?_,fun z=>?_⟩ h1 (Maps.int_keyed underlying3) underlying3 (fun _=>rfl)
 ·exact qBc.2 ((List.nodup_range.filter _).imp (fun aG e=>aG Sg))
 ·constructor
  ·intro hz;obtain⟨i,hi,rfl⟩:=qAT.1 hz;refine⟨?_,rfl⟩;rw[h3];exact(qCS.1 hi).2
  ·rintro ⟨hz,_⟩;have h0:=h2 z hz;obtain⟨i,rfl⟩:∃i:Nat,z=i:=⟨z.toNat,Sg⟩;rw[h3]at hz;exact qAT.2 ⟨i,qCS.2 ⟨qAw.2 (ht i hz),hz⟩,rfl⟩
theorem Y7 gm W:zC 292 #[.map (some gm)] W (zr (.func (.func 324) #[] #[.pointer (some (zp W.heap.size))]) fun w'=>w'=W.alloc (.cells #[.map (some gm)] 301) ):=(qBt (n:=5)).1 (AnyZI.keys_in V6 Fence.wide 5 trivial rfl (some gm) W)
def Ra(t:Nat->Bool):LI:=((List.range 200).filter t).map (fun i:Nat=>(i:Int))
theorem zjO t:(Ra t).Pairwise (·<·):=by unfold Ra;exact qBc.2 ((List.pairwise_lt_range.filter _).imp (fun h=>Sg))
theorem Cd gm q t W(h:GB W gm q t)(ht:∀j,t j=true->j<200) :
  zC 291 #[.func (.func 324) #[] #[.pointer (some (zp W.heap.size))]] (W.alloc (.cells #[.map (some gm)] 301)) fun e w' =>∃v,e=.returned v/\w'.ownsRow W.heap.size 3 1 v (Ra t).length ((Ra t).map encZ)/\zB W w':=by
 obtain⟨D0,az,zky,hD⟩:=h;have xS:=GB.keys az zky hD ht;have bW:Maps.size D0<=200:=by
  have h1:=xS.length_eq;have h2:(((List.range 200).filter t).map (fun i:Nat=>(i:Int))).length<=200:=by rw[zLm];exact qAF (qBe _ _) Sk
  obtain⟨es,clock,_,_,_,e⟩:=az;rw[h1,e]at h2;unfold intKeys at h2;rw[zLm]at h2;rw[e];exact h2
 have zkC:Maps.size D0<=maxLen:=Ts;have Uc:Maps.size D0*8<=140737488355328:=Sg;have fC:=az.lt;have zdo:SeqGives Fence.wide 2 prog 324 #[.pointer (some (zp W.heap.size))] encZ (fun ss=>ss.Perm (intKeys D0)) (Maps.size D0) (W.alloc (.cells #[.map (some gm)] 301)) :=AnyZI.keys_gives (ρ:=BB) { V6 with } Fence.wide _ trivial rfl Sg W.heap.size gm q D0 _ Sk Sk (by obtain⟨es,clock,hb,Ft,hs,hD⟩:=az;exact⟨es,clock,(Below.heap_alloc _ _ gm fC).trans hb,Ft,hs,hD⟩);have cS:=AnyZI.sorted_in Vq Fence.wide 5 trivial trivial trivial trivial rfl Sg (zbn _) (enters_of func323 SQ rfl) 324 #[.pointer (some (zp W.heap.size))] trivial (enters_of func324 SQ rfl) _ _ zkC Uc _ zdo;change CallsIn _ _ prog 291 _ _ _ at cS;refine((qBt).1 cS).mono ?_;rintro e w' ⟨dv,ss,rfl,hS,bK,yH,hb⟩;have hr:=ownsRow_base_a (base':=W.heap.size) bK Sk;have TW:=hS.trans xS.symm;have e:ss.mergeSort (fun x y=>decide (x<=y))=Ra t:=(mergeSort_of_perm_i TW).trans (List.mergeSort_of_pairwise ((zjO t).imp (fun aB=>by simp only[leI,qDF];omega)));have hlen:ss.length=(Ra t).length:=by rw[<-e,List.length_mergeSort]
 rw[e,hlen]at hr;exact⟨dv,rfl,hr,((Below.refl _ W).alloc zNr _).trans (hb.mono Sk)⟩
theorem RU(x:Int) a1 a2(n1 c1 n2 c2:Nat) w(h0:0<=x)(h1:x<6400)(h2:x+n2<=6400) :
  zC 290 #[chV x a1 n1 c1 a2 n2 c2] w (zr (.bool true) fun w'=>zB w w'):=by
 have HB:=ae ((Below.refl _ w).alloc zNr (.cells #[zi x,.slice a1 n1 c1,.slice a2 n2 c2] 385));have h3:(n2:Int)<=6400-x:=Sg;unfold chV;go_enter func290,ntmps290
 exact zma
end
theorem qO{p}:∀k,(∀i,m<=i->i<m+k->p i=false)->(List.range (m+k)).filter p=(List.range m).filter p
 | 0,_=>rfl
 | k+1,h=>by
  rw[show m+(k+1)=m+k+1 by omega,qBl,qCF,qO k (fun i h1 h2=>h i h1 Sg)];have:([m+k].filter p)=[]:=by simp[h (m+k) Sg Sg]
  rw[this,qAh]
theorem Xt{K L}(hK:K.length=32*m)(hL:L.length=32*m)(hm:m<=200):pgE (mY K L K.length)=0/\Ra (kZ (mY K L K.length))=(cu K L m).map (fun i:Nat=>(i:Int)):=by
 have Jj:K.length=L.length:=by rw[hK,hL]
 obtain⟨h0,h1⟩:=zeo Jj Sg;have hd:=yR Jj K.length zNr;refine⟨h0,?_⟩;unfold Ra cu;obtain⟨k,hk⟩:∃k,m+k=200:=⟨200-m,Sg⟩;have e200:List.range 200=List.range (m+k):=by rw[hk]
 rw[e200,qO k (fun i hi _=>?_)]
 ·congr 1
  apply List.filter_congr;intro i hi;have hi':=qAw.1 hi;rw[qDE,h1 i Sg,qAK];rfl
 ·cases ht:kZ (mY K L K.length) i with
  | false=>rfl
  | true =>
   obtain⟨c,hc,j,hj,he⟩:=A8.1 ht;obtain⟨p,n,rfl,h2,h3,h4⟩:=hd.all c hc;have jE:(fw K L p n).2.2.length=n:=by
    show((L.drop p).take n).length=n
    exact zcR
   have hpt:(fw K L p n).1.toNat=p:=zTn p;rw[jE]at hj;rw[hpt]at he;omega
theorem zdS(h:k<l.length):l.getD k (0,[],[])∈l:=by have:l.getD k (0,[],[])=l[k]:=XZ;rw[this];exact qAf h
section
open Go.MapKept
open Go.ChangeMaps
open Go.Sort
open Go.Shelf
theorem GB.ext{s:Nat->Bool}(h:GB w gm q t)(e:∀j,t j=s j):GB w gm q s:=by have:t=s:=funext e;rw[<-this];exact h
theorem R6(hk:k<l.length)(hx:(l.getD k (0,[],[])).1=(X:Int))(hn:(l.getD k (0,[],[])).2.2.length=n)(h1:X<=p)(h2:p=X\/(p%32=0/\p<X+n+32/\X<X+n))(h3:X+n<=p) j :
  (kZ (l.take k) j || inP X p j)=kZ (l.take (k+1)) j:=by
 rw[wL hk,R5,hx,hn,zTn]
 congr 1
 rw[qDE,zg2 h1 h2 h3 j,qBH];constructor
 ·rintro ⟨i,hi,e⟩;exact⟨i,qAw.2 hi,WI⟩
 ·rintro ⟨i,hi,e⟩;exact⟨i,qAw.1 hi,WI⟩
theorem IN al cl l w(hl:Chs w al cl l)(h0:pgE l=0)(hn:l.length<=100000) :
  zC 240 #[.slice al l.length cl] w fun e w'=>∃v,e=zt #[v,.nilIface]/\w'.ownsRow w.heap.size 3 1 v (Ra (kZ l)).length ((Ra (kZ l)).map encZ)/\zB w w':=by
 have Jg:=@run_makeMap prog;have HL:=ae hl;have HP:=ae (fun k(hk:k<l.length)=>zci h0 _ (zdS hk));have HT:=ae (fun j(hj:kZ l j=true)=>MU h0 hj);have DG:=ae (fun k X n p(hk:k<l.length) hx hn h1 h2 h3=>R6 (l:=l) (k:=k) (X:=X) (n:=n) (p:=p) hk hx hn h1 h2 h3);generalize hm:l.length=m at*;have HM:=ae hm;clear hm;go_enter func240,ntmps240
 go_wp2_with fail
 go_loopw [12] (fun kv wr=>∃k q:Nat,k<=m/\kv=zi k/\q<=201*k/\GB wr w.heap.size q (kZ (l.take k))/\zB w wr) (fun kv _=>m-(intOf kv).toNat)
 case atStart=>exact⟨0,0,qAH _,rfl,zNr,GB.made w,(Below.refl _ w).alloc zNr _⟩
 case round =>
  obtain⟨k,q,hk,rfl,hq,sh,ai⟩:=hrel;by_cases aB:k<m
  ·have tP:k<l.length:=by rw[aa HM];exact aB
   obtain⟨b,off,s1,d1,s2,d2,rfl,q0,q1,q2,h1,h2⟩:=(HL.below ai).at tP;obtain⟨g0,g1,g2⟩:=HP k aB;have Ad:=fun X n p=>DG k X n p aB
   generalize l.getD k (0,[],[])=c at*;obtain⟨x,O,N⟩:=c;dsimp only at*;obtain⟨X,rfl⟩:=qAN g0;have hOl:=h1.2.2.1;have jz:zB wr (wr.alloc (.cells #[zi X,.slice s1 O.length d1,.slice s2 N.length d2] 385)):=(Below.refl _ wr).alloc zNr _;have hBA:Hid ((wr.alloc (.cells #[zi X,.slice s1 O.length d1,.slice s2 N.length d2] 385)).heap[wr.heap.size]?=some (.cells #[zi X,.slice s1 O.length d1,.slice s2 N.length d2] 385 (0,0))):=ae (qAB wr _);have HW:=ae (RU X s1 s2 O.length d1 N.length d2 (wr.alloc (.cells #[zi X,.slice s1 O.length d1,.slice s2 N.length d2] 385)) g0 g1 g2);unfold chV at HW;have zre:=ae (fun p h1 h2 h3=>Ad X N.length p rfl rfl h1 h2 h3);have HPM:=ae (sh.same (jz.block _ sh.lt));have HBT:=ae (ai.trans (jz.mono ai.size));have zrU:w.heap.size<wr.heap.size:=sh.lt;generalize O.length=o at*;generalize hNn:N.length=n at*;go_wp2_with fail
   refine HW.m ?_;intro w2 aK;have hblk:=(aK.block _ Sk).trans hBA;have zra:=ae (HPM.same (aK.block _ Tb));have bz:=zTr HBT aK;have e0:w2.cell? (zp wr.heap.size)=some (zi X):=by rw[qAD _ _ _ _ _ _ hblk];rfl
   have e2:w2.cell? (zw wr.heap.size 2)=some (.slice s2 n d2):=by rw[qAD _ _ _ _ _ _ hblk];rfl
   have Mw:(X:Int)+n<=6400:=Sg;go_wp2_with fail
   go_loopw [8] (fun av wq=>∃p q':Nat,av=zi p/\X<=p/\(p=X\/(p%32=0/\p<X+n+32/\X<X+n))/\q'<=201*k+(p / 32-X / 32)/\GB wq w.heap.size q' (fun j=>kZ (l.take k) j || inP X p j)/\zB w wq) (fun av _=>X+n+64-(intOf av).toNat)
   case atStart=>exact⟨X,q,rfl,zNr,.inl rfl,Sg,zra.ext (fun j=>by rw[zdc,qCM]),bz⟩
   case round =>
    obtain⟨p,q',rfl,hXp,hpd,Zt,sh,ai⟩:=hrel;by_cases si:p<X+n
    ·obtain⟨c,cN⟩:=sh.look (p / 32) Sg;obtain⟨w4,eF,znv,kx⟩:=sh.store Sg (p / 32) Sg (wrap64 (c+1)) (wrap64_wf _);have e1:((p / 32:Nat):Int)=(p:Int) / 32:=by omega
     rw[e1]at cN eF;have zq8:=ae znv;have fh:=ae (ai.grown kx.grown ai.size (fun j hj=>XW));have t1:(p:Int)<(X:Int)+n:=Sg;go_wp2;go_roundw
     case rel =>refine⟨p+(32-p%32),q'+1,?_,Sg,.inr Sg,Sg,zq8.ext (fun j=>by rw[zdd hXp,Bool.or_assoc]),fh⟩;exact Qm
     case measure=>exact Te
    ·have zq9:=ae (sh.ext (zre p hXp hpd Sg));have dF:=ae ai;go_wp2;go_roundw
     case rel=>exact⟨k+1,q',Sg,Tc,Sg,zq9,dF⟩
     case measure=>exact Te
  ·obtain rfl:k=m:=by omega
   have lF:l.take k=l:=by rw[<-aa HM,qAk]
   rw[lF]at sh;have HK:=ae (Y7 w.heap.size wr);have HS:=ae (Cd w.heap.size q (kZ l) wr sh HT);have HB:=ae ai;go_wp2_with fail
   refine HK.m ?_;rintro w2 rfl;go_wp2_with fail
   refine HS.mono ?_;rintro e w3 ⟨v,rfl,bK,bD⟩;have HR:=ae (ownsRow_base_a (base':=w.heap.size) bK HB.size);have dF:=zTr HB bD;go_wp2;go_ret2;exact⟨v,rfl,HR,dF⟩
