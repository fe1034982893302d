import Derived.Lib.ItoaMem
import Derived.Lib.AtoiTie
import Derived.Test.YtoiebmeajhpgcaaGreatDoorJRf
set_option maxRecDepth 100000
set_option maxHeartbeats 16000000
set_option linter.all false
namespace Go.Proofs.YtoiebmeajhpgcaaGreatDoor
variable {s:BA}{f k T i u:Nat}{w:World}{v:Int}{A:List UInt8}
open Tryz
open Go.RowKit
theorem zM(k:Nat)(hk:k<=9) w:zC 27 #[zi k] w (zr (.string (nJ k)) fun w'=>zB w w'):=by
 have:k=0\/k=1\/k=2\/k=3\/k=4\/k=5\/k=6\/k=7\/k=8\/k=9:=Sg;rcases this with rfl|rfl|rfl|rfl|rfl|rfl|rfl|rfl|rfl|rfl <;>
 ·go_enter func27,ntmps27
  exact zdm
theorem Cn s(k:Nat)(hk:k<=9) w:zC 42 #[.string s,zi k] w (zr (.string (if k=0 then s else nJ k)) fun w'=>zB w w'):=by
 have HN:=ae (zM k hk w);by_cases h0:k=0
 ·subst h0;go_enter func42,ntmps42
  exact zbL
 ·rw[zn h0];generalize nJ k=T at*;go_enter func42,ntmps42
  go_wp2_with fail
  refine HN.mono ?_;rintro e w' ⟨rfl,hb⟩;have HB:=ae hb;exact zma
def pG(s:BA)(f:Nat):Nat->Int
 | 0=>0
 | k+1=>pG s f k*10+((hZ s (f+k)).toNat:Int)-48
def yQ(s:BA)(f k:Nat):Prop:=∀j,j<k->48<=(hZ s (f+j)).toNat/\(hZ s (f+j)).toNat<=57
theorem zcu:∀k,yQ s f k->0<=pG s f k/\pG s f k<10 ^ k
 | 0,_=>⟨qBA _,by show(0:Int)<10 ^ 0;decide⟩
 | k+1,h=>by
  obtain⟨h1,h2⟩:=zcu k (fun j hj=>h j Sg);obtain⟨h3,h4⟩:=h k Sg;have:(10:Int) ^ (k+1)=10 ^ k*10:=qCn _ _
  show 0<=pG s f k*10+((hZ s (f+k)).toNat:Int)-48/\pG s f k*10+((hZ s (f+k)).toNat:Int)-48<10 ^ (k+1)
  rw[this];generalize (10:Int) ^ k=T at*;omega
theorem KY(hk:k<=9)(h:yQ s f k):0<=pG s f k/\pG s f k<1000000000:=by
 obtain⟨h1,h2⟩:=zcu k h;have h3:(10:Int) ^ k<=10 ^ 9:=by have:=qDG (n:=10) Si hk;exact_mod_cast this
 omega
def dgB(s:BA)(f k:Nat):Bool:=(List.range k).all fun j=>decide (48<=(hZ s (f+j)).toNat/\(hZ s (f+j)).toNat<=57)
theorem LU:dgB s f k=true ↔ yQ s f k:=by unfold dgB yQ;rw[List.all_eq_true];exact⟨fun h j hj=>qCr (h j (qAw.2 hj)),fun h j hj=>qAE (h j (qAw.1 hj))⟩
def Re(s:BA)(f:Nat):Option Int:=if s.size=f\/f+9<s.size\/(hZ s f=48/\1<s.size)\/¬dgB s f (s.size-f)=true then none else some (pG s f (s.size-f))
def EH(s:BA):Option Int:=if s.size≠0/\hZ s 0=45 then (Re s 1).map (fun x=>-x)else Re s 0
def K0(x:Option Int):Value:=match x with | some v=>.tuple #[zi v,.bool true] | none=>.tuple #[zi 0,.bool false]
theorem jO(h:s.size=f\/f+9<s.size\/(hZ s f=48/\1<s.size)\/¬yQ s f (s.size-f)):Re s f=none:=zy (by rw[LU];exact h)
theorem zL(h1:s.size≠f)(h2:¬f+9<s.size)(h3:¬(hZ s f=48/\1<s.size))(h4:yQ s f (s.size-f)):Re s f=some (pG s f (s.size-f)):=zn (fun h=>by
 rcases h with h|h|h|h
 ·exact h1 h
 ·exact h2 h
 ·exact h3 h
 ·exact h (LU.2 h4))
theorem YH w:zC 20 #[.string ⟨#[]⟩] w (zr (K0 none) fun w'=>w=w'):=by exact wG
theorem YJ s(hs:s.size<=3000)(h0:0<s.size)(hc:s[0]≠45) w:zC 20 #[.string s] w (zr (K0 (Re s 0)) fun w'=>w=w'):=by
 have aG:s≠⟨#[]⟩:=by rintro rfl;exact absurd h0 Si
 have eT:¬((s[0].toNat:Nat):Int)=45:=fun h=>hc (qDC.1 (show s[0].toNat=45 by omega))
 have he:s.toList.isEmpty=false:=zph;have lI:(((s[0].toNat:Nat):Int) == 45)=false:=qAU.2 eT;by_cases q1:9<s.size
 ·rw[jO (.inr (.inl Sg))];have q1:(9:Int)<(s.size:Int):=by omega
  exact wG
 ·have p1:¬(9:Int)<(s.size:Int):=by omega
  by_cases q2:s[0]=48/\1<s.size
  ·rw[jO (.inr (.inr (.inl (by rw[kO h0];exact q2))))];have q3:((s[0].toNat:Nat):Int)=48:=by rw[q2.1];rfl
   have q4:(1:Int)<(s.size:Int):=Sg;exact wG
  ·have hz:((s.size:Int) == 0)=false:=qAU.2 Sg;have q3:¬(((s[0].toNat:Nat):Int)=48/\(1:Int)<(s.size:Int)):=fun h=>q2 ⟨qDC.1 (show s[0].toNat=48 by omega),Sg⟩
   have HQ2:=ae q2;clear q2;have hq:((((s[0].toNat:Nat):Int) == 48)=false)\/(((s[0].toNat:Nat):Int)=48/\¬(1:Int)<(s.size:Int)):=by
    by_cases h:((s[0].toNat:Nat):Int)=48
    ·exact .inr ⟨h,fun h2=>q3 ⟨h,h2⟩⟩
    ·exact .inl (qAU.2 h)
   rcases hq with hq|⟨hq,qT⟩
   ·exact eI
   ·have CX:(((s[0].toNat:Nat):Int) == 48)=true:=qCA.2 hq;exact eI
theorem YI s(hs:s.size<=3000)(h0:0<s.size)(hc:s[0]=45) w:zC 20 #[.string s] w (zr (K0 ((Re s 1).map (fun x=>-x))) fun w'=>w=w'):=by
 have eT:((s[0].toNat:Nat):Int)=45:=by rw[hc];rfl
 have he:s.toList.isEmpty=false:=zph;have lI:(((s[0].toNat:Nat):Int) == 45)=true:=qCA.2 eT;by_cases q0:s.size=1
 ·rw[jO (.inl q0)];have q1:(s.size:Int)=1:=by omega
  exact wG
 have h1s:1<s.size:=Sg;have hz:((s.size:Int) == 1)=false:=qAU.2 Sg;by_cases q1:10<s.size
 ·rw[jO (.inr (.inl Sg))];have q1:(9:Int)<(s.size:Int)-1:=by omega
  exact wG
 ·have p1:¬(9:Int)<(s.size:Int)-1:=by omega
  have q4:(1:Int)<(s.size:Int):=Sg;by_cases q2:s[1]=48
  ·rw[jO (.inr (.inr (.inl (by rw[kO h1s];exact⟨q2,h1s⟩))))];have q3:((s[1].toNat:Nat):Int)=48:=by rw[q2];rfl
   exact wG
  ·have HQ2:Hid (¬(s[1]=48/\1<s.size)):=ae (fun h=>q2 h.1);have hq:(((s[1].toNat:Nat):Int) == 48)=false:=qAU.2 (fun h=>q2 (qDC.1 (show s[1].toNat=48 by omega)));clear q2
   ·go_enter func20,ntmps20
    go_wp2_with fail
    go_loopw [5,6] (fun nv iv wr=>∃i:Nat,1+i<=s.size/\iv=zi ((1:Int)+(i:Int))/\nv=zi (pG s 1 i)/\yQ s 1 i/\w=wr) (fun _ iv _=>s.size-(intOf iv).toNat)
    case atStart=>exact⟨0,Sg,rfl,rfl,fun j hj=>absurd hj (qAX _),rfl⟩
    case round =>
     obtain⟨i,hi,rfl,rfl,hd,rfl⟩:=hrel;have hv:=KY (k:=i) Sg hd;have Lo:((1:Int)+(i:Int)).toNat=1+i:=Sg;by_cases aB:1+i<s.size
     ·have hC:=kO aB;have PN:hZ s (1+i)=s[1+i]:=hC;have t0:(1:Int)+(i:Int)<(s.size:Int):=by omega
      by_cases hg:48<=(s[1+i]).toNat/\(s[1+i]).toNat<=57
      ·have g1:¬(((s[1+i]).toNat:Nat):Int)<48:=by omega
       have g2:¬(57:Int)<(((s[1+i]).toNat:Nat):Int):=Sg;have DG:Hid (pG s 1 (i+1)=pG s 1 i*10+(((s[1+i]).toNat:Nat):Int)-48):=ae (by show pG s 1 i*10+((hZ s (1+i)).toNat:Int)-48=_;rw[PN]);have HD:Hid (yQ s 1 (i+1)):=ae (fun j hj=>by
        by_cases h:j<i
        ·exact hd j h
        ·obtain rfl:j=i:=by omega
         rw[PN];exact hg)
       clear hd hC PN hg;generalize pG s 1 i=x at*;go_wp2;go_roundw
       case rel=>exact⟨i+1,Sg,Tc,by rw[aa DG],HD,trivial⟩
       case measure=>exact Te
      ·have HR:Hid (Re s 1=none):=ae (jO (.inr (.inr (.inr (fun h=>hg (by rw[<-PN];exact h i Sg))))));have um:(((s[1+i]).toNat:Nat):Int)<48\/¬(((s[1+i]).toNat:Nat):Int)<48/\(57:Int)<(((s[1+i]).toNat:Nat):Int):=by omega
       clear hd hC PN hg;generalize pG s 1 i=x at*;rcases um with hg|⟨hg,um⟩
       ·exact zl6
       ·exact zl6
     ·obtain rfl:i=s.size-1:=by omega
      have HR:Hid (Re s 1=some (pG s 1 (s.size-1))):=ae (zL Sg Sg (by rw[kO h1s];exact HQ2) hd);have t0:¬(1:Int)+((s.size-1:Nat):Int)<(s.size:Int):=Sg;clear hd;generalize pG s 1 (s.size)=x at*;exact zl6
theorem EG s(hs:s.size<=3000) w:zC 20 #[.string s] w (zr (K0 (EH s)) fun w'=>w=w'):=by
 by_cases h0:s.size=0
 ·have hn:EH s=none:=by unfold EH;rw[zn (fun h=>h.1 h0)];exact jO (.inl h0)
  rw[hn];obtain rfl:s=⟨#[]⟩:=by
   have:s.data.size=0:=h0;cases s
   congr
   exact Array.eq_empty_of_size_eq_zero this
  exact YH w
 ·have h1:0<s.size:=by omega
  unfold EH;by_cases hc:s[0]=45
  ·rw[zy ⟨h0,by rw[kO h1];exact hc⟩];exact YI s hs h1 hc w
  ·rw[zn (fun h=>hc (by rw[<-kO h1];exact h.2))];exact YJ s hs h1 hc w
theorem iM{α:Type}{enc}{P}{ops}{rest}{o}{a}{Q}(oA:o.guard=none) s x(t:TypeId)(ho:o.op=.call { callee:=.builtin .append,args:=#[s,x],argTypes:=#[t,t]}) B(i0:TypeInfo) z bytes(ht:P.underlying t=some (.slice T))(hi:P.info? T=some i0)(hz:i0.zero=some z)(uh:i0.size=k)(iF:i0.bytes=bytes)(hzs:z.cells.size=k)(bW:0<k)(vQ:bytes<=100) v l(hs:a.eval s=v)(az:cX enc k T w B v l) g(y:α)(hx:a.eval x=.slice (zo g) 1 1)(hy:w.heap[g]?=some (.cells (enc y).toArray T (0,0)))(hk:(enc y).length=k)(h1:∀u∈enc y,u.oneCell'=true)(hn:l.length<=100000)(hB:B<=w.heap.size)(h:∀v' w',cX enc k T w' B v' (l++[y])->Below B w w'->wpList P ops Q rest (a.put o.dst v') w') :
  wpList P ops Q (o::rest) a w:=by
 refine wpList_append_own_at w oA s x t ho B T i0 z k bytes ht hi hz uh iF hzs bW v l.length (l.flatMap enc) hs az (zp g) 1 1 (enc y) hx zdg (fun j u hj=>?_) h1 Ts (qAF (qCg (show l.length+1<=100001 by omega) vQ) Si) hB ?_
 ·exact zgx
 ·intro v' w' sX oH _ yG;exact zpa
def sbS(s:BA)(i j:Nat):BA:=s.extract i j
def wdK(s:BA):Nat->List BA×Nat
 | 0=>([],0)
 | i+1=>if hZ s i=32 then ((wdK s i).1++[sbS s (wdK s i).2 i],i+1)else wdK s i
def wdA(s:BA):List BA:=(wdK s s.size).1++[sbS s (wdK s s.size).2 s.size]
theorem zaY s:∀i,(wdK s i).2<=i/\(wdK s i).1.length<=i
 | 0=>⟨zNr,zNr⟩
 | i+1=>by
  obtain⟨h1,h2⟩:=zaY s i
  show(if hZ s i=32 then ((wdK s i).1++[sbS s (wdK s i).2 i],i+1)else wdK s i).2<=i+1/\(if hZ s i=32 then ((wdK s i).1++[sbS s (wdK s i).2 i],i+1)else wdK s i).1.length<=i+1
  split
  ·exact⟨zNr,by rw[zLa,qBM];show(wdK s i).1.length+1<=i+1;omega⟩
  ·exact⟨Sg,Sg⟩
theorem Vj(h:hZ s i=32):wdK s (i+1)=((wdK s i).1++[sbS s (wdK s i).2 i],i+1):=zy h
theorem zaX(h:hZ s i≠32):wdK s (i+1)=wdK s i:=zn h
theorem Xk s(hs:s.size<=3000) w:zC 19 #[.string s] w fun e w'=>∃v,e=.returned v/\cX stC 1 9 w' w.heap.size v (wdA s)/\zB w w':=by
 obtain⟨i0,dU,cO,cU,cV⟩:=qAO BF;go_enter func19,ntmps19
 go_wp2_with fail
 go_loopw [3,4,5] (fun ov fv iv wr=>∃i:Nat,i<=s.size/\iv=zi i/\fv=zi (wdK s i).2/\cX stC 1 9 wr w.heap.size ov (wdK s i).1/\zB w wr) (fun _ _ iv _=>s.size-(intOf iv).toNat)
 case atStart=>exact⟨0,Sg,rfl,rfl,cX.nil _ _,zBr⟩
 case round =>
  obtain⟨i,hi,rfl,rfl,hl,hb⟩:=hrel;have hk:=zaY s i;have bW:=hb.size;by_cases aB:i<s.size
  ·have hC:=kO aB;by_cases hg:s[i]=32
   ·have Mu:((s[i].toNat:Nat):Int)=32:=by rw[hg];rfl
    have HK:=ae (Vj (s:=s) (i:=i) (by rw[hC];exact hg));have HB:=ae hb;have HL:=ae (fun o=>hl.below ((Below.refl wr.heap.size wr).alloc zNr o));clear hl hb hC hg;generalize (wdK s i).2=f at*;generalize (wdK s i).1=L at*;have k1:(f:Int)<=(i:Int):=Sg;have k2:(i:Int)<=(s.size:Int):=Sg;have hz:w.heap.size<=(wr.alloc (.cells #[.string (s.extract f i)] 9)).heap.size:=Tb;go_wp2_with (at_builtin;refine iM rfl _ _ 60 rfl w.heap.size i0 (.string ByteArray.empty) 16 underlying60 dU cO cU cV rfl Si Si _ L rfl (HL _) wr.heap.size (s.extract f i) rfl (qAB _ _) rfl (tn _) Sg hz ?_)
    intro v9 w9 AV ji;have RD:=ae AV;have kE:=ae ((HB.alloc (Nat.le_of_lt_succ Sg) (.cells #[.string (s.extract f i)] 9)).trans ji);clear AV ji HL HB;go_wp2;go_roundw
    case rel=>exact⟨i+1,Sg,Tc,by rw[aa HK];go_num,by rw[aa HK];exact RD,kE⟩
    case measure=>exact Te
   ·have Mu:¬((s[i].toNat:Nat):Int)=32:=fun h=>hg (qDC.1 (show s[i].toNat=32 by omega))
    have HK:=ae (zaX (s:=s) (i:=i) (by rw[hC];exact hg));have HL:=ae hl;have HB:=ae hb;clear hl hb hC hg;generalize hf:(wdK s i).2=f at*;generalize hL:(wdK s i).1=L at*;go_wp2;go_roundw
    case rel=>exact⟨i+1,Sg,Tc,by rw[aa HK,hf],by rw[aa HK,hL];exact HL,HB⟩
    case measure=>exact Te
  ·obtain rfl:i=s.size:=by omega
   have HA:Hid (wdA s=(wdK s s.size).1++[s.extract (wdK s s.size).2 s.size]):=ae rfl;have HB:=ae hb;have HL:=ae (fun o=>hl.below ((Below.refl wr.heap.size wr).alloc zNr o));clear hl hb;generalize (wdK s s.size).2=f at*;generalize (wdK s s.size).1=L at*;have k1:(f:Int)<=(s.size:Int):=Sg;have hz:w.heap.size<=(wr.alloc (.cells #[.string (s.extract f s.size)] 9)).heap.size:=Tb;go_wp2_with (at_builtin;refine iM rfl _ _ 60 rfl w.heap.size i0 (.string ByteArray.empty) 16 underlying60 dU cO cU cV rfl Si Si _ L rfl (HL _) wr.heap.size (s.extract f s.size) rfl (qAB _ _) rfl (tn _) Sg hz ?_)
   intro v9 w9 AV ji;have RD:=ae AV;have kE:=ae ((HB.alloc (Nat.le_of_lt_succ Sg) (.cells #[.string (s.extract f s.size)] 9)).trans ji);clear AV ji HL HB;go_wp2;go_ret;exact⟨_,rfl,by rw[aa HA];exact RD,kE⟩
theorem zg9:(List.range 256).all (fun n=>sV (UInt8.ofNat n) == (if 97<=n/\n<=102 then (n:Int)-87 else if 48<=n/\n<=57 then (n:Int)-48 else -1))=true:=SQ
theorem zkk c:sV c=if 97<=c.toNat/\c.toNat<=102 then (c.toNat:Int)-87 else if 48<=c.toNat/\c.toNat<=57 then (c.toNat:Int)-48 else -1:=by have h:=List.all_eq_true.1 zg9 c.toNat (qAw.2 c.toNat_lt);have e:UInt8.ofNat c.toNat=c:=Sk;rw[e]at h;exact eq_of_beq h
def pj(s:BA):Nat->LI
 | 0=>[]
 | i+1=>if i%2=0 then pj s i++[sV (hZ s i)*16]else (pj s i).set (i / 2) ((pj s i).getD (i / 2) 0+sV (hZ s i))
theorem xz s:∀i,(pj s i).length=(i+1) / 2
 | 0=>rfl
 | i+1=>by
  show(if i%2=0 then pj s i++[sV (hZ s i)*16]else (pj s i).set (i / 2) ((pj s i).getD (i / 2) 0+sV (hZ s i))).length=_
  have:=xz s i;split
  ·rw[zLa,qBM];omega
  ·rw[qAz];omega
theorem zhU s i(h:i%2=1):(pj s i).getD (i / 2) 0=sV (hZ s (i-1))*16:=by obtain⟨k,rfl⟩:∃k,i=k+1:=⟨i-1,Sg⟩;have hk:k%2=0:=Sg;have hl:=xz s k;have e:pj s (k+1)=pj s k++[sV (hZ s k)*16]:=zy hk;rw[e,qAC,qAR Sg];have:(k+1) / 2-(pj s k).length=0:=Sg;rw[this];rfl
def bzC(z:Int):List Value:=[.int .u8 z]
theorem WT z:∀u∈bzC z,u.oneCell'=true:=by intro u hu;rw[zMs hu];rfl
theorem L6(l:LI):l.flatMap bzC=l.map (Value.int .u8):=by
 induction l with
 | nil=>rfl
 | cons x r ih=>rw[qCB,qAn,ih];rfl
theorem cX.zmL{B}{v}{l}(h:cX bzC 1 T w B v l) i(hi:i<l.length):∃g cap,v=.slice (zo g) l.length cap/\l.length<=cap/\B<=g/\w.cell? (zw g i)=some (.int .u8 (l.getD i 0))/\w.frozen? (zw g i)=false/\∀x,cX bzC 1 T (w.setCell (zw g i) (.int .u8 x)) B v (l.set i x):=by
 obtain⟨h1,h2⟩:=h;rcases h2 with ⟨rfl,h0⟩|⟨g,cap,cur,rfl,hB,hc,h3,h4,h5,h6⟩
 ·omega
 ·rw[L6,qCN]at h6;have bf:cur[i]?=some (.int .u8 (l.getD i 0)):=by have e:=qBB (fun z=>z[i]?) h6;rw[List.getElem?_take_of_lt hi,qBN,zLg hi]at e;rw[qAC,zLg hi,<-qCV,e];rfl
  refine⟨g,cap,rfl,h3,hB,?_,qAd w g i _ _ hc,fun x=>?_⟩
  ·rw[qAD _ _ _ _ _ _ hc];exact bf
  ·refine⟨by rw[L6,zLm,qCN],.inr ⟨g,cap,cur.setIfInBounds i (.int .u8 x),by rw[qAz],hB,qAI w g i _ _ _ hc,by rw[qAz];exact h3,h4,by rw[Array.size_setIfInBounds];exact h5,?_⟩⟩;rw[L6,qCN,qAz,Array.toList_setIfInBounds,List.take_set,h6,List.map_set]
theorem Qx(h:i%2=0):pj s (i+1)=pj s i++[sV (hZ s i)*16]:=zy h
theorem Qw(h:i%2≠0):pj s (i+1)=(pj s i).set (i / 2) ((pj s i).getD (i / 2) 0+sV (hZ s i)):=zn h
def byO(s:BA):Option (LI):=if s.size%2=0/\∀j,j<s.size->0<=sV (hZ s j)then some (pj s s.size)else none
theorem zc7:(prog.info? 5).map (fun i=>(i.zero,i.size,i.bytes))=some (some (.int .u8 0),1,1):=SQ
def ByP(w:World)(s:BA)(e:Ending)(w':World):Prop:=zB w w'/\match byO s with | some l=>∃v,e=zt #[v,.bool true]/\cX bzC 1 5 w' w.heap.size v l | none=>e=zt #[.slice none 0 0,.bool false]
theorem Qu s(hs:s.size<=3000) w:zC 24 #[.string s] w (ByP w s):=by
 obtain⟨i0,dU,cO,cU,cV⟩:=qAO zc7;by_cases he:s.size%2=0
 ·have he2:(s.size:Int).tmod 2=0:=by rw[qCL Sg];omega
  go_enter func24,ntmps24
  go_wp2_with fail
  go_loopw [4,5,6] (fun bv iv _ wr=>∃i:Nat,i<=s.size/\iv=zi i/\(∀j,j<i->0<=sV (hZ s j))/\cX bzC 1 5 wr w.heap.size bv (pj s i)/\zB w wr) (fun _ iv _ _=>s.size-(intOf iv).toNat)
  case atStart=>exact⟨0,Sg,rfl,fun j hj=>absurd hj (qAX _),cX.nil _ _,zBr⟩
  case round =>
   obtain⟨i,hi,rfl,hg,hl,hb⟩:=hrel;have bW:=hb.size;by_cases aB:i<s.size
   ·have hC:=kO aB;have hD:=zkk (hZ s i);have jE:=xz s i;have Fh:=zhU s i;have hpv:=fun h1:1<=i=>(show 0<=sV (hZ s (i-1))/\sV (hZ s (i-1))<16 from⟨hg (i-1) Sg,Fb _⟩)
    have eX:0<=sV (hZ s i)->∀j,j<i+1->0<=sV (hZ s j):=fun h j hj=>by
     by_cases h2:j<i
     ·exact hg j h2
     ·obtain rfl:j=i:=by omega
      exact h
    have eQ:sV (hZ s i)<0->byO s=none:=fun h=>zn (fun h2=>by have:=h2.2 i aB;omega)
    have Jp:=Qx (s:=s) (i:=i);have Ad:=Qw (s:=s) (i:=i);rw[hC]at hD;rw[hC]at eX eQ Jp Ad;have znL:s[i].toNat<256:=s[i].toNat_lt;generalize sV s[i]=D at*;obtain⟨n,hn⟩:∃n:Nat,s[i].toNat=n:=⟨_,rfl⟩;rw[hn]at hD znL;have zqu:(n<48/\D=-1)\/(57<n/\n<97/\D=-1)\/(102<n/\D=-1)\/(48<=n/\n<=57/\D=n-48)\/(97<=n/\n<=102/\D=n-87):=by
     rw[hD];by_cases a1:97<=n/\n<=102
     ·rw[zy a1];omega
     ·rw[zn a1];by_cases a2:48<=n/\n<=57
      ·rw[zy a2];omega
      ·rw[zn a2];omega
    clear hD hC;rcases zqu with ⟨a1,a2⟩|⟨a1,a2,a3⟩|⟨a1,a2⟩|⟨a1,a2,a3⟩|⟨a1,a2,a3⟩
    ·have HN:=ae (eQ Sg);have HB:=ae hb;clear eQ eX Jp Ad Fh hpv hl hb hg;have f0:((s[i].toNat:Nat):Int)<48:=by omega
     have f1:((s[i].toNat:Nat):Int)<97:=Sg;exact zjd
    ·have HN:=ae (eQ Sg);have HB:=ae hb;clear eQ eX Jp Ad Fh hpv hl hb hg;have f0:(48:Int)<=((s[i].toNat:Nat):Int):=by omega
     have f1:(57:Int)<((s[i].toNat:Nat):Int):=Sg;have f2:((s[i].toNat:Nat):Int)<97:=Sg;exact zjd
    ·have HN:=ae (eQ Sg);have HB:=ae hb;clear eQ eX Jp Ad Fh hpv hl hb hg;have f0:(48:Int)<=((s[i].toNat:Nat):Int):=by omega
     have f1:(57:Int)<((s[i].toNat:Nat):Int):=Sg;have f2:(97:Int)<=((s[i].toNat:Nat):Int):=Sg;have f3:(102:Int)<((s[i].toNat:Nat):Int):=Sg;exact zjd
    ·have HE:=ae (show D*16=(((s[i].toNat:Nat):Int)-48)*16 by omega);have gY:=ae (show D=((s[i].toNat:Nat):Int)-48 by omega);have dlo:0<=D/\D<16:=by omega
     have f0:(48:Int)<=((s[i].toNat:Nat):Int):=Sg;have f1:((s[i].toNat:Nat):Int)<=57:=Sg;have f2:((s[i].toNat:Nat):Int)<97:=Sg;exact fb
    ·have HE:=ae (show D*16=(((s[i].toNat:Nat):Int)-87)*16 by omega);have gY:=ae (show D=((s[i].toNat:Nat):Int)-87 by omega);have dlo:0<=D/\D<16:=by omega
     have f0:(48:Int)<=((s[i].toNat:Nat):Int):=Sg;have f1:(57:Int)<((s[i].toNat:Nat):Int):=Sg;have f2:(97:Int)<=((s[i].toNat:Nat):Int):=Sg;have f3:((s[i].toNat:Nat):Int)<=102:=Sg;exact fb
   ·obtain rfl:i=s.size:=by omega
    have HR:Hid (byO s=some (pj s s.size)):=ae (zy ⟨he,hg⟩);have HL:=ae hl;have HB:=ae hb;have jE:=xz s s.size;clear hl hb hg;generalize pj s s.size=L at*;go_wp2;go_ret2;exact⟨HB,by rw[aa HR];exact⟨_,rfl,HL⟩⟩
 ·have he2:¬(s.size:Int).tmod 2=0:=by rw[qCL Sg];omega
  have HR:Hid (byO s=none):=ae (zn (fun h=>he h.1));have he3:((s.size:Int)%2 == 0)=false:=qAU.2 Sg;have he4:((s.size:Int)%2 != 0)=true:=qBZ.2 Sg;clear he;go_enter func24,ntmps24
  go_wp2;go_ret2;exact⟨zBr,by rw[aa HR];exact rfl⟩
theorem zg7:(List.range 256).all (fun n=>Ri (Ri 0 ((n / 16:Nat):Int)) ((n%16:Nat):Int) == (n:Int))=true:=SQ
theorem zg6{a b}(ha:0<=a/\a<16)(hb:0<=b/\b<16):Ri (Ri 0 a) b=a*16+b:=by obtain⟨n,hn⟩:∃n:Nat,(n:Int)=a*16+b:=⟨(a*16+b).toNat,Sg⟩;have h:=eq_of_beq (List.all_eq_true.1 zg7 n (qAw.2 Sg));have e1:((n / 16:Nat):Int)=a:=Sg;have e2:((n%16:Nat):Int)=b:=Sg;rw[e1,e2]at h;rw[h,hn]
theorem zhT:pj s (2*k+2)=pj s (2*k)++[sV (hZ s (2*k))*16+sV (hZ s (2*k+1))]:=by
 have hl:(pj s (2*k)).length=k:=by rw[xz];omega
 have hd:(2*k+1) / 2=k:=Sg;rw[Qw (i:=2*k+1) Sg,Qx (i:=2*k) Sg,hd];rw[qAC,qAR Sg,hl,qCY,List.set_append_right _ _ Sg,hl,qCY];rfl
theorem zg5:BG s (2*k+2)=(BG s (2*k)).set k (Ri (((BG s (2*k)).set k (Ri ((BG s (2*k)).getD k 0) (sV (hZ s (2*k))))).getD k 0) (sV (hZ s (2*k+1)))):=by have h1:BG s (2*k+2)=(BG s (2*k+1)).set ((2*k+1) / 2) (Ri ((BG s (2*k+1)).getD ((2*k+1) / 2) 0) (sV (hZ s (2*k+1)))):=rfl;have h2:BG s (2*k+1)=(BG s (2*k)).set (2*k / 2) (Ri ((BG s (2*k)).getD (2*k / 2) 0) (sV (hZ s (2*k)))):=rfl;have hd:(2*k+1) / 2=k:=Sg;have Wl:2*k / 2=k:=Sg;rw[h1,hd,h2,Wl,List.set_set]
theorem Wa s(hs:s.size%2=0)(hg:∀j,j<s.size->0<=sV (hZ s j)):∀k,2*k<=s.size->BG s (2*k)=pj s (2*k)++af (s.size / 2-k)
 | 0,_=>by show af _=[]++_;rw[qAg];rfl
 | k+1,h=>by
  have ih:=Wa s hs hg k Sg;have hl:(pj s (2*k)).length=k:=by rw[xz];omega
  obtain⟨m,hm⟩:∃m,s.size / 2-k=m+1:=⟨s.size / 2-k-1,Sg⟩;have hz:af (m+1)=0::af m:=rfl;have a1:=hg (2*k) Sg;have a2:=hg (2*k+1) Sg;have b1:=Fb (hZ s (2*k));have b2:=Fb (hZ s (2*k+1));rw[show 2*(k+1)=2*k+2 by omega,zg5,zhT,ih,hm,hz,show s.size / 2-(k+1)=m by omega];have g0:(pj s (2*k)++0::af m).getD k 0=0:=by rw[qAC,qAR Sg,hl,qCY];rfl
  rw[g0];have g1:∀x,(pj s (2*k)++0::af m).set k x=pj s (2*k)++x::af m:=fun x=>by rw[List.set_append_right _ _ Sg,hl,qCY];rfl
  rw[g1,g1];have g2:∀x,(pj s (2*k)++x::af m).getD k 0=x:=fun x=>by rw[qAC,qAR Sg,hl,qCY];rfl
  rw[g2,zg6 ⟨a1,b1⟩ ⟨a2,b2⟩,qBO];rfl
theorem zlu s:byO s=Mr s:=by
 unfold byO Mr;by_cases h:s.size%2=0/\∀j,j<s.size->0<=sV (hZ s j)
 ·rw[zy h,zy h];have e:=Wa s h.1 h.2 (s.size / 2) Sg;have e2:2*(s.size / 2)=s.size:=by omega
  rw[e2,qCY]at e;rw[e];exact qBB some (qAh _).symm
 ·rw[zn h,zn h]
theorem DB(h:¬u<10):Go.Lib.decDigits u=Go.Lib.decDigits (u / 10)++[UInt8.ofNat (48+u%10)]:=by rw[Go.Lib.decDigits,dif_neg h]
def L9(s:BA)(f k:Nat):List UInt8:=(List.range k).map fun j=>hZ s (f+j)
theorem FZ s f k:L9 s f (k+1)=L9 s f k++[hZ s (f+k)]:=by unfold L9;rw[qBl,qAc];rfl
theorem VM s f:∀k:Nat,yQ s f (k+1)->(k=0\/hZ s f≠48)->Go.Lib.decDigits (pG s f (k+1)).toNat=L9 s f (k+1)/\(hZ s f≠48->1<=pG s f (k+1))
  | 0,hd,_=>by
    have h0:=hd 0 Sg;have e:pG s f 1=((hZ s f).toNat:Int)-48:=by
      show 0*10+((hZ s (f+0)).toNat:Int)-48=_
      rw[qAq];omega
    rw[qAq]at h0;have et:(pG s f 1).toNat=(hZ s f).toNat-48:=Sg;refine⟨?_,fun aG=>?_⟩
    · show Go.Lib.decDigits (pG s f 1).toNat=_
      rw[et,Go.Lib.decDigits_one Sg,FZ,qAq]
      show [_]=[]++[_]
      rw[qAg,show 48+((hZ s f).toNat-48)=(hZ s f).toNat by omega];simp
    · have:(hZ s f).toNat≠48:=fun h=>aG (qDC.1 (by rw[h];rfl))
      show 1<=pG s f 1
      omega
  | k+1,hd,hz=>by
    have aG:hZ s f≠48:=by
      rcases hz with h|h
      · omega
      · exact h
    obtain⟨h1,h2⟩:=VM s f k (fun j hj=>hd j Sg) (.inr aG);have h2:=h2 aG;have h3:=hd (k+1) Sg;have e:pG s f (k+2)=pG s f (k+1)*10+((hZ s (f+(k+1))).toNat:Int)-48:=rfl;have e1:(pG s f (k+2)).toNat / 10=(pG s f (k+1)).toNat:=Sg;have e2:(pG s f (k+2)).toNat%10=(hZ s (f+(k+1))).toNat-48:=Sg;refine⟨?_,fun _=>by show 1<=pG s f (k+2);omega⟩
    show Go.Lib.decDigits (pG s f (k+2)).toNat=_
    rw[DB Sg,e1,e2,h1,FZ s f (k+1),show 48+((hZ s (f+(k+1))).toNat-48)=(hZ s (f+(k+1))).toNat by omega];simp
theorem VN(hf:f<s.size)(Fl:f<=1)(h:Re s f=some v):Go.Lib.decDigits v.toNat=L9 s f (s.size-f)/\0<=v/\v<=999999999/\(f=1->1<=v):=by
  unfold Re at h;split at h
  · cases h
  · rename_i hq
    have hd:yQ s f (s.size-f):=by
      by_cases hx:dgB s f (s.size-f)=true
      · exact LU.1 hx
      · exact absurd (.inr (.inr (.inr hx))) hq
    have h9:=fun hx=>hq (.inr (.inl hx))
    have h48:=fun hx=>hq (.inr (.inr (.inl hx)))
    obtain rfl:pG s f (s.size-f)=v:=TH;have hv:=KY Sg hd;obtain⟨k,hk⟩:∃k,s.size-f=k+1:=⟨s.size-f-1,Sg⟩;rw[hk]at hd hv ⊢;have hz:k=0\/hZ s f≠48:=by
      by_cases hx:hZ s f=48
      · exact .inl (by have:¬1<s.size:=fun h2=>h48 ⟨hx,h2⟩
                       omega)
      · exact .inr hx
    obtain⟨h1,h2⟩:=VM s f k hd hz;refine⟨h1,hv.1,Sg,fun h3=>h2 (fun hx=>h48 ⟨hx,Sg⟩)⟩
theorem L8 s:tx (L9 s 0 s.size)=s:=by
  have e:L9 s 0 s.size=s.data.toList:=by
    have hl:s.data.toList.length=s.size:=rfl;apply List.ext_getElem?;intro i;unfold L9;rw[qBN];by_cases h:i<s.size
    · rw[qCv h,qDS,qAl,zLg (by rw[hl];exact h)]
      unfold hZ;rw[qAC,zLg (by rw[hl];exact h)];rfl
    · rw[qAY (by rw[List.length_range];omega),qAY (by rw[hl];omega)]
      rfl
  unfold tx;rw[e]
theorem F3 s(h:0<s.size):L9 s 0 s.size=hZ s 0::L9 s 1 (s.size-1):=by
  obtain⟨k,hk⟩:∃k,s.size=k+1:=⟨s.size-1,Sg⟩;rw[hk,Nat.add_sub_cancel];unfold L9;rw[List.range_succ_eq_map,qAn,qDK]
  congr 1
  apply qCw;intro j _
  show hZ s (0+(j+1))=hZ s (1+j)
  rw[qAl,Nat.add_comm]
theorem YK(h:EH s=some v):jQ v=s/\-999999999<=v/\v<=999999999:=by
  unfold EH at h;by_cases h0:s.size=0
  · rw[zn (fun hx=>hx.1 h0),jO (.inl h0)]at h
    cases h
  · by_cases hc:hZ s 0=45
    · rw[zy ⟨h0,hc⟩]at h
      by_cases h1:s.size=1
      · rw[jO (.inl h1)]at h
        cases h
      · cases hq:Re s 1 with
        | none=>rw[hq]at h;cases h
        | some u =>
          rw[hq]at h;obtain rfl:-u=v:=TH;obtain⟨g1,g2,g3,g4⟩:=VN Sg (Nat.le_refl 1) hq;have g4:=g4 rfl;refine⟨?_,Sg,Sg⟩;have e:jQ (-u)=tx (45::Go.Lib.decDigits u.toNat):=by have:=Go.Lib.itoa_neg u.toNat Sg;rw[Int.toNat_of_nonneg g2]at this;unfold jQ;rw[this]
          rw[e,g1,<-hc,<-F3 s Sg];exact L8 s
    · rw[zn (fun hx=>hc hx.2)]at h
      obtain⟨g1,g2,g3,_⟩:=VN Sg (qAH 1) h;refine⟨?_,Sg,g3⟩;have e:jQ v=tx (Go.Lib.decDigits v.toNat):=by have:=Go.Lib.itoa_nonneg v.toNat;rw[Int.toNat_of_nonneg g2]at this;unfold jQ;rw[this]
      rw[e,g1,Nat.sub_zero];exact L8 s
def lsV(l:List UInt8):Int:=l.foldl (fun a c=>a*10+(c.toNat:Int)-48) 0
theorem OR l c:lsV (l++[c])=lsV l*10+(c.toNat:Int)-48:=by unfold lsV;rw[qBb];rfl
theorem zct s f:∀k,pG s f k=lsV (L9 s f k)
 | 0=>rfl
 | k+1=>by rw[FZ,OR,<-zct s f k];rfl
structure DcP (u:Nat):Prop where
 val:lsV (Go.Lib.decDigits u)=u
 Hm:∀c∈Go.Lib.decDigits u,48<=c.toNat/\c.toNat<=57
 head:∀c r,Go.Lib.decDigits u=c::r->c.toNat=48->u=0
 ne:Go.Lib.decDigits u≠[]
theorem Ds(h:k<10):(UInt8.ofNat (48+k)).toNat=48+k:=by rw[UInt8.toNat_ofNat'];omega
theorem dcP:∀ (n u:Nat),u<=n->DcP u
 | n,u,hn=>by
  by_cases h:u<10
  ·have e:=Go.Lib.decDigits_one h;have d:=Ds h;refine⟨?_,?_,?_,?_⟩
   ·rw[e]
    show(0:Int)*10+((UInt8.ofNat (48+u)).toNat:Int)-48=u
    rw[d];omega
   ·rw[e];intro c hc;rw[zMs hc,d];omega
   ·rw[e];intro c r He h48
    injection He with h1 _
    rw[<-h1,d]at h48;omega
   ·rw[e];exact List.cons_ne_nil _ _
  ·match n,hn with
   | 0,hn=>exact absurd hn Sg
   | n+1,hn =>
    have ih:=dcP n (u / 10) Sg;have e:=DB h;have d:=Ds (show u%10<10 by omega);refine⟨?_,?_,?_,?_⟩
    ·rw[e,OR,ih.val,d];omega
    ·rw[e];intro c hc;rcases zMa hc with h1|h1
     ·exact ih.Hm c h1
     ·rw[zMs h1,d];omega
    ·rw[e];intro c r He h48;obtain⟨c2,r2,h2⟩:∃c2 r2,Go.Lib.decDigits (u / 10)=c2::r2:=by
      cases hq:Go.Lib.decDigits (u / 10)with
      | nil=>exact absurd hq ih.ne
      | cons a b=>exact⟨a,b,rfl⟩
     rw[h2,qBG]at He
     injection He with h3 _
     rw[<-h3]at h48;have:=ih.head c2 r2 h2 h48;omega
    ·rw[e];exact List.append_ne_nil_of_right_ne_nil _ (List.cons_ne_nil _ _)
theorem VT:∀ (k u:Nat),u<10 ^ (k+1)->Go.Lib.nDigits u<=k+1
 | 0,u,h=>by rw[Go.Lib.nDigits_small Sg];omega
 | k+1,u,h=>by
  by_cases vR:u<10
  ·rw[Go.Lib.nDigits_small vR];omega
  ·rw[Go.Lib.nDigits_big vR];have:=VT k (u / 10) (by rw[Nat.div_lt_iff_lt_mul Si,<-Nat.pow_succ];exact h);omega
theorem Ax(h:u<1000000000):(Go.Lib.decDigits u).length<=9:=by rw[Go.Lib.decDigits_length];exact VT 8 u h
theorem zcv(hL:L9 s f (s.size-f)=Go.Lib.decDigits u)(hf:f<s.size)(hu:u<1000000000)(hz:1<=u\/f=0):Re s f=some (u:Int):=by
 have hp:=dcP u u zNr;have hlen:(L9 s f (s.size-f)).length=s.size-f:=by unfold L9;rw[zLm,List.length_range]
 have h9:=Ax hu;rw[<-hL,hlen]at h9;have hd:=fun j hj=>hp.Hm _ (by rw[<-hL];unfold L9;exact qAT.2 ⟨j,qAw.2 hj,rfl⟩)
 obtain⟨k,hk⟩:∃k,s.size-f=k+1:=⟨s.size-f-1,Sg⟩;have hhd:L9 s f (k+1)=hZ s f::(List.range k).map (fun j=>hZ s (f+(j+1))):=by unfold L9;rw[List.range_succ_eq_map,qAn,qDK];rfl
 rw[zL Sg Sg ?_ hd,zct,hL,hp.val];rintro ⟨h48,h1⟩;have hu0:=hp.head (hZ s f) _ (by rw[<-hL,hk];exact hhd) (by rw[h48];rfl);subst hu0;have hf0:f=0:=by rcases hz with h|h <;> omega
 subst hf0;have:(Go.Lib.decDigits 0).length=1:=by rw[Go.Lib.decDigits_one Si];rfl
 rw[<-hL,hlen]at this;omega
theorem zeE l:L9 (tx l) 0 (tx l).size=l:=by have h:=L8 (tx l);have:=qBB (fun x:BA=>x.data.toList) h;simpa[tx]using this
theorem zgD(h0:-999999999<=v)(h1:v<=999999999):EH (jQ v)=some v:=by
 by_cases hv:v<0
 ·obtain⟨u,rfl⟩:∃u:Nat,v=-(u:Int):=⟨(-v).toNat,Sg⟩;have e:jQ (-(u:Int))=tx (45::Go.Lib.decDigits u):=by unfold jQ;rw[Go.Lib.itoa_neg u Sg]
  have hb:=zeE (45::Go.Lib.decDigits u);have aG:=(dcP u u zNr).ne;have bW:(tx (45::Go.Lib.decDigits u)).size=(Go.Lib.decDigits u).length+1:=rfl;have ew:0<(Go.Lib.decDigits u).length:=qBE.2 aG;rw[F3 _ Sg]at hb
  injection hb with ay aK
  rw[e];unfold EH;rw[zy ⟨Sg,ay⟩,zcv (u:=u) aK Sg Sg (.inl Sg)];rfl
 ·obtain⟨u,rfl⟩:∃u:Nat,v=(u:Int):=⟨v.toNat,Sg⟩;have e:jQ (u:Int)=tx (Go.Lib.decDigits u):=by unfold jQ;rw[Go.Lib.itoa_nonneg u]
  have hb:=zeE (Go.Lib.decDigits u);have hp:=dcP u u zNr;have bW:(tx (Go.Lib.decDigits u)).size=(Go.Lib.decDigits u).length:=rfl;have ew:0<(Go.Lib.decDigits u).length:=qBE.2 hp.ne;have hh:=hp.Hm (hZ (tx (Go.Lib.decDigits u)) 0) (by have h2:=hb;rw[F3 _ Sg]at h2;rw[<-h2];exact qCZ);rw[e];unfold EH;rw[zn (fun hx=>by rw[hx.2]at hh;exact absurd hh.1 Si)];exact zcv (u:=u) (by rw[Nat.sub_zero];exact hb) Sg Sg (.inr rfl)
theorem Ay:∀ (l:List UInt8) (acc:Nat) (b:UInt8),Go.Lib.decFrom acc (l++[b])=(Go.Lib.decFrom acc l).bind fun n=>(Go.Lib.digitVal b).map fun d=>n*10+d
 | [],acc,b=>by
  show Go.Lib.decFrom acc [b]=_
  unfold Go.Lib.decFrom;cases Go.Lib.digitVal b <;> rfl
 | c::r,acc,b=>by
  rw[qBG]
  show(match Go.Lib.digitVal c with | some d=>Go.Lib.decFrom (acc*10+d) (r++[b]) | none=>none)=(match Go.Lib.digitVal c with | some d=>Go.Lib.decFrom (acc*10+d) r | none=>none).bind _
  cases Go.Lib.digitVal c with
  | some d=>exact Ay r _ b
  | none=>rfl
theorem CE:∀ (n u:Nat),u<=n->Go.Lib.decFrom 0 (Go.Lib.decDigits u)=some u
 | n,u,hn=>by
  by_cases h:u<10
  ·rw[Go.Lib.decDigits_one h];have d:=Ds h;have dv:Go.Lib.digitVal (UInt8.ofNat (48+u))=some u:=by unfold Go.Lib.digitVal;rw[d,zy Sg];exact Qm
   show(match Go.Lib.digitVal (UInt8.ofNat (48+u))with | some d=>Go.Lib.decFrom (0*10+d) [] | none=>none)=_
   rw[dv]
   show some (0*10+u)=some u
   rw[Nat.zero_mul,qAl]
  ·match n,hn with
   | 0,hn=>exact absurd hn Sg
   | n+1,hn =>
    have ih:=CE n (u / 10) Sg;have d:=Ds (show u%10<10 by omega);have dv:Go.Lib.digitVal (UInt8.ofNat (48+u%10))=some (u%10):=by unfold Go.Lib.digitVal;rw[d,zy Sg];exact Qm
    rw[DB h,Ay,ih,dv]
    show some (u / 10*10+u%10)=some u
    exact Qm
theorem FO u:Go.Lib.decNat (Go.Lib.decDigits u)=some u:=by
 unfold Go.Lib.decNat;have aG:=(dcP u u zNr).ne;have:(Go.Lib.decDigits u).isEmpty=false:=by
  cases hq:Go.Lib.decDigits u with
  | nil=>exact absurd hq aG
  | cons a b=>rfl
 rw[this];exact CE u u zNr
theorem zh2(h0:-999999999<=v)(h1:v<=999999999):Go.Lib.atoiAll (Go.Lib.itoa v)=.ok v:=by
 by_cases hv:v<0
 ·obtain⟨u,rfl⟩:∃u:Nat,v=-(u:Int):=⟨(-v).toNat,Sg⟩;have hl:=Ax (show u<1000000000 by omega);rw[Go.Lib.itoa_neg u Sg,Go.Lib.atoiAll_short _ (by rw[zLc];omega)]
  show Go.Lib.NumEnd.ofOption ((Go.Lib.decNat (Go.Lib.decDigits u)).map fun(m:Nat)=>-(m:Int))=_
  rw[FO];rfl
 ·obtain⟨u,rfl⟩:∃u:Nat,v=(u:Int):=⟨v.toNat,Sg⟩;have hl:=Ax (show u<1000000000 by omega);have hp:=dcP u u zNr;rw[Go.Lib.itoa_nonneg u,Go.Lib.atoiAll_short _ Sg];have rI:Go.Lib.atoi (Go.Lib.decDigits u)=(Go.Lib.decNat (Go.Lib.decDigits u)).map fun(m:Nat)=>(m:Int):=by
   cases hq:Go.Lib.decDigits u with
   | nil=>exact absurd hq hp.ne
   | cons b r =>
    have hb:=hp.Hm b (by rw[hq];exact qCZ);have n1:(b == 45)=false:=qAU.2 (fun e=>zmd);have n2:(b == 43)=false:=qAU.2 (fun e=>zmd)
    show(if (b == 45)=true then (Go.Lib.decNat r).map (fun(m:Nat)=>-(m:Int))else if (b == 43)=true then (Go.Lib.decNat r).map (fun(m:Nat)=>(m:Int))else (Go.Lib.decNat (b::r)).map (fun(m:Nat)=>(m:Int)))=_
    rw[n1,n2];rfl
  rw[rI,FO];rfl
theorem zjG(h0:-999999999<=v)(h1:v<=999999999):rdN (jQ v)=some v:=by
 have e:(jQ v).data.toList=Go.Lib.itoa v:=by unfold jQ tx;simp
 have:=zh2 h0 h1;rw[<-e]at this;rw[SV this,zy ⟨rfl,h0,h1⟩]
theorem zb3(h:rdN s=some v):jQ v=s/\-999999999<=v/\v<=999999999:=by
 cases hq:Go.Lib.atoiAll s.data.toList with
 | ok u =>
  rw[SV hq]at h;split at h
  ·rename_i hc
   obtain rfl:u=v:=TH;exact hc
  ·cases h
 | _=>rw[zb4 (fun u hu=>by rw[hq]at hu;cases hu)]at h;cases h
theorem K1 s:EH s=rdN s:=by
 cases h1:EH s with
 | some v =>obtain⟨h2,h3,h4⟩:=YK h1;rw[<-h2,zjG h3 h4]
 | none =>
  cases h2:rdN s with
  | none=>rfl
  | some v =>obtain⟨h3,h4,h5⟩:=zb3 h2;rw[<-h3,zgD h4 h5]at h1;cases h1
theorem oQ l:(tx l).size=l.length:=by
 show l.toArray.size=l.length
 simp
theorem Ic s:tx s.data.toList=s:=by
 apply ByteArray.ext
 show s.data.toList.toArray=s.data
 simp
theorem mB l i j:(tx l).extract i j=tx ((l.drop i).take (j-i)):=by
 apply ByteArray.ext;rw[ByteArray.data_extract]
 show l.toArray.extract i j=((l.drop i).take (j-i)).toArray
 simp
theorem pS l:strOf l=tx (l.map fun n=>UInt8.ofNat n.toNat):=by rw[<-mC,Ic]
theorem pC A B:tx A++tx B=tx (A++B):=by
 apply ByteArray.ext;rw[ByteArray.data_append]
 show A.toArray++B.toArray=(A++B).toArray
 simp
theorem Fa c B:∀A:List UInt8,c ∉ A->Go.Lib.index (A++c::B) [c]=A.length
 | [],_=>by simp[Go.Lib.index,List.isPrefixOf]
 | x::l,h=>by
  have hx:¬c=x:=fun e=>h (by rw[e];exact qCZ)
  have ih:=Fa c B l (fun hm=>h (qCI _ hm));rw[qBG];exact zpp
theorem E9 c:∀A:List UInt8,c ∉ A->Go.Lib.index A [c]=-1
 | [],_=>rfl
 | x::l,h=>by
  have hx:¬c=x:=fun e=>h (by rw[e];exact qCZ)
  have ih:=E9 c l (fun hm=>h (qCI _ hm));exact zpp
theorem WG A B(c:UInt8):(A++c::B).drop (A.length+1)=B:=Sk
theorem zcT B(h:10 ∉ A):Rg (tx (A++10::B))=tx A::Rg (tx B):=by
 have hz:(tx (A++10::B)).size≠0:=by rw[oQ];simp
 have hi:=Fa 10 B A h;have hq:Go.Lib.cut (A++10::B) [10]=(A,B,true):=by
  unfold Go.Lib.cut;rw[hi,zy Sg,zTn]
  show(_,(A++10::B).drop (A.length+1),true)=_
  rw[WG];simp
 have hc:TF (tx (A++10::B))=(tx A,tx B):=by
  show(tx (Go.Lib.cut (A++10::B).toArray.toList [10]).1,tx (Go.Lib.cut (A++10::B).toArray.toList [10]).2.1)=_
  rw[List.toList_toArray,hq]
 rw[EW hz,hc]
theorem zgT(h:10 ∉ A)(aG:A≠[]):Rg (tx A)=[tx A]:=by
 have hz:(tx A).size≠0:=by rw[oQ];exact fun e=>aG (qAp e)
 have hi:=E9 10 A h;have hq:Go.Lib.cut A [10]=(A,[],false):=by unfold Go.Lib.cut;rw[hi,zn Si]
 have hc:TF (tx A)=(tx A,tx []):=by
  show(tx (Go.Lib.cut A.toArray.toList [10]).1,tx (Go.Lib.cut A.toArray.toList [10]).2.1)=_
  rw[List.toList_toArray,hq]
 rw[EW hz,hc,La (s:=(tx A,tx []).2) rfl]
theorem zaU B(h:32 ∉ A):jZ (tx (A++32::B))=tx A::jZ (tx B):=by
 have hi:Go.Lib.indexB (tx (A++32::B)) ⟨#[32]⟩=(A.length:Int):=by
  show Go.Lib.index (A++32::B).toArray.toList [32]=_
  rw[List.toList_toArray];exact Fa 32 B A h
 have e1:(tx (A++32::B)).extract (A.length+(⟨#[32]⟩:BA).size) (tx (A++32::B)).size=tx B:=by
  rw[mB,oQ]
  show tx (((A++32::B).drop (A.length+1)).take ((A++32::B).length-(A.length+1)))=tx B
  rw[WG]
  congr 1
  exact qAP Tb
 have e2:(tx (A++32::B)).extract 0 (A.length+0)=tx A:=by
  rw[mB]
  congr 1
  simp
 unfold jZ;rw[Go.Lib.countB_hit _ _ _ Si hi,Nat.add_comm 1,Go.Lib.splitB_hit _ _ _ _ _ hi,e1,e2]
theorem zaV(h:32 ∉ A):jZ (tx A)=[tx A]:=by
 have hi:Go.Lib.indexB (tx A) ⟨#[32]⟩=-1:=by
  show Go.Lib.index A.toArray.toList [32]=_
  rw[List.toList_toArray];exact E9 32 A h
 unfold jZ;rw[Go.Lib.splitB_miss _ _ _ _ hi]
theorem zaW l:∀i,i<=l.length->jZ (tx l)=(wdK (tx l) i).1++jZ (tx (l.drop (wdK (tx l) i).2))/\(wdK (tx l) i).2<=i/\32 ∉ (l.drop (wdK (tx l) i).2).take (i-(wdK (tx l) i).2)
 | 0,_=>⟨by simp[wdK],zNr,Sk⟩
 | i+1,h=>by
  obtain⟨h1,h2,h3⟩:=zaW l i Sg;have hc:hZ (tx l) i=l[i]:=by
   show(l.toArray.toList).getD i 0=_
   rw[List.toList_toArray,qAC,zLg Sg];rfl
  generalize hK:wdK (tx l) i=K at*;obtain⟨ws,f⟩:=K;dsimp only at*;have hi:i-f<(l.drop f).length:=zaA;have hd:l.drop f=(l.drop f).take (i-f)++l[i]::l.drop (i+1):=by
   have e:(l.drop f)[i-f]=l[i]:=by rw[List.getElem_drop];congr 1;omega
   have:=qBw (i-f) (l.drop f);rw[qBf hi,e,qCh,show f+(i-f+1)=i+1 by omega]at this;exact this.symm
  by_cases Aj:l[i]=32
  ·rw[Vj (hc.trans Aj),hK];dsimp only;refine⟨?_,zNr,Sk⟩;rw[h1,hd,Aj,zaU _ h3,qBO,List.singleton_append];unfold sbS;rw[mB]
  ·rw[zaX (by rw[hc];exact Aj),hK];refine⟨h1,Sg,?_⟩;rw[show i+1-f=i-f+1 by omega,qAv,zLg hi,List.getElem_drop];intro hm;rcases zMa hm with hm|hm
   ·exact h3 hm
   ·simp at hm;apply Aj;rw[hm];exact Qm
theorem zi5 s:wdA s=jZ s:=by
 rw[<-Ic s];generalize s.data.toList=l;obtain⟨h1,h2,h3⟩:=zaW l l.length zNr;have e:=oQ l;unfold wdA sbS;rw[e,h1,mB]
 congr 1
 have:((l.drop (wdK (tx l) l.length).2).take (l.length-(wdK (tx l) l.length).2))=l.drop (wdK (tx l) l.length).2:=qAP zaA;rw[this]at h3 ⊢;exact(zaV h3).symm
theorem zen W:∀k:Nat,k<10->Sem.run prog (Instr.slice 9 (.string { data:=#[48,49,50,51,52,53,54,55,56,57]}) (some (zi k)) (some (zi ((k:Int)+1))) none) W=.ok (.string (tx [UInt8.ofNat (48+k)])) W:=by intro k h;have:k=0\/k=1\/k=2\/k=3\/k=4\/k=5\/k=6\/k=7\/k=8\/k=9:=Sg;rcases this with rfl|rfl|rfl|rfl|rfl|rfl|rfl|rfl|rfl|rfl <;> (show _=_;kernel_rfl)
theorem zdh W:∀k:Nat,k<16->Sem.run prog (Instr.slice 9 (.string { data:=#[48,49,50,51,52,53,54,55,56,57,97,98,99,100,101,102]}) (some (zi k)) (some (zi ((k:Int)+1))) none) W=.ok (.string (tx [kQ.data.toList.getD k 0])) W:=by intro k h;have:k=0\/k=1\/k=2\/k=3\/k=4\/k=5\/k=6\/k=7\/k=8\/k=9\/k=10\/k=11\/k=12\/k=13\/k=14\/k=15:=Sg;rcases this with rfl|rfl|rfl|rfl|rfl|rfl|rfl|rfl|rfl|rfl|rfl|rfl|rfl|rfl|rfl|rfl <;> (show _=_;kernel_rfl)
theorem Qc:∀ (f n:Nat),n<=f->n<=1000000->∀w:World,zC 22 #[zi n] w fun e w'=>e=.returned (.string (tx (Go.Lib.decDigits n)))/\w=w'
 | f,n,hf,h6,w=>by
  by_cases hn:n<10
  ·rw[Go.Lib.decDigits_one hn];have hc:=zen w n hn;have g0:¬(n:Int)<0:=by omega
   have g1:(n:Int)<10:=by omega
   generalize tx [UInt8.ofNat (48+n)]=S at*;go_enter func22,ntmps22
   go_wp2;go_ret;exact⟨rfl,rfl⟩
  ·match f,hf with
   | 0,hf=>exact absurd hf (by omega)
   | f+1,hf =>
   have HD:=ae (Qc f (n / 10) (by omega) (by omega) w);have hc:=zen w (n%10) (by omega);rw[DB hn,<-pC];have h1:(n:Int).tdiv 10=((n / 10:Nat):Int):=by rw[qCe (by omega)];omega
   have h2:(n:Int).tmod 10=((n%10:Nat):Int):=by rw[qCL (by omega)];omega
   have hTS:¬9223372036854775807<(tx (Go.Lib.decDigits (n / 10))).size+(tx [UInt8.ofNat (48+n%10)]).size:=by have:=Ax (show n / 10<1000000000 by omega);rw[oQ,oQ,qBM];omega
   have g0:¬(n:Int)<0:=by omega
   have g1:¬(n:Int)<10:=by omega
   have k0:((n%10:Nat):Int)<10:=by omega
   have k1:0<=((n%10:Nat):Int):=by omega
   have k2:((n / 10:Nat):Int)<=1000000:=by omega
   have k3:0<=((n / 10:Nat):Int):=by omega
   generalize n%10=r at*;generalize n / 10=q at*;generalize tx [UInt8.ofNat (48+r)]=S at*;generalize tx (Go.Lib.decDigits q)=T at*;go_enter func22,ntmps22
   go_wp2_with fail
   refine HD.mono ?_;rintro e w1 ⟨rfl,rfl⟩;go_wp2;go_ret;exact⟨rfl,rfl⟩
theorem mX n(h0:0<=n)(h1:n<=1000000) w:zC 22 #[zi n] w (zr (.string (jQ n)) fun w'=>w=w'):=by obtain⟨k,rfl⟩:=qAN h0;have:=Qc k k zNr Sg w;unfold jQ;rw[Go.Lib.itoa_nonneg k];exact this
theorem ZG l x:tQ (l++[x])=(tQ l++tx [kQ.data.toList.getD (x / 16).toNat 0])++tx [kQ.data.toList.getD (x%16).toNat 0]:=by
 have key:∀k,UInt8.ofNat ((c7 kQ).getD k 0).toNat=kQ.data.toList.getD k 0:=fun k=>by
  unfold c7;rw[qAC,qAC,qBN];cases kQ.data.toList[k]? with
  | none=>rfl
  | some c=>exact qDC.1 Sk
 have e1:=key (x / 16).toNat;have e2:=key (x%16).toNat;unfold tQ;rw[pS,pS,pC,pC,qBY,qAc,qBO]
 congr 2
 show [UInt8.ofNat ((c7 kQ).getD (x / 16).toNat 0).toNat,UInt8.ofNat ((c7 kQ).getD (x%16).toNat 0).toNat]=_
 rw[e1,e2];rfl
theorem ZF a c l w(hb:Bs w a c l)(hl:l.length<=6400):zC 28 #[.slice a l.length c] w (zr (.string (tQ l)) fun w'=>zB w w'):=by
 have qp:=ae hb;clear hb;go_enter func28,ntmps28
 go_wp2_with fail
 go_loopw [3,4] (fun sv iv wr=>∃i:Nat,i<=l.length/\iv=zi i/\sv=.string (tQ (l.take i))/\zB w wr) (fun _ iv _=>l.length-(intOf iv).toNat)
 case atStart=>exact zl0
 case round =>
  obtain⟨i,hi,rfl,rfl,ai⟩:=hrel;by_cases aB:i<l.length
  ·obtain⟨b0,o0,rfl,lC⟩:=qp.2.2.2.2 Ye;have vP:=lC i aB;have eT:=(ai.cell (p:=⟨b0,o0+i,none⟩) (qAA vP)).trans vP;have hx:=qp.1.getD i;have Ad:tQ (l.take (i+1))=(tQ (l.take i)++tx [kQ.data.toList.getD (l.getD i 0 / 16).toNat 0])++tx [kQ.data.toList.getD (l.getD i 0%16).toNat 0]:=by
    have e:l.getD i 0=l[i]:=by rw[qAC,zLg aB];rfl
    rw[qAv,zLg aB,e];exact ZG _ _
   have bW:(tQ (l.take i)).size<=12800:=by unfold tQ;rw[kI,Lh,zLt];omega
   have DG:=ae Ad;clear Ad;generalize l.getD i 0=x at*;have h1:x.tdiv 16=((x / 16).toNat:Int):=zl7;have h2:x.tmod 16=((x%16).toNat:Int):=zl4;have g1:=fun W=>zdh W (x / 16).toNat Sg
   have g2:=fun W=>zdh W (x%16).toNat Sg
   have k0:(((x / 16).toNat:Nat):Int)<16:=Sg;have k1:(((x%16).toNat:Nat):Int)<16:=Sg;have k2:0<=(((x / 16).toNat:Nat):Int):=Sg;have k3:0<=(((x%16).toNat:Nat):Int):=Sg;have G7:(tQ (l.take i)++tx [kQ.data.toList.getD (x / 16).toNat 0]).size<=12801:=by rw[qCW,oQ,qBM];omega
   have fQ:¬9223372036854775807<(tQ (l.take i)).size+(tx [kQ.data.toList.getD (x / 16).toNat 0]).size:=by rw[oQ,qBM];omega
   have gN:¬9223372036854775807<(tQ (l.take i)++tx [kQ.data.toList.getD (x / 16).toNat 0]).size+(tx [kQ.data.toList.getD (x%16).toNat 0]).size:=by rw[oQ,qBM];omega
   generalize (x / 16).toNat=q at*;generalize (x%16).toNat=r at*;generalize tx [kQ.data.toList.getD q 0]=S at*;generalize tx [kQ.data.toList.getD r 0]=T at*;generalize tQ (l.take i)=U at*;have pQ:=ae ai;have t0:(i:Int)<(l.length:Int):=Sg;clear ai lC vP bW G7;go_wp2_with fail
   go_quiet (fail)
   go_wp2;go_roundw
   case rel=>exact⟨i+1,Sg,Tc,by rw[aa DG],below_drewN pQ _⟩
   case measure=>exact Te
  ·obtain rfl:i=l.length:=by omega
   rw[qAk];have pQ:=ae ai;clear ai;go_wp2;go_ret;exact⟨rfl,pQ⟩
