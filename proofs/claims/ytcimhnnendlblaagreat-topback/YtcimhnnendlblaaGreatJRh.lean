/-
  Parts of the proofs.
-/
import Derived.Test.YtcimhnnendlblaaGreatJHc
import Derived.Test.YtcimhnnendlblaaGreatJRt
import Derived.RangeFuncNested
import Derived.RangeFuncBound
import Derived.RangeFuncCalls
import Derived.RangeFuncLeaves
import Derived.RangeFuncBox
import Derived.Shelf.Abstract
import Derived.Shelf.RegionOpen
import Derived.OwnWalkIn
import Derived.TacticsInMore
import Derived.LoopNIn
import Derived.LoopIn
import Derived.Test.YtcimhnnendlblaaGreatJVws
import Derived.Shelf.SlicesG.Reverse
set_option maxRecDepth 100000
set_option maxHeartbeats 16000000
set_option linter.all false
namespace Go.Proofs.YtcimhnnendlblaaGreat
open Go.RowKit
theorem D9(p g c B:Nat)(L:List Int)(h:Int)(w:World)(hh:Hp w B p g c L) :
  Calls Tryz.prog 266 #[.pointer (some ⟨p,0,none⟩),.int .i64 h] w fun e w'=>e=.returned (.tuple #[.int .i64 (gz L h).2.2.1,aR (aP L h)])/\Below w.heap.size w w':=by
 have HG:=af (fun W (hW:Below w.heap.size w W)=>Jv (some ⟨g,0,none⟩) c L h W (hh.bs.below hW));have hc:=hh.cell;have hl:=hh.len;clear hh;generalize gz L h=E at *;generalize aP L h=X at *;generalize L.length=N at *;obtain⟨e1,e2,e3,e4⟩:=E;unfold k8 at HG;dsimp only at HG ⊢;go_enter Tryz.func266,Tryz.ntmps266
 go_wp2_with fail
 refine(ae HG w zBr).mono ?_;rintro e w1 ⟨rfl,ay⟩;have HB:=af ay;clear ay HG hc;go_wp2;go_ret2;exact⟨rfl,(ae HB).alloc (ae HB).size _⟩
theorem uz(p g c B:Nat)(L:List Int)(h:Int)(w:World)(hh:Hp w B p g c L) :
  Calls Tryz.prog 154 #[.pointer (some ⟨p,0,none⟩),.int .i64 h] w fun e w'=>e=.returned (.bool (decide (aP L h=0)))/\Below w.heap.size w w':=by
 have HT:=af (oz p g c B L h w hh);clear hh;generalize (gz L h).2.2.2=t at *;by_cases hc:aP L h=0
 ·rw [decide_eq_true hc];rw [hc,aA] at HT;clear hc;go_enter Tryz.func154,Tryz.ntmps154
  go_wp2_with fail
  refine(ae HT).mono ?_;rintro e w1 ⟨rfl,ay⟩;have HB:=af ay;clear ay HT;go_wp2;go_ret;exact⟨rfl,ae HB⟩
 ·rw [decide_eq_false hc];rw [aC _ hc] at HT;clear hc;generalize aP L h=X at *;go_enter Tryz.func154,Tryz.ntmps154
  go_wp2_with fail
  refine(ae HT).mono ?_;rintro e w1 ⟨rfl,ay⟩;have HB:=af ay;clear ay HT;go_wp2;go_ret;exact⟨rfl,ae HB⟩
theorem cj.zi7{w:World}{B:Nat}{a:Option Addr}{c:Nat}{l:List Int}(h:cj w B (.slice a l.length c) l)(hb:bj l)(hl:l.length<=140737488351232):Bs w a c l:=by obtain⟨a2,c2,e2,aK⟩:=h.bs hb hl;simp only [Value.slice.injEq,true_and] at e2;obtain⟨rfl,rfl⟩:=e2;exact aK
def K1(L:List Int)(h:Int):List Int:=if aP L h=0 then (aD L h).2.take (aD L h).1.toNat else []
theorem FQ(L:List Int)(h:Int)(hf:aB L):(K1 L h).length<=15:=by
 unfold K1;by_cases hc:aP L h=0
 ·rw [if_pos hc,zLt];obtain⟨q1,q2,q3⟩:=aJ.1 hc;have q4:=aF.1 q2;have:=hf.jB q4.1 q4.2 q3;unfold aD gu;rw [if_neg q3];dsimp only;omega
 ·rw [if_neg hc];simp
theorem I5(p g c B:Nat)(L:List Int)(h:Int)(w:World)(hh:Hp w B p g c L) :
  Calls Tryz.prog 246 #[.pointer (some ⟨p,0,none⟩),.int .i64 h] w fun e w'=>∃ a' c',e=.returned (.tuple #[.slice a' (K1 L h).length c',aR (aP L h)])/\Bs w' a' c' (K1 L h)/\Below w.heap.size w w':=by
 have HT:=af (oz p g c B L h w hh);by_cases hc:aP L h=0
 ·obtain⟨q1,q2,q3⟩:=aJ.1 hc;have q4:=aF.1 q2;have fc:=hh.aV.jB q4.1 q4.2 q3;have tJ:gz L h=ai L h:=by unfold gz;rw [if_pos hc]
  have HS:=af (fun(W:World) (hW:Below w.heap.size w W)=>D9 p g c B L h W (hh.below hW));rw [tJ,hc,aA] at HT HS;have ho:aD L h=((ai L h).2.2.2,(L.drop (ai L h).2.1.toNat).take (ai L h).2.2.1.toNat):=by unfold aD gu cP;rw [if_neg q3]
  have hn:K1 L h=(L.drop ((ai L h).2.1.toNat+0)).take (min (ai L h).2.2.2 (ai L h).2.2.1).toNat:=by
   unfold K1;rw [if_pos hc,ho];dsimp only;rw [List.take_take,Nat.add_zero]
   congr 1
   omega
  have zh1:((min (ai L h).2.2.2 (ai L h).2.2.1).toNat:Int)=min (ai L h).2.2.2 (ai L h).2.2.1:=by omega
  have HR:=af (fun(W:World) (hW:Below w.heap.size w W)=>Ea p g c B L h 0 (min (ai L h).2.2.2 (ai L h).2.2.1).toNat W (hh.below hW) hc (by omega));rw [<- hn,zh1] at HR;have wH:(K1 L h).length=(min (ai L h).2.2.2 (ai L h).2.2.1).toNat:=by rw [hn,zLt,zLd];omega
  rw [<- wH] at HR;have ic:Hid (bj (K1 L h)):=af (by rw [hn];exact hh.kV.sub _ _);have zeD:=FQ L h hh.aV;rw [hc,aA];clear hh hc q1 q2 q3 q4 tJ ho hn zh1 wH;generalize K1 L h=NM at *;generalize ai L h=E at *;obtain⟨e1,e2,e3,e4⟩:=E;dsimp only at HT HS HR fc ⊢;obtain⟨n1,n2,n3,n4,n5,n6⟩:=fc;by_cases hm:e4<=e3
  ·rw [show min e4 e3=e4 by omega] at HR;go_enter Tryz.func246,Tryz.ntmps246
   go_wp2_with fail
   refine(ae HT).mono ?_;rintro e w1 ⟨rfl,ay⟩;have mB:=af (ae HS w1 ay);have aL:=af ay;clear ay HT HS;go_wp2_with fail
   refine(ae mB).mono ?_;rintro e w2 ⟨rfl,aK⟩;have cD:=zTs aL aK;have tN:=af (ae HR w2 cD);have br:=af cD;clear aK cD mB aL HR;go_wp2_with fail
   try rw [show min e4 e3=e4 by omega]
   refine(ae tN).mono ?_;rintro e w3 ⟨a',c',rfl,ho,bR⟩;have cT:=zTr br bR;have HO:=af (ho.zi7 (ae ic) (by omega));clear ho bR tN br;go_wp2;go_ret2;exact⟨a',c',rfl,ae HO,ae cT⟩
  ·rw [show min e4 e3=e3 by omega] at HR;go_enter Tryz.func246,Tryz.ntmps246
   go_wp2_with fail
   refine(ae HT).mono ?_;rintro e w1 ⟨rfl,ay⟩;have mB:=af (ae HS w1 ay);have aL:=af ay;clear ay HT HS;go_wp2_with fail
   refine(ae mB).mono ?_;rintro e w2 ⟨rfl,aK⟩;have cD:=zTs aL aK;have tN:=af (ae HR w2 cD);have br:=af cD;clear aK cD mB aL HR;go_wp2_with fail
   try rw [show min e4 e3=e3 by omega]
   refine(ae tN).mono ?_;rintro e w3 ⟨a',c',rfl,ho,bR⟩;have cT:=zTr br bR;have HO:=af (ho.zi7 (ae ic) (by omega));clear ho bR tN br;go_wp2;go_ret2;exact⟨a',c',rfl,ae HO,ae cT⟩
 ·have hn:K1 L h=[]:=by unfold K1;rw [if_neg hc]
  rw [hn];rw [aC _ hc] at HT ⊢;clear hh hc hn;generalize (gz L h).2.2.2=t at *;generalize aP L h=X at *;go_enter Tryz.func246,Tryz.ntmps246
  go_wp2_with fail
  refine(ae HT).mono ?_;rintro e w1 ⟨rfl,ay⟩;have HB:=af ay;clear ay HT;go_wp2;go_ret2;exact⟨none,0,rfl,eC _,ae HB⟩
theorem Jt(a:Option Addr)(cap:Nat)(l:List Int)(x:Int)(w:World)(hs:fG kY 1 w a cap l) :
  Calls Tryz.prog 267 #[.slice a l.length cap,.int .i64 x] w fun e w'=>∃ i:Int,e=.returned (.int .i64 i)/\(decide (0<=i)=l.any (fun y=>y == x))/\w=w':=by
 have hl:=hs.2.2.1;have HS:=af hs;clear hs;go_enter Tryz.func267,Tryz.ntmps267
 go_wp2_with fail
 go_loop [8] (fun iv=>∃ k:Nat,k<=l.length/\iv=.int .i64 k/\(l.take k).any (fun y=>y == x)=false) (fun iv=>l.length-(intOf iv).toNat)
 case atStart=>exact⟨0,Nat.zero_le _,rfl,rfl⟩
 case round =>
  obtain⟨k,hk,rfl,bB⟩:=hrel;by_cases aM:k<l.length
  ·have aO:l≠[]:=by intro e;rw [e] at aM;simp at aM
   obtain⟨b1,o1,rfl,dR⟩:=(ae HS).2.2.2 aO;obtain⟨y,hy⟩:∃ y,l[k]?=some y:=⟨l[k],zLg aM⟩;have q0:=fG.num (cap:=0) dR hy;have pY:l.take (k+1)=l.take k++[y]:=by rw [List.take_add_one,hy];rfl
   have mF:=List.mem_of_getElem? hy;clear dR hy aO;by_cases e:x=y
   ·subst e;have da:l.any (fun y=>y == x)=true:=List.any_eq_true.2 ⟨_,mF,by simp⟩;have HN:=af da;clear da pY bB mF;go_wp2;go_ret;exact⟨k,rfl,by rw [ae HN];exact decide_eq_true (by omega),rfl⟩
   ·have da:(l.take (k+1)).any (fun y=>y == x)=false:=by rw [pY,List.any_append,bB];simp;exact fun h=>e h.symm
    have HN:=af da;have eb:(x == y)=false:=beq_eq_false_iff_ne.2 e;clear da pY bB mF e;go_wp2
    go_round
    case rel=>exact⟨k+1,by omega,by go_num,ae HN⟩
    case measure=>simp [intOf];omega
  ·obtain rfl:k=l.length:=by omega
   rw [List.take_length] at bB;have HN:=af bB;clear bB HS;go_wp2;go_ret;exact⟨-1,rfl,by rw [ae HN];rfl,rfl⟩
theorem Sr(a:Option Addr)(cap:Nat)(l:List Int)(x:Int)(w:World)(hs:fG kY 1 w a cap l) :
  Calls Tryz.prog 247 #[.slice a l.length cap,.int .i64 x] w fun e w'=>e=.returned (.bool (l.any (fun y=>y == x)))/\w=w':=by
 have HI:=af (Jt a cap l x w hs);have hl:=hs.2.2.1;clear hs;generalize l.any (fun y=>y == x)=r at *;generalize l.length=N at *;go_enter Tryz.func247,Tryz.ntmps247
 go_wp2_with fail
 refine(ae HI).mono ?_;rintro e w1 ⟨i,rfl,hi,hw⟩;subst hw;have HH:=af hi;clear hi HI;go_wp2;go_ret;exact⟨by rw [<- ae HH];rfl,rfl⟩
def Iz(L:List Int)(h:Int):List Int:=if aP L h=0 then eW L h else []
theorem ID(L l:List Int):lY L l l.length=l.foldl (dx L) []:=by unfold lY;rw [List.take_length]
theorem Iy(L:List Int)(h:Int):Iz L h=(K1 L h).foldl (dx L) []:=by
 unfold Iz K1;by_cases hc:aP L h=0
 ·rw [if_pos hc,if_pos hc];rfl
 ·rw [if_neg hc,if_neg hc];rfl
theorem LZ(p g c B:Nat)(L:List Int)(h:Int)(w:World)(hh:Hp w B p g c L) :
  Calls Tryz.prog 216 #[.pointer (some ⟨p,0,none⟩),.int .i64 h] w fun e w'=>∃ v,e=.returned (.tuple #[v,aR (aP L h)])/\bT kY 1 3 w' w.heap.size v (Iz L h)/\Below w.heap.size w w':=by
 obtain⟨i0,eP,cY,dw,dz⟩:=info_parts kI;have HN:=af (I5 p g c B L h w hh);by_cases hc:aP L h=0
 ·have HIS:=af (fun(x:Int) (W:World) (hW:Below w.heap.size w W)=>uz p g c B L x W (hh.below hW));have HCO:=af (fun(a:Option Addr) (cap:Nat) (l:List Int) (x:Int) (W:World) (hs:fG kY 1 W a cap l)=>Sr a cap l x W hs);have wH:=FQ L h hh.aV;have HRF:=af (Iy L h);rw [hc,aA] at HN ⊢;clear hh hc;generalize Iz L h=RF at *;generalize K1 L h=l at *;have HRK:=af (ID L l);have HRL:=af (fun k=>IE L l k);have HRS:=af (fun(k:Nat) (hk:k<l.length)=>C6 (L:=L) hk);go_enter Tryz.func216,Tryz.ntmps216
  go_wp2_with fail
  refine(ae HN).mono ?_;rintro e w1 ⟨a1,c1,rfl,jN,ay⟩;have iq:=jN.2.2.1;have nC:=af jN;have aL:=af ay;clear jN ay HN;go_wp2_with fail
  go_loopw [8,10,11,23] (fun v _ _ iv wr=>∃ k:Nat,k<=l.length/\iv=.int .i64 k/\bT kY 1 3 wr w1.heap.size v (lY L l k)/\Below w1.heap.size w1 wr) (fun _ _ _ iv _=>l.length-(intOf iv).toNat)
  case atStart=>exact⟨0,Nat.zero_le _,rfl,bT.nil _ _,zBr⟩
  case round =>
   obtain⟨k,hk,rfl,az,ao⟩:=hrel;obtain⟨va,vm,vc,rfl⟩:=az.shape;by_cases aM:k<l.length
   ·have aO:l≠[]:=by intro e;rw [e] at aM;simp at aM
    obtain⟨b3,o3,rfl,BS⟩:=((ae nC).below ao).2.2.2.2 aO;have q0:=BS k aM;have hXb:=(ae nC).1.getD k;have HT:=af (ae HRS k aM);generalize l.getD k 0=X at *;have OC:=af (ae HIS X wr (zTs aL ao));have uJ:=ae HRL k;have ki:=af az;have aQ:=af ao;clear az ao BS aO;by_cases hc:aP L X=0
    ·rw [decide_eq_true hc] at OC;have BA:Hid (lY L l (k+1)=if (lY L l k).any (fun y=>y == X)=true then lY L l k else lY L l k++[X]):=af (by rw [ae HT];unfold dx;rw [if_neg (fun h=>h hc)]);clear hc HT;generalize ziI:lY L l k=acc at *;have zmR:=af ziI;clear ziI;go_wp2_with fail
     refine(ae OC).mono ?_;rintro e w2 ⟨rfl,aK⟩;have gC:=(ae ki).below aK;obtain⟨va2,vc2,ev,oh⟩:=gC.kk iG (by omega);simp only [Value.slice.injEq] at ev;obtain⟨rfl,rfl,rfl⟩:=ev;have vH:=af (ae HCO va vc acc X w2 oh);have zm:=af gC;have br:=zTr aQ aK;have zit:=oh.2.2.1;clear gC oh aK OC ki aQ;cases hd:acc.any (fun y=>y == X) with
     | true =>
      rw [hd] at BA vH;rw [if_pos rfl] at BA;clear hd;go_wp2_with fail
      refine(ae vH).mono ?_;rintro e w3 ⟨rfl,nE⟩;subst nE;go_wp2;go_roundw
      case rel=>exact⟨k+1,by omega,by go_num,by rw [ae BA];exact ae zm,ae br⟩
      case measure=>simp [intOf];omega
     | false =>
      rw [hd] at BA vH;rw [if_neg (by simp)] at BA;clear hd;have nB:=af ((ae zm).below ((Below.refl _ w2).alloc zNr (.cells #[.int .i64 X] 3)));have cT:=af ((ae br).alloc (ae br).size (.cells #[.int .i64 X] 3));have jK:Hid ((w2.alloc (.cells #[.int .i64 X] 3)).heap[w2.heap.size]?=some (.cells (kY X).toArray 3 (0,0))):=af (heap_alloc_new w2 _);have M6:=(ae br).size;clear zm br;go_wp2_with fail
      refine(ae vH).mono ?_;rintro e w3 ⟨rfl,nE⟩;subst nE;clear vH;go_wp2_with (at_builtin;refine bM rfl _ _ 44 rfl w1.heap.size i0 (.int .i64 0) 8 zu44 eP cY dw dz rfl (by decide) (by decide) _ _ rfl (ae nB) w2.heap.size X rfl (ae jK) rfl (uG _) (by omega) (by simp;omega) ?_)
      intro v9 w9 aZ mr;rw [<- ae BA] at aZ;have pS:=af aZ;have jI:=af ((ae cT).trans mr);obtain⟨a9,m9,c9,rfl⟩:=aZ.shape;clear aZ mr nB cT jK;go_wp2;go_roundw
      case rel=>exact⟨k+1,by omega,by go_num,ae pS,ae jI⟩
      case measure=>simp [intOf];omega
    ·rw [decide_eq_false hc] at OC;have BA:Hid (lY L l (k+1)=lY L l k):=af (by rw [ae HT];unfold dx;rw [if_pos hc]);clear hc HT;go_wp2_with fail
     refine(ae OC).mono ?_;rintro e w2 ⟨rfl,aK⟩;have zm:=af ((ae ki).below aK);have br:=zTr aQ aK;clear aK OC ki aQ;go_wp2;go_roundw
     case rel=>exact⟨k+1,by omega,by go_num,by rw [ae BA];exact ae zm,ae br⟩
     case measure=>simp [intOf];omega
   ·obtain rfl:k=l.length:=by omega
    have ki:=af az;have aQ:=zTr aL ao;have Qu:=af (ae aL).size;clear az ao;go_wp2;go_ret2;exact⟨_,rfl,by rw [ae HRF,<- ae HRK];exact(ae ki).Sd (ae Qu),ae aQ⟩
 ·have hr:Iz L h=[]:=by unfold Iz;rw [if_neg hc]
  have hn:K1 L h=[]:=by unfold K1;rw [if_neg hc]
  rw [hr];rw [hn] at HN;rw [aC _ hc] at HN ⊢;clear hh hc hr hn;generalize aP L h=X at *;go_enter Tryz.func216,Tryz.ntmps216
  go_wp2_with fail
  refine(ae HN).mono ?_;rintro e w1 ⟨a1,c1,rfl,jN,ay⟩;have HB:=af ay;clear jN ay HN;go_wp2;go_ret2;exact⟨_,rfl,bT.nil _ _,ae HB⟩
section
variable {roots:List Int} {refs:Int->List Int}
theorem Bf.least(hr:Dg roots)(hf:∀ g,Dg (refs g)){P:List (List Int)}{i:Nat}(h:Bf roots refs P i)(hi:P.length<=i):(∀ p∈P,EL roots refs (hd p)=p)/\∀ x,EL roots refs x≠[]->EL roots refs x∈P:=by
 have Xd:=h.uniq;have jw:=h.still hr hf hi;have heq:=fun x=>jw.eq hr hf x
 refine⟨fun p hp=>?_,fun x hx=>?_⟩
 ·rw [<- heq (hd p)];unfold wyF;cases hc:P.find? (fun r=>hd r == hd p) with
  | none=>exact absurd (List.find?_eq_none.1 hc p hp) (by simp)
  | some r =>have h2:=List.find?_some hc;rw [beq_iff_eq] at h2;exact Xd r (List.mem_of_find?_eq_some hc) p hp h2
 ·rw [<- heq x] at hx ⊢;unfold wyF at hx ⊢;cases hc:P.find? (fun r=>hd r == x) with
  | none=>rw [hc] at hx;exact absurd rfl hx
  | some r=>exact List.mem_of_find?_eq_some hc
def bfA(roots:List Int)(refs:Int->List Int):List (List Int):=qX roots refs 40
theorem zfq{i:Nat}(hi:i<=40)(hl:(qX roots refs i).length<=i):qX roots refs i=bfA roots refs:=(Kz hl 40 hi).symm
theorem oF(hr:Dg roots)(hf:∀ g,Dg (refs g)):(∀ p∈bfA roots refs,EL roots refs (hd p)=p)/\(∀ x,EL roots refs x≠[]->EL roots refs x∈bfA roots refs)/\((bfA roots refs).map hd).Nodup/\(bfA roots refs).length<=40/\∀ p∈bfA roots refs,p≠[]/\(p.dropLast=[]\/p.dropLast∈bfA roots refs):=by
 have h:=Y7 hr hf 40 (Nat.le_total _ _);have hl:=h.len hr hf;obtain⟨a,b⟩:=h.least hr hf hl;refine⟨a,b,h.one,hl,fun p hp=>⟨((h.vx p hp).dg hr hf).2.2.2,?_⟩⟩;rcases h.zaV p hp with e | ⟨j,_,e⟩
 ·exact .inl e
 ·exact .inr (List.mem_of_getElem? e)
theorem zce(hr:Dg roots)(hf:∀ g,Dg (refs g))(x:Int):qF (bfA roots refs) x=decide (EL roots refs x≠[]):=by
 obtain⟨a,b,_,_,c⟩:=oF hr hf;rw [Bool.eq_iff_iff,um,decide_eq_true_iff];constructor
 ·rintro ⟨p,hp,rfl⟩;rw [a p hp];exact(c p hp).1
 ·intro hx;have hm:=b x hx;refine⟨_,hm,?_⟩;have hw:=(lM hr hf).vx x hx;have:=hw.steps.2.2.1;unfold hd;rw [List.getLastD_eq_getLast?,List.getLast?_eq_getElem?];exact this
end
section
open Go.Sort
open Go.Shelf
theorem uW(l:List Int):l.flatMap kY=l.map (Value.int .i64):=by
 induction l with
 | nil=>rfl
 | cons x l ih=>rw [List.flatMap_cons,ih];rfl
theorem zx{l:List Int}{k:Nat}{x:Int}(h:l[k]?=some x):l.take (k+1)=l.take k++[x]:=by rw [List.take_add_one,h];rfl
theorem Lk(n:Nat)(hn:1<=n)(l g n0 b off cap:Nat)(zs:List Int)(hm:zs.length<=100000)(hb:b<n0)(J Jx:List Int->World->Prop)
  (hY:∀ pre x W,J pre W->pre.length<zs.length->YieldAt Fence.wide (n-1) Tryz.prog l #[.int .i64 x] W fun e W' =>(e=.returned (.bool true)/\J (pre++[x]) W'/\Below n0 W W')\/(e=.returned (.bool false)/\Jx (pre++[x]) W'))
  (W:World) (hg:W.cell? ⟨g,0,none⟩=some (.slice (some ⟨b,off,none⟩) zs.length cap)) (hc:∀ j x,zs[j]?=some x->W.cell? ⟨b,off+j,none⟩=some (.int .i64 x)) (h0:J [] W) :
  CallsIn Fence.wide n Tryz.prog 265 #[.func (.yield l) #[] #[],.pointer (some ⟨g,0,none⟩)] W fun e W'=>(∃ v,e=.returned v) /\
   ((∃ ys,ys=zs/\J ys W')\/(∃ pre,True/\Jx pre W')):=by
 have HY:=af hY;have HC:=af hc;clear hY hc;refine callsIn_of_wp Tryz.func265 rfl trivial ?_ rfl;simp only [Tryz.ntmps265,List.size_toArray,zLc,List.length_nil,Nat.reduceAdd,Nat.reduceSub,Array.replicate_succ,Array.replicate_zero,List.push_toArray,List.append_toArray,List.nil_append,List.cons_append]
 gi_wp2
 gi_loopw [7] (fun iv wr=>∃ k:Nat,k<=zs.length/\iv=.int .i64 k/\J (zs.take k) wr/\Below n0 W wr) (fun iv _=>zs.length-(intOf iv).toNat)
 case atStart=>exact⟨0,Nat.zero_le _,rfl,h0,zBr⟩
 case round =>
  obtain⟨k,hk,rfl,hJ,hkp⟩:=hrel;by_cases aM:k<zs.length
  ·obtain⟨x,hx⟩:∃ x,zs[k]?=some x:=⟨zs[k],zLg aM⟩;obtain⟨fn,tmps,assign,body,hy,hR⟩:=ae HY (zs.take k) x wr hJ (by rw [zLt];omega);have hcx:wr.cell? ⟨b,off+k,none⟩=some (.int .i64 x):=(hkp.cell (p:=⟨b,off+k,none⟩) hb).trans (ae HC k x hx);have HSN:=af (zx hx);clear hx;have HR:=af hR;have HKP:=af hkp;clear hR hkp hJ
   gi_wp2
   refine(ae HR).mono ?_;rintro e W3 (⟨rfl,hJ3,GR⟩ | ⟨rfl,ziK⟩)
   ·have HJ3:=af hJ3;have HK3:=af ((ae HKP).trans GR);clear hJ3 GR
    gi_wp2
    go_roundw
    case rel=>exact⟨k+1,by omega,by simp,by rw [ae HSN];exact ae HJ3,ae HK3⟩
    case measure=>simp [intOf];omega
   ·have HJ3:=af ziK;clear ziK
    gi_wp2
    refine bodyPost_ret (results_none rfl _ _ _) rfl ?_;exact⟨⟨_,rfl⟩,.inr ⟨_,trivial,ae HJ3⟩⟩
  ·obtain rfl:k=zs.length:=by omega
   rw [List.take_length] at hJ
   gi_wp2
   go_end0
   exact⟨⟨_,rfl⟩,.inl ⟨_,rfl,hJ⟩⟩
theorem ET(n:Nat)(l g cap:Nat)(al:Option Addr)(Jy:World->Prop)(W:World)(hg:W.cell? ⟨g,0,none⟩=some (.slice al 0 cap))(h0:Jy W) :
  CallsIn Fence.wide n Tryz.prog 265 #[.func (.yield l) #[] #[],.pointer (some ⟨g,0,none⟩)] W fun e W'=>(∃ v,e=.returned v)/\Jy W':=by
 refine callsIn_of_wp Tryz.func265 rfl trivial ?_ rfl;simp only [Tryz.ntmps265,List.size_toArray,zLc,List.length_nil,Nat.reduceAdd,Nat.reduceSub,Array.replicate_succ,Array.replicate_zero,List.push_toArray,List.append_toArray,List.nil_append,List.cons_append]
 gi_wp2
 gi_loopw [7] (fun iv wr=>iv=.int .i64 0/\Jy wr) (fun _ _=>0)
 case atStart=>exact⟨rfl,h0⟩
 case round =>
  obtain⟨rfl,hJ⟩:=hrel
  gi_wp2
  go_end0
  exact⟨⟨_,rfl⟩,hJ⟩
theorem QK(n:Nat)(a:Option Addr)(m cap:Nat)(w:World) :
  CallsIn Fence.wide n Tryz.prog 244 #[.slice a m cap] w fun e w'=>e=.returned (.func (.func 265) #[] #[.pointer (some ⟨w.heap.size,0,none⟩)])/\w'=w.alloc (.cells #[.slice a m cap] 44):=by
 refine callsIn_of_wp Tryz.func244 rfl trivial ?_ rfl;simp only [Tryz.ntmps244,List.size_toArray,zLc,List.length_nil,Nat.reduceAdd,Nat.reduceSub,Array.replicate_succ,Array.replicate_zero,List.push_toArray,List.append_toArray,List.nil_append,List.cons_append]
 gi_wp2
 go_ret;exact⟨rfl,rfl⟩
theorem ES(n:Nat)(hn:1<=n)(g n0 cap:Nat)(al:Option Addr)(zs:List Int)(hm:zs.length<=100000)(w0 w:World)(hs:fG kY 1 w0 al cap zs)(hn0:w0.heap.size=n0)(hw:Below n0 w0 w)(hg:w.cell? ⟨g,0,none⟩=some (.slice al zs.length cap)) :
  SeqStopsK Fence.wide n Tryz.prog 265 #[.pointer (some ⟨g,0,none⟩)] (fun x:Int=>#[Value.int .i64 x]) (Below n0) (fun ys=>ys=zs) (fun _=>True) zs.length w:=fun l J Jx W hW _ _ hY h0=>by
 have hgW:W.cell? ⟨g,0,none⟩=some (.slice al zs.length cap):=(hW.cell (p:=⟨g,0,none⟩) (block_lt_of_cell hg)).trans hg;by_cases aO:zs=[]
 ·subst aO;refine(ET n l g cap al (J []) W hgW h0).mono ?_;rintro e W' ⟨he,hj⟩;exact⟨he,.inl ⟨_,rfl,hj⟩⟩
 ·obtain⟨b,off,rfl,hc⟩:=hs.2.2.2 aO;have jf:0<zs.length:=List.length_pos_iff.2 aO;have hb:b<n0:=by have:=hc 0 zs[0] (zLg jf) 0 _ rfl;rw [<- hn0];exact block_lt_of_cell this
  refine Lk n hn l g n0 b off cap zs hm hb J Jx hY W hgW (fun j x hj=>?_) h0;have q:=fG.num (cap:=cap) hc hj;exact((hw.trans (hW.mono (by rw [<- hn0];exact(hn0 ▸ hw).size))).cell (p:=⟨b,off+j,none⟩) hb).trans q
theorem TW(a:Option Addr)(cap:Nat)(zs:List Int)(hm:zs.length<=100000)(g:Nat)(w:World)(hs:fG kY 1 w a cap zs)(hg:w.cell? ⟨g,0,none⟩=some (.slice a zs.length cap)) :
  Calls Tryz.prog 269 #[.slice none 0 0,.func (.func 265) #[] #[.pointer (some ⟨g,0,none⟩)]] w fun e w'=>∃ v,e=.returned v/\bT kY 1 3 w' w.heap.size v zs/\Below w.heap.size w w':=by
 obtain⟨i0,hi,cY,dw,dz⟩:=info_parts kI;refine(callsIn_wide (n:=5)).1 ?_;refine callsIn_of_wp_marks Tryz.func269 rfl trivial ?_ rfl;simp only [Tryz.ntmps269,List.size_toArray,zLc,List.length_nil,Nat.reduceAdd,Nat.reduceSub,Array.replicate_succ,Array.replicate_zero,List.push_toArray,List.append_toArray,List.nil_append,List.cons_append];have xZ:=block_lt_of_cell hg
 gi_wp2
 have bO:=Boxed.new w 44 (.slice none 0 0);have mJ:Below w.heap.size w (w.alloc (.cells #[.slice none 0 0] 44)):=(Below.refl _ w).alloc zNr _;refine wpIn_rangeFunc_ownG rfl (by omega) (gf:=265) (lb:=#[.pointer (some ⟨g,0,none⟩)]) rfl trivial (enters_of Tryz.func265 (by kernel_rfl) rfl)
  (ES 4 (by omega) g w.heap.size cap a zs hm w _ hs rfl mJ ((mJ.cell (p:=⟨g,0,none⟩) xZ).trans hg)) belowK_t (belowK_b (by simp)) zBr (fun _=>rfl)
  (fun pre W=>(∃ v,Boxed W w.heap.size 44 v/\W.ownsRow w.heap.size 3 1 v pre.length (pre.map (Value.int .i64))/\True)/\Below w.heap.size w W)
  (fun _ _ _=>False)
  (OwnFrom.and (Own.from (holdsRow_own w.heap.size w.heap.size 44 3 1 (fun pre:List Int=>pre.length) (fun pre=>pre.map (Value.int .i64)) (fun pre v=>True)) _) (ownFrom_below zNr (by simp)))
  (fun _ _ _ _ _ hs _ _=>hs)
  ⟨⟨_,bO,World.ownsRow_nil _ _ _ _,trivial⟩,mJ⟩
  (fun x=>{ tmps:=#[.slice none 0 0,.func (.func 265) #[] #[.pointer (some ⟨g,0,none⟩)],.pointer (some ⟨w.heap.size,0,none⟩),undef,.slice none 0 0,.int .i64 x,.func (.func 265) #[] #[.pointer (some ⟨g,0,none⟩)],.int .i64 x,undef,undef,undef,undef,undef],defers:=[]}) ?assign ?body ?done ?stop
 case assign =>
  intro l x W K hK
  gi_wp2_with (rw [Oper.semAt_eq _ _ _ (fun c h=>by cases h)];go_simp;try go_bits)
  exact hK
 case body =>
  rintro l pre x W ⟨⟨v,hv,bn,pw⟩,hB⟩ aM;have hc:=hv.cell
  gi_wp2_with (first
   | (gi_at_builtin;refine wpListIn_append_own _ rfl _ _ 44 rfl w.heap.size 3 i0 (.int .i64 0) 1 8 zu44 hi cY dw dz rfl (by decide) _ _ _ rfl (bn.alloc _) ⟨W.heap.size,0,none⟩ 1 1 [.int .i64 x] rfl rfl (cell_one_new _ _ _) (by simp [Value.oneCell']) (by unfold maxLen;omega) (by omega) (by have:=hB.size;simp;omega) ?_;intro v' w1 ew sD _;obtain⟨g',cap',rfl⟩:=ownsRow_succ ew;obtain⟨hv1,Xc,vB,gO,aK⟩:=hv.appended (by decide) bn hB.size zNr ew sD;have dR:=hv1.cell;have K4:=hv1.frozen)
   | (rw [Oper.semAt_eq _ _ _ (fun c h=>by cases h)];go_simp;try go_bits))
  exact⟨gO.from _,aK,⟨_,Xc,by rw [zLa,List.map_append];simpa using vB,trivial⟩,hB.trans aK⟩
 case done =>
  rintro D ys W hD rfl ⟨⟨v,hv,bn,pw⟩,hB⟩ hK;have hc:=hv.cell
  gi_wp2
  refine⟨by simp,.inl ⟨_,_,rfl,run_takeDeferred hK,?_⟩⟩;refine⟨_,results_tmp rfl _ _ _,v,rfl,?_,hB.trans (belowK_b (w:=w) zNr W D _ _ (by simp at hD;omega) hK rfl rfl)⟩;unfold bT;rw [uW];exact ownsRow_putObj bn _ hK rfl
 case stop =>rintro D c pre W _ _ h _;exact h.elim
theorem Km(a:Option Addr)(cap:Nat)(zs:List Int)(hm:zs.length<=100000)(g:Nat)(w:World)(hs:fG kY 1 w a cap zs)(hg:w.cell? ⟨g,0,none⟩=some (.slice a zs.length cap)) :
  Calls Tryz.prog 252 #[.func (.func 265) #[] #[.pointer (some ⟨g,0,none⟩)]] w fun e w'=>∃ v,e=.returned v/\bT kY 1 3 w' w.heap.size v zs/\Below w.heap.size w w':=by
 have HA:=af (TW a cap zs hm g w hs hg);clear hs hg;go_enter Tryz.func252,Tryz.ntmps252
 go_wp2_with fail
 refine(ae HA).mono ?_;rintro e w1 ⟨v,rfl,hl,hb⟩;obtain⟨va,vm,vc,rfl⟩:=hl.shape;have HL:=af hl;have HB:=af hb;clear hl hb HA;go_wp2;go_ret;exact⟨_,rfl,ae HL,ae HB⟩
theorem Ib(v:Value)(B:Nat)(l:List Int)(w:World)(h:bT kY 1 3 w B v l)(hl:l.length<=100000) :
  Calls Tryz.prog 253 #[v] w fun e w'=>e=.returned (.tuple #[])/\bT kY 1 3 w' B v (oN l)/\aE (fun k=>v.ownBlock=some k) (fun k=>v.ownBlock=some k) w w':=by
 have hf:=h;unfold bT at hf ⊢;rw [uW] at hf;rcases hf.2 with ⟨rfl,hz⟩ | ⟨gb,c,cur,rfl,ziB,AM,r1,r2,r3,r4⟩
 ·obtain rfl:=List.eq_nil_of_length_eq_zero hz;refine(AnyM.slices_Sort_int_none OW none 0 w).mono ?_;rintro e w' ⟨rfl,rfl⟩;exact⟨rfl,by rw [show oN []=[] by unfold oN;simp];exact h,aE.refl _ _⟩
 ·have hH:Holds encZ w gb 0 l.toArray:=holds_of_block_i AM (by simpa using r4);have xZ:gb<w.heap.size:=(zAg AM).1;refine(AnyM.slices_Sort_int OW gb 0 c l w hH xZ (by omega)).mono ?_;rintro e w' ⟨rfl,nn,os,rfl⟩;refine⟨rfl,?_,aE.grown (grownBy_sorted_i _) (fun k hk=>by simpa [Value.ownBlock] using hk)⟩;rw [uW,Ff];exact ownsRow_sorted_i (by simp) ziB AM r1 r2 r3
theorem Ia(a:Option Addr)(cap:Nat)(zs:List Int)(hm:zs.length<=100000)(g:Nat)(w:World)(hs:fG kY 1 w a cap zs)(hg:w.cell? ⟨g,0,none⟩=some (.slice a zs.length cap)) :
  Calls Tryz.prog 227 #[.func (.func 265) #[] #[.pointer (some ⟨g,0,none⟩)]] w fun e w'=>∃ v,e=.returned v/\bT kY 1 3 w' w.heap.size v (oN zs)/\Below w.heap.size w w':=by
 have HC:=af (Km a cap zs hm g w hs hg);have HS:=af (fun(v:Value) (W:World) (h:bT kY 1 3 W w.heap.size v zs)=>Ib v w.heap.size zs W h hm);clear hs hg;go_enter Tryz.func227,Tryz.ntmps227
 go_wp2_with fail
 refine(ae HC).mono ?_;rintro e w1 ⟨v,rfl,hl,hb⟩;have hS1:=ae HS v w1 hl;have vr:=af (fun k (hk:v.ownBlock=some k)=>hl.block k hk);obtain⟨va,vm,vc,rfl⟩:=hl.shape;have mB:=af hS1;have HB:=af hb;clear hl hb HC hS1 HS;go_wp2_with fail
 refine(ae mB).mono ?_;rintro e w2 ⟨rfl,lR,iu⟩;have HL:=af lR;have br:=af ((ae HB).trans (iu.below (ae vr) (ae HB).size));clear lR iu mB;go_wp2;go_ret;exact⟨_,rfl,ae HL,ae br⟩
end
section
open Go.MapKept
open Go.ChangeMaps
open Go.Sort
open Go.Shelf
open Go.Maps (Keyed)
def sL(w:World)(gm:Nat)(P:List (List Int)):Prop :=∃ D:DataW Unit,w.ownsMap Tryz.prog 3 (plainElem Tryz.prog 3) gm P.length D/\(∀ z:Int,Maps.has D (.int .i64 z)=qF P z)/\(P.map hd).Nodup/\∀ p∈P,∀ zd,D.atKey (.int .i64 (hd p)) zd=.lit (.int .i64 (ld p))
theorem CG(w:World):(zeroValue 3).run Tryz.prog w=.ok (.int .i64 0) w:=by obtain⟨i0,eP,cY,dw,dz⟩:=info_parts kI;simp [zeroValue,typeInfo,eP,cY]
section
variable {w w':World} {gm:Nat} {P:List (List Int)}
theorem sL.made(w:World):sL (w.alloc (.map #[] 0)) w.heap.size []:=⟨.map [],World.ownsMap_made w _ _ _,fun z=>rfl,by simp,fun p hp=>by cases hp⟩
theorem sL.lt(h:sL w gm P):gm<w.heap.size:=by obtain⟨D,h1,_⟩:=h;exact h1.lt
theorem sL.same(h:sL w gm P)(hs:w'.heap[gm]?=w.heap[gm]?):sL w' gm P:=by obtain⟨D,⟨es,clock,hb,r⟩,h2⟩:=h;exact⟨D,⟨es,clock,hs.trans hb,r⟩,h2⟩
theorem sL.below(h:sL w gm P)(hb:Below w.heap.size w w'):sL w' gm P:=h.same (hb.block gm h.lt)
theorem sL.isMap(h:sL w gm P):∃ es clock,w.heap[gm]?=some (.map es clock):=by obtain⟨D,⟨es,clock,hb,_⟩,_⟩:=h;exact⟨es,clock,hb⟩
theorem sL.apart(h:sL w gm P){a:Option Addr}{c:Nat}{l:List Int}(hs:fG kY 1 w a c l):∀ b off,a=some ⟨b,off,none⟩->l≠[]->b≠gm:=by
 rintro b off rfl aO rfl;obtain⟨es,clock,hm⟩:=h.isMap;obtain⟨b',off',e,hc⟩:=hs.2.2.2 aO;simp only [Option.some.injEq,Addr.mk.injEq,and_true] at e;obtain⟨rfl,rfl⟩:=e;cases l with
 | nil=>exact aO rfl
 | cons x r =>have q:=hc 0 x rfl 0 _ rfl;unfold World.cell? at q;rw [hm] at q;simp at q
theorem sL.look(h:sL w gm P){z:Int}(hz:-9223372036854775808<=z/\z<=9223372036854775807) :
  ∃ v,(Instr.lookup 164 (.map (some gm)) (.int .i64 z) true).run Tryz.prog w=.ok (.tuple #[.int .i64 v,.bool (qF P z)]) w:=by
 obtain⟨D,h1,h2,_⟩:=h;have dt:=Maps.keyOf_int_mk (P:=Tryz.prog) zu3 (WalkArith.wf_i64 hz);obtain⟨v,ps,bw,hv⟩:=h1.look_ok (Maps.int_keyed zu3) zu164 (CG w) (plainElem_int zu3 (a:=0) (by decide)) dt;obtain⟨a,rfl,_⟩:=plainElem_int_inv zu3 hv;exact⟨a,by rw [bw,h2 z]⟩
theorem sL.store(h:sL w gm P)(hn:P.length<=1000){q:List Int}{x:Int}(hx:-9223372036854775808<=x/\x<=9223372036854775807)(hq:-9223372036854775808<=hd q/\hd q<=9223372036854775807)(da:qF P x=false) :
  ∃ w',(Instr.mapUpdate 164 (.map (some gm)) (.int .i64 x) (.int .i64 (hd q))).run Tryz.prog w=.ok () w'/\sL w' gm (P++[q++[x]])/\w.mapTurned w' gm:=by
 obtain⟨D,h1,h2,h3,h4⟩:=h;have hK:=Maps.int_keyed (P:=Tryz.prog) zu3;have dt:=Maps.keyOf_int_mk (P:=Tryz.prog) zu3 (WalkArith.wf_i64 hx);obtain⟨w',bw,ew,ht⟩:=h1.store hK zu164 (by unfold maxLen;omega) dt (plainElem_int zu3 (a:=hd q) (WalkArith.wf_i64 hq));have jM:WideAt.IsKeyLit (.int .i64 x):=hK.key dt;have aO:∀ z,z≠x->Lit.int .i64 z≠Lit.int .i64 x:=fun z hz e=>by simp only [Lit.int.injEq,true_and] at e;exact hz e
 refine⟨w',bw,⟨_,by rw [zLa];exact ew,fun z=>?_,?_,fun p hp zd=>?_⟩,ht⟩
 ·rw [R3,lH];by_cases e:z=x
  ·subst e;rw [Maps.has_put_same h1.isMap jM];simp
  ·rw [Maps.has_put_other (aO z e),h2 z,beq_eq_false_iff_ne.2 (fun h=>e h.symm),Bool.or_false]
 ·rw [List.map_append,List.nodup_append];refine⟨h3,by simp,fun u hu v hv=>?_⟩;obtain⟨p,hp,rfl⟩:=List.mem_map.1 hu;simp [lH] at hv;rw [hv];exact FV da p hp
 ·rcases zMa hp with hp | hp
  ·have:=FV da p hp;rw [Maps.atKey_put_other (aO _ this)];exact h4 p hp zd
  ·rw [zMs hp,lH,zbt];exact Maps.atKey_put_same h1.isMap jM _ _
end
end
theorem QJ{L:List Int}(hf:aB L){p:List Int}{x:Int}(w:Way (mU L) (eW L) p x):aP L x=0:=vI hf (w.all (iL hf) (eV L))
def GW(L:List Int):List (List Int):=bfA (mU L) (eW L)
section
variable {L:List Int}
theorem zcc(hf:aB L)(x:Int):qF (GW L) x=Ww L x:=by have:=zce (iL hf) (eV L) x;exact this
end
theorem Qe(L:List Int)(k:Nat):(jO L k).length<=k:=by unfold jO;exact Nat.le_trans (List.length_filter_le _ _) (by simp)
theorem YM(L:List Int)(k:Nat):jO L (k+1)=if aq L ((k:Int)+1)≠0/\Ww L ((k:Int)+1)=false then jO L k++[(k:Int)+1] else jO L k:=by
 unfold jO;rw [List.range_succ,List.map_append,List.filter_append];by_cases h:aq L ((k:Int)+1)≠0/\Ww L ((k:Int)+1)=false
 ·rw [if_pos h];simp [h.1,h.2]
 ·rw [if_neg h];by_cases h1:aq L ((k:Int)+1)=0
  ·simp [h1]
  ·have h2:Ww L ((k:Int)+1)=true:=by
    cases e:Ww L ((k:Int)+1) with
    | true=>rfl
    | false=>exact absurd ⟨h1,e⟩ h
   simp [h2]
theorem Pg(q:List Int):∀ (l:List Int) (P:List (List Int)),(mD q P l).length<=P.length+l.length
 | [],P=>by simp [mD]
 | x :: l,P=>by
  have h1:=Pg q l (B8 q P x);have h2:(B8 q P x).length<=P.length+1:=by
   unfold B8;split
   ·omega
   ·simp
  show(mD q (B8 q P x) l).length<=_
  rw [zLc];omega
section
open Go.MapKept
open Go.ChangeMaps
theorem LU(p g c B:Nat)(L:List Int)(w:World)(hh:Hp w B p g c L) :
  Calls Tryz.prog 215 #[.pointer (some ⟨p,0,none⟩)] w fun e w'=>∃ v,e=.returned v/\bT kY 1 3 w' w.heap.size v (mU L)/\Below w.heap.size w w':=by
 obtain⟨i0,eP,cY,dw,dz⟩:=info_parts kI;have HA:=af (Ri p g c B L w hh);have HR:Hid (mU L=(ak L 8).map (·.2)):=af rfl;have uJ:=eA L 8;clear hh;generalize mU L=RH at *;generalize ak L 8=R at *;go_enter Tryz.func215,Tryz.ntmps215
 go_wp2_with fail
 refine(ae HA).mono ?_;rintro e w1 ⟨v1,rfl,kU,ay⟩;obtain⟨a1,c1,rfl,dL⟩:=kU.kk mX (by omega);have mB:=af dL;have aL:=af ay;have mH:=dL.2.2.1;clear kU dL ay HA;go_wp2_with fail
 go_loopw [3,5,9] (fun v _ iv wr=>∃ k:Nat,k<=R.length/\iv=.int .i64 (k:Int)/\bT kY 1 3 wr w1.heap.size v ((R.take k).map (·.2))/\Below w1.heap.size w1 wr) (fun _ _ iv _=>R.length-(intOf iv).toNat)
 case atStart=>exact⟨0,Nat.zero_le _,rfl,bT.nil _ _,zBr⟩
 case round =>
  obtain⟨k,hk,rfl,az,ao⟩:=hrel;obtain⟨va,vm,vc,rfl⟩:=az.shape;by_cases aM:k<R.length
  ·obtain⟨b1,o1,rfl,dR⟩:=((ae mB).below ao).2.2.2 (by intro e;rw [e] at aM;simp at aM);obtain⟨r,hr⟩:∃ r,R[k]?=some r:=⟨R[k],zLg aM⟩;obtain⟨q0,q1⟩:=fG.root (cap:=0) dR hr;have pY:(R.take (k+1)).map (·.2)=(R.take k).map (·.2)++[r.2]:=by rw [List.take_add_one,hr];simp
   have nK:=af pY;have tH:((R.take k).map (·.2)).length<=8:=by rw [zLm,zLt];omega
   obtain⟨s,x⟩:=r;dsimp only at *;generalize (R.take k).map (·.2)=acc at *;have aK:Below wr.heap.size wr ((wr.alloc (.cells #[.string s,.int .i64 x] 152)).alloc (.cells #[.int .i64 x] 3)):=(zBr.alloc zNr _).alloc (by simp) _;have nB:=af (az.below aK);have cT:=af (ao.trans (aK.mono ao.size));have jK:Hid (((wr.alloc (.cells #[.string s,.int .i64 x] 152)).alloc (.cells #[.int .i64 x] 3)).heap[(wr.alloc (.cells #[.string s,.int .i64 x] 152)).heap.size]?=some (.cells (kY x).toArray 3 (0,0))):=af (heap_alloc_new _ _);rw [aH] at jK;have M6:=ao.size;have g1:=block_lt_of_cell q0;clear dR hr pY az ao aK;go_wp2_with (at_builtin;refine bM rfl _ _ 44 rfl w1.heap.size i0 (.int .i64 0) 8 zu44 eP cY dw dz rfl (by decide) (by decide) _ _ rfl (ae nB) (wr.heap.size+1) x rfl (ae jK) rfl (uG _) (by omega) (by simp;omega) ?_)
   intro v9 w9 aZ mr;rw [<- ae nK] at aZ;have pS:=af aZ;have jI:=af ((ae cT).trans mr);obtain⟨a9,m9,c9,rfl⟩:=aZ.shape;clear aZ mr nB cT jK;go_wp2;go_roundw
   case rel=>exact⟨k+1,by omega,by go_num,ae pS,ae jI⟩
   case measure=>simp [intOf];omega
  ·have AJ:k=R.length:=by omega
   rw [AJ,List.take_length] at az;have HO:=af az;have br:=zTr aL ao;have Qu:=af (ae aL).size;have tJ:¬ ((k:Int)<(R.length:Int)):=by omega
   clear AJ aM hk az ao;go_wp2;go_ret;exact⟨_,rfl,by rw [ae HR];exact(ae HO).Sd (ae Qu),ae br⟩
theorem bT.zkI{α:Type}{enc:α->List Value}{k T:Nat}{w w':World}{B m:Nat}{v:Value}{l:List α}(h:bT enc k T w B v l)(ht:w.mapTurned w' m)(hm:m<B):bT enc k T w' B v l:=by
 refine⟨h.1,?_⟩;rcases h.2 with h0 | ⟨g,cap,cur,rfl,hB,hc,h3⟩
 ·exact .inl h0
 ·exact .inr ⟨g,cap,cur,rfl,hB,(ht.grown.block g (zAg hc).1 (fun e=>by cases e;omega)).trans hc,h3⟩
theorem bT.zgP{α:Type}{enc:α->List Value}{k T:Nat}{w w':World}{B gm:Nat}{v:Value}{l:List α}{P:List (List Int)}(h:bT enc k T w B v l)(hM:sL w gm P)(ht:aE (fun k=>k=gm) (fun k=>k=gm) w w'):bT enc k T w' B v l:=by
 refine⟨h.1,?_⟩;rcases h.2 with h0 | ⟨g,cap,cur,rfl,hB,hc,h3⟩
 ·exact .inl h0
 ·refine .inr ⟨g,cap,cur,rfl,hB,(ht.block g (zAg hc).1 (fun e=>?_)).trans hc,h3⟩;obtain⟨es,clock,hm⟩:=hM.isMap;rw [<- e,hc] at hm;cases hm
theorem aE.onB{S:Nat->Prop}{a b c:World}(h:aE S S a b)(k:Below a.heap.size b c):aE S S a c :=⟨k.os.trans h.os,k.tape.trans h.tape,k.output.trans h.output,Nat.le_trans h.size k.size,fun i hi hn=>(k.block i hi).trans (h.block i hi hn),fun _ _ hs=>hs⟩
theorem WA(gm:Nat)(q:List Int)(P:List (List Int))(a:Option Addr)(cap:Nat)(l:List Int)(w:World)(hM:sL w gm P)(hs:fG kY 1 w a cap l)(hl:l.length<=40)(hdg:Dg l)(hq:0<=hd q/\hd q<=40)(hP:P.length<=100) :
  Calls Tryz.prog 214 #[.map (some gm),.int .i64 (hd q),.slice a l.length cap] w fun e w'=>∃ v,e=.returned v/\bT kY 1 3 w' w.heap.size v (yE q P (oN l))/\sL w' gm (mD q P (oN l))/\aE (fun k=>k=gm) (fun k=>k=gm) w w':=by
 obtain⟨i0,eP,cY,dw,dz⟩:=info_parts kI;have HV:=af ((callsIn_wide (n:=5)).1 (QK 5 a l.length cap w));have fp:Below w.heap.size w (w.alloc (.cells #[.slice a l.length cap] 44)):=zBr.alloc zNr _;have HSO:=af (Ia a cap l (by omega) w.heap.size (w.alloc (.cells #[.slice a l.length cap] 44)) (hs.below fp) (by rw [cell_of_row _ _ _ _ _ _ (heap_alloc_new w _)];rfl));have kj:=af fp;have HM:=af hM;have JN:=hM.lt;have tE:(oN l).length=l.length:=Ff l;have HDG:Hid (Dg (oN l)):=af (fun x hx=>hdg x (o6.1 hx));have py:=hs.2.2.1;clear hM hs hdg fp;generalize oN l=s at *;generalize nJ:l.length=n at *;have HM0:Hid (mD q P (s.take 0)=P/\yE q P (s.take 0)=[]):=af (by refine⟨rfl,?_⟩;unfold yE mD;simp);have HML:=af (fun k=>Pg q (s.take k) P);have HNW:=af (fun k=>za6 q P (s.take k));have HSN:=af (fun(k:Nat) (x:Int) (hx:s[k]?=some x)=>show mD q P (s.take (k+1))=B8 q (mD q P (s.take k)) x/\yE q P (s.take (k+1))=if qF (mD q P (s.take k)) x=true then yE q P (s.take k) else yE q P (s.take k)++[x] by rw [zx hx];exact⟨I8 q P _ x,V5 q P _ x⟩);go_enter Tryz.func214,Tryz.ntmps214
 go_wp2_with fail
 refine(ae HV).mono ?_;rintro e w1 ⟨rfl,fR⟩;subst fR;go_wp2_with fail
 refine(ae HSO).mono ?_;rintro e w2 ⟨v2,rfl,lR,aK⟩;rw [aH] at aK;have cD:Below w.heap.size w w2:=(ae kj).trans (aK.mono (Nat.le_succ _));have zic:gm<w2.heap.size:=Nat.lt_of_lt_of_le JN cD.size;have EH:=af ((ae HM).below cD);obtain⟨a2,c2,rfl,oh⟩:=lR.kk iG (by omega);have yU:=af oh;have br:=af cD;have mH:=oh.2.2.1;clear lR oh aK cD HSO HV kj HM;obtain⟨Q,hQ⟩:∃ Q,hd q=Q:=⟨_,rfl⟩;rw [hQ] at hq ⊢;have HQQ:=af hQ;clear hQ;go_wp2_with fail
 go_loopw [7,9,10,11,16] (fun v _ _ _ iv wr=>∃ k:Nat,k<=s.length/\iv=.int .i64 (k:Int)/\bT kY 1 3 wr w2.heap.size v (yE q P (s.take k))/\sL wr gm (mD q P (s.take k))/\aE (fun k=>k=gm) (fun k=>k=gm) w2 wr) (fun _ _ _ _ iv _=>s.length-(intOf iv).toNat)
 case atStart=>exact⟨0,Nat.zero_le _,rfl,by rw [(ae HM0).2];exact bT.nil _ _,by rw [(ae HM0).1];exact ae EH,aE.refl _ _⟩
 case round =>
  obtain⟨k,hk,rfl,az,px,j5⟩:=hrel;obtain⟨va,vm,vc,rfl⟩:=az.shape;by_cases aM:k<s.length
  ·have aO:s≠[]:=by intro e;rw [e] at aM;simp at aM
   have rS:=(ae EH).apart (ae yU);obtain⟨b1,o1,rfl,dR⟩:=(ae yU).2.2.2 aO;obtain⟨x,hx⟩:∃ x,s[k]?=some x:=⟨s[k],zLg aM⟩;have q0:=fG.num (cap:=0) dR hx;have q1:wr.cell? ⟨b1,o1+k,none⟩=some (.int .i64 x):=(World.cell?_of_block (a:=⟨b1,o1+k,none⟩) (j5.block b1 (block_lt_of_cell q0) (rS b1 o1 rfl aO))).trans q0;have hxb:=ae HDG x (List.mem_of_getElem? hx);obtain⟨n1,n2⟩:=ae HSN k x hx;have tH:=ae HML k;have hnw:=ae HNW k;have zmr:(mD q P (s.take k)).length<=140:=by rw [zLt] at tH;omega
   have zmo:(yE q P (s.take k)).length<=140:=by omega
   obtain⟨xv,bX⟩:=px.look (z:=x) (by omega);have HN1:=af n1;have HN2:=af n2;have cL:=j5.size;clear dR hx rS aO n1 n2 tH hnw q0;cases F7:qF (mD q P (s.take k)) x with
   | true =>
    have HE:Hid (mD q P (s.take (k+1))=mD q P (s.take k)/\yE q P (s.take (k+1))=yE q P (s.take k)):=af (by rw [ae HN1,ae HN2,if_pos F7];unfold B8;rw [if_pos F7];exact⟨rfl,rfl⟩);rw [F7] at bX;have ki:=af az;have Qw:=af px;have Uw:=af j5;clear az px j5 HN1 HN2 F7;go_wp2;go_roundw
    case rel=>exact⟨k+1,by omega,by go_num,by rw [(ae HE).2];exact ae ki,by rw [(ae HE).1];exact ae Qw,ae Uw⟩
    case measure=>simp [intOf];omega
   | false =>
    have HE:Hid (mD q P (s.take (k+1))=mD q P (s.take k)++[q++[x]]/\yE q P (s.take (k+1))=yE q P (s.take k)++[x]):=af (by rw [ae HN1,ae HN2,if_neg (by rw [F7];simp)];unfold B8;rw [if_neg (by rw [F7];simp)];exact⟨rfl,rfl⟩);obtain⟨w3,jw,zeA,tD⟩:=px.store (q:=q) (x:=x) (by omega) (by omega) (by rw [ae HQQ];omega) F7;rw [F7] at bX;rw [<- (ae HE).1] at zeA;rw [ae HQQ] at jw;have hT3:aE (fun k=>k=gm) (fun k=>k=gm) w2 w3:=j5.trans (aE.grown tD.grown (fun k hk=>by cases hk;rfl));have sy:=az.zkI tD zic;have dO:Below w3.heap.size w3 (w3.alloc (.cells #[.int .i64 x] 3)):=zBr.alloc zNr _;have qb:=af (sy.below dO);have ZB:=af (zeA.below dO);have HT4:=af (hT3.trans (aE.aW dO));have jK:Hid ((w3.alloc (.cells #[.int .i64 x] 3)).heap[w3.heap.size]?=some (.cells (kY x).toArray 3 (0,0))):=af (heap_alloc_new w3 _);have zbA:=hT3.size;clear az px j5 F7 zeA hT3 sy dO tD HN1 HN2;generalize yE q P (s.take k)=acc at *;go_wp2_with (at_builtin;refine bM rfl _ _ 44 rfl w2.heap.size i0 (.int .i64 0) 8 zu44 eP cY dw dz rfl (by decide) (by decide) _ _ rfl (ae qb) w3.heap.size x rfl (ae jK) rfl (uG _) (by omega) (by simp;omega) ?_)
    intro v9 w9 aZ mr;rw [<- (ae HE).2] at aZ;have pS:=af aZ;have HM9:=af ((ae ZB).same (mr.block gm zic));have HT9:=af ((ae HT4).onB mr);obtain⟨a9,m9,c9,rfl⟩:=aZ.shape;clear aZ mr qb ZB HT4 jK;go_wp2;go_roundw
    case rel=>exact⟨k+1,by omega,by go_num,ae pS,ae HM9,ae HT9⟩
    case measure=>simp [intOf];omega
  ·have AJ:k=s.length:=by omega
   rw [AJ,List.take_length] at az px;have HO:=af (az.Sd (ae br).size);have Qw:=af px;have HT:=af ((aE.aW (S:=fun k=>k=gm) (ae br)).trans j5);have tJ:¬ ((k:Int)<(s.length:Int)):=by omega
   clear AJ aM hk az px j5;go_wp2;go_ret;exact⟨_,rfl,ae HO,ae Qw,ae HT⟩
theorem Rl(L:List Int)(h:Int)(hf:aB L):(Iz L h).length<=15:=by rw [Iy,<- ID];exact Nat.le_trans (IE L _ _) (FQ L h hf)
theorem Cc(p g c B:Nat)(L:List Int)(w:World)(hh:Hp w B p g c L) :
  Calls Tryz.prog 153 #[.pointer (some ⟨p,0,none⟩)] w fun e w'=>∃ gm,e=.returned (.map (some gm))/\sL w' gm (GW L)/\w.heap.size<=gm/\Below w.heap.size w w':=by
 obtain⟨i0,eP,cY,dw,dz⟩:=info_parts kI;have D1:=@run_makeMap Tryz.prog;have hf:=hh.aV;have gy:Below w.heap.size w (w.alloc (.map #[] 0)):=zBr.alloc zNr _;have Qv:=af (LU p g c B L (w.alloc (.map #[] 0)) (hh.below gy));rw [aH] at Qv;have HRE:=af (fun(x:Int) (W:World) (hW:Below w.heap.size w W)=>LZ p g c B L x W (hh.below hW));have hrt:(mU L).length<=8:=by unfold mU;rw [zLm];exact eA L 8
 have HLE:=af (fun(q:List Int) (P:List (List Int)) (a:Option Addr) (cap:Nat) (l:List Int) (W:World) hM hs hl hdg hq hP=>WA w.heap.size q P a cap l W hM hs hl hdg hq hP);have HBF:Hid (∀ k,Bf (mU L) (eW L) (qX (mU L) (eW L) k) k):=af (fun k=>Y7 (iL hf) (eV L) k (Nat.le_total _ _));have vG:=af (fun k=>(ae HBF k).len (iL hf) (eV L));have HZ:Hid (mD [] [] (oN (mU L))=qX (mU L) (eW L) 0/\yE [] [] (oN (mU L))=(qX (mU L) (eW L) 0).map hd):=af ⟨rfl,by have:=FP [] [] (oN (mU L));rw [List.map_nil,List.nil_append] at this;exact this⟩;have HSC:Hid (∀ k q,(qX (mU L) (eW L) k)[k]?=some q->aP L (hd q)=0/\Iz L (hd q)=eW L (hd q)/\(1<=hd q/\hd q<=40)/\mD q (qX (mU L) (eW L) k) (oN (Iz L (hd q)))=qX (mU L) (eW L) (k+1)/\(qX (mU L) (eW L) k).map hd++yE q (qX (mU L) (eW L) k) (oN (Iz L (hd q)))=(qX (mU L) (eW L) (k+1)).map hd):=af (fun k q hq=>by
  have hw:=(ae HBF k).vx q (List.mem_of_getElem? hq);have hc:=QJ hf hw;have hr:Iz L (hd q)=eW L (hd q):=by unfold Iz;rw [if_pos hc]
  have e:=Kx hq;refine⟨hc,hr,aF.1 (aJ.1 hc).2.1,by rw [hr,e],?_⟩;rw [FP,hr,e])
 have zio:∀ x,Dg (Iz L x):=fun x y hy=>by
  unfold Iz at hy;split at hy
  ·exact eV L x y hy
  ·cases hy
 have HDG:Hid (∀ x,Dg (Iz L x)/\(Iz L x).length<=15):=af (fun x=>⟨zio x,Rl L x hf⟩);clear zio;have KU:Hid (∀ k,k<=40->(qX (mU L) (eW L) k).length<=k->qX (mU L) (eW L) k=GW L):=af (fun k hk hl=>zfq hk hl);have xx:=af (iL hf);have HM0:=af (sL.made w);have iw:=af gy;clear hh hf gy HBF;generalize GW L=BL at *;generalize mU L=RH at *;generalize qX RH (eW L)=bp at *;go_enter Tryz.func153,Tryz.ntmps153
 go_wp2_with fail
 refine(ae Qv).mono ?_;rintro e w1 ⟨v1,rfl,kU,ay⟩;have dm:Below w.heap.size w w1:=(ae iw).trans (ay.mono (Nat.le_succ _));have nF:w.heap.size+1<=w1.heap.size:=by have:=ay.size;rw [aH] at this;exact this
 have hM1:sL w1 w.heap.size []:=(ae HM0).same (ay.block _ (Nat.lt_succ_self _));obtain⟨a1,c1,rfl,dL⟩:=kU.kk iG (by omega);have BY:=af (ae HLE [] [] a1 c1 RH w1 hM1 dL (by omega) (ae xx) (by decide) (by simp));have zbK:=dL.2.2.1;have aL:=af dm;clear kU dL ay dm hM1 Qv HM0 iw;have XF:hd []=0:=rfl;rw [XF] at BY;go_wp2_with fail
 refine(ae BY).mono ?_;rintro e w2 ⟨v2,rfl,lR,iP,iu⟩;rw [(ae HZ).2] at lR;rw [(ae HZ).1] at iP;have zm:=af (lR.Sd nF);have EH:=af iP;have br:=af ((ae aL).trans (iu.below (fun k hk=>by rw [hk];exact zNr) (by omega)));have M6:=Nat.le_trans nF iu.size;obtain⟨va2,vm2,vc2,rfl⟩:=lR.shape;clear lR iP iu BY aL XF;go_wp2_with fail
 go_loopw [4,5,6,7] (fun v iv _ _ wr=>∃ k:Nat,k<=(bp k).length/\iv=.int .i64 (k:Int)/\bT kY 1 3 wr (w.heap.size+1) v ((bp k).map hd)/\sL wr w.heap.size (bp k)/\Below w.heap.size w wr/\w.heap.size+1<=wr.heap.size) (fun _ iv _ _ _=>41-(intOf iv).toNat)
 case atStart=>exact⟨0,Nat.zero_le _,rfl,ae zm,ae EH,ae br,M6⟩
 case round =>
  obtain⟨k,hk,rfl,az,px,ao,cL⟩:=hrel;have nJ:=ae vG k;obtain⟨va,vc,rfl,tE⟩:=az.kk iG (by rw [zLm];omega);have tH:((bp k).map hd).length=(bp k).length:=zLm _;have HMM:Hid ((bp k).map hd=(bp k).map hd):=af rfl;have zjP:Hid (∀ q,(bp k)[k]?=some q->((bp k).map hd)[k]?=some (hd q)):=af (fun q hq=>by rw [List.getElem?_map,hq];rfl);have HSX:=af (fun q hq=>(ae HSC k q hq).2.2.2.2);by_cases aM:k<(bp k).length
  ·obtain⟨q,hq⟩:∃ q,(bp k)[k]?=some q:=⟨_,zLg aM⟩;obtain⟨s1,s2,s3,s4,_⟩:=ae HSC k q hq;have s5:=ae HSX q hq;have wO:=ae zjP q hq;clear HSX zjP HMM;generalize (bp k).map hd=MM at *;have zms:k<MM.length:=by omega
   obtain⟨b3,o3,rfl,BS⟩:=tE.2.2.2 (by intro e;rw [e] at tH;simp at tH;omega);have q0:=fG.num (cap:=0) BS wO;have HRX:=af (ae HRE (hd q) wr ao);rw [s1,aA] at HRX;obtain⟨d1,d2⟩:=ae HDG (hd q);have hnx:k+1<=(bp (k+1)).length:=by have:=congrArg List.length s5;rw [zLa,zLm] at this;omega
   have HD1:=af d1;have HS4:=af s4;have HS5:=af s5;have HQ:Hid (∃ Q,hd q=Q):=af ⟨_,rfl⟩;have zmt:=ae vG (k+1);have ki:=af az;have Qw:=af px;have aQ:=af ao;have HC3:Hid (∀ W,aE (fun k=>k=w.heap.size) (fun k=>k=w.heap.size) wr W->W.cell? ⟨b3,o3+k,none⟩=some (.int .i64 (hd q))):=af (fun W hW=>by have rS:=px.apart tE b3 o3 rfl (by intro e;rw [e] at tH;simp at tH;omega);exact(World.cell?_of_block (a:=⟨b3,o3+k,none⟩) (hW.block b3 (block_lt_of_cell q0) rS)).trans q0);have HML:=af tH;have zmO:MM.length<=40:=by omega
   have PR:(bp k).length<=40:=by omega
   clear az px ao BS tE wO hq s1 s2 s4 s5 d1 tH;generalize hRF:Iz L (hd q)=RF at *;have HLX:=af (fun(a:Option Addr) (cap:Nat) (W:World) hM hs=>ae HLE q (bp k) a cap RF W hM hs (by omega) (ae HD1) (by omega) (by omega));obtain⟨Q,hQ⟩:=ae HQ;rw [hQ] at q0 HRX HLX s3 HC3;clear hRF hQ HQ;go_wp2_with fail
   refine(ae HRX).mono ?_;rintro e w3 ⟨v3,rfl,lQ,bR⟩;obtain⟨a3,c3,rfl,F5⟩:=lQ.kk iG (by omega);have hM3:=(ae Qw).below bR;have tz:=af (ae HLX a3 c3 w3 hM3 F5);have hq3:=ae HC3 w3 (aE.aW bR);have nB:=af ((ae ki).below bR);have HM3:=af hM3;have cT:=zTr aQ bR;have zbA:=Nat.le_trans cL bR.size;have Ge:=F5.2.2.1;clear lQ F5 bR hM3 HRX HLX ki Qw aQ HC3 q0;go_wp2_with fail
   refine(ae tz).mono ?_;rintro e w4 ⟨v4,rfl,tI,Nd,ht4⟩;have qb:=af ((ae nB).zgP (ae HM3) ht4);rw [ae HS4] at Nd;have ZB:=af Nd;have ez:=af ((ae cT).trans (ht4.below (fun k hk=>by rw [hk];exact zNr) (by omega)));have zbz:=Nat.le_trans zbA ht4.size;have wH:(yE q (bp k) (oN RF)).length<=40:=by have:=congrArg List.length (ae HS5);rw [zLa,zLm] at this;omega
   obtain⟨a4,c4,rfl,Xm⟩:=tI.kk iG (by omega);have zjp:=af Xm;clear tI Nd ht4 tz nB HM3 cT Xm hq3;have yx:Hid (MM.length+(yE q (bp k) (oN RF)).length<=1000):=af (by omega);generalize yE q (bp k) (oN RF)=NW at *;go_wp2_with (at_builtin;refine jj rfl _ _ 44 rfl (w.heap.size+1) i0 (.int .i64 0) 8 zu44 eP cY dw dz rfl (by decide) (by decide) _ _ rfl (ae qb) a4 c4 _ rfl (ae zjp) iG uG (ae yx) zbz ?_)
   intro v9 w9 aZ mr
   try rw [ae HS5] at aZ
   have pS:=af aZ;have HM9:=af ((ae ZB).same (mr.block _ (Nat.lt_succ_self _)));have jI:=af ((ae ez).trans (mr.mono (Nat.le_succ _)));have zhK:=Nat.le_trans zbz mr.size;obtain⟨a9,m9,c9,rfl⟩:=aZ.shape;clear aZ mr qb ZB ez zjp;go_wp2;go_roundw
   case rel=>exact⟨k+1,by omega,by go_num,ae pS,ae HM9,ae jI,zhK⟩
   case measure=>simp [intOf];omega
  ·have he:=ae KU k (by omega) (by omega);rw [he] at px;have Qw:=af px;have aQ:=af ao;have tJ:¬ ((k:Int)<((bp k).length:Int)):=by omega
   rw [tH];clear px ao az tE he;go_wp2;go_ret;exact⟨_,rfl,ae Qw,zNr,ae aQ⟩
end
section
open Go.MapKept
open Go.ChangeMaps
open Go.Sort
open Go.Shelf
section
variable {w:World} {B p g c:Nat} {L:List Int}
theorem L3(h:Hp w B p g c L) :
  Calls Tryz.prog 90 #[.pointer (some ⟨p,0,none⟩)] w fun e w'=>∃ v,e=.returned v/\bT kY 1 3 w' w.heap.size v (jO L 40)/\Below w.heap.size w w':=by
 obtain⟨i0,eP,cY,dw,dz⟩:=info_parts kI;have HL:=af (Cc p g c B L w h);have HIS:=af (fun(x:Int) (W:World) (hW:Below w.heap.size w W)=>uz p g c B L x W (h.below hW));have HMT:=af (fun x=>zcc h.aV x);have CC:Hid (∀ k:Nat,k<40->(aP L ((k:Int)+1)=0 ↔ aq L ((k:Int)+1)≠0)):=af (fun k hk=>⟨fun e=>(aJ.1 e).2.2,fun e=>aJ.2 ⟨h.aV.cW,aF.2 (by omega),e⟩⟩);have HDS:=af (fun k=>YM L k);have HDL:=af (fun k=>Qe L k);have HD0:Hid (jO L 0=[]):=af rfl;clear h;generalize GW L=BL at *;generalize jO L=dk at *;go_enter Tryz.func90,Tryz.ntmps90
 go_wp2_with fail
 refine(ae HL).mono ?_;rintro e w1 ⟨gm,rfl,uO,JN,ay⟩;have KS:=af uO;have aL:=af ay;clear uO ay HL;go_wp2_with fail
 go_loopw [4,5,6,7] (fun v iv _ _ wr=>∃ k:Nat,k<=40/\iv=.int .i64 ((k:Int)+1)/\bT kY 1 3 wr w1.heap.size v (dk k)/\Below w1.heap.size w1 wr) (fun _ iv _ _ _=>41-(intOf iv).toNat)
 case atStart=>exact⟨0,Nat.zero_le _,rfl,by rw [ae HD0];exact bT.nil _ _,zBr⟩
 case round =>
  obtain⟨k,hk,rfl,az,ao⟩:=hrel;obtain⟨va,vm,vc,rfl⟩:=az.shape;by_cases aM:k<40
  ·obtain⟨xv,bX⟩:=((ae KS).below ao).look (z:=(k:Int)+1) (by omega);rw [ae HMT] at bX;have OC:=af (ae HIS ((k:Int)+1) wr (zTs aL ao));have Cl:=ae CC k aM;have hds:=ae HDS k;have K5:=ae HDL k;have hle:(k:Int)+1<=40:=by omega
   have eQ:((k+1:Nat):Int)+1=(k:Int)+1+1:=by omega
   have HIN:=af eQ;have hnn:(0:Int)<=(k:Int)+1:=by omega
   have ki:=af az;have aQ:=af ao;clear az ao eQ;obtain⟨X,hX⟩:∃ X:Int,(k:Int)+1=X:=⟨_,rfl⟩;rw [hX] at bX OC Cl hds hle HIN hnn;rw [hX];have HX:=af hX;clear hX;cases SK:Ww L X with
   | true =>
    rw [SK] at bX;have HE:Hid (dk (k+1)=dk k):=af (by rw [hds,if_neg (by rw [SK];simp)]);clear hds Cl SK OC;go_wp2;go_roundw
    case rel=>exact⟨k+1,by omega,by rw [ae HIN],by rw [ae HE];exact ae ki,ae aQ⟩
    case measure=>simp [intOf];omega
   | false =>
    rw [SK] at bX;by_cases ht:aq L X=0
    ·have HE:Hid (dk (k+1)=dk k):=af (by rw [hds,if_neg (fun hq=>hq.1 ht)]);rw [decide_eq_false (fun e=>(Cl.1 e) ht)] at OC;clear hds Cl SK ht;go_wp2_with fail
     refine(ae OC).mono ?_;rintro e w2 ⟨rfl,aK⟩;have zm:=af ((ae ki).below aK);have br:=zTr aQ aK;clear aK OC ki aQ;go_wp2;go_roundw
     case rel=>exact⟨k+1,by omega,by rw [ae HIN],by rw [ae HE];exact ae zm,ae br⟩
     case measure=>simp [intOf];omega
    ·have HE:Hid (dk (k+1)=dk k++[X]):=af (by rw [hds,if_pos ⟨ht,SK⟩]);rw [decide_eq_true (Cl.2 ht)] at OC;clear hds Cl SK ht;go_wp2_with fail
     refine(ae OC).mono ?_;rintro e w2 ⟨rfl,aK⟩;have cD:=zTs aQ aK;have nB:=af (((ae ki).below aK).below ((Below.refl _ w2).alloc zNr (.cells #[.int .i64 X] 3)));have cT:=af (cD.alloc cD.size (.cells #[.int .i64 X] 3));have jK:Hid ((w2.alloc (.cells #[.int .i64 X] 3)).heap[w2.heap.size]?=some (.cells (kY X).toArray 3 (0,0))):=af (heap_alloc_new w2 _);have M6:=cD.size;clear aK cD OC ki aQ;generalize dk k=acc at *;go_wp2_with (at_builtin;refine bM rfl _ _ 44 rfl w1.heap.size i0 (.int .i64 0) 8 zu44 eP cY dw dz rfl (by decide) (by decide) _ _ rfl (ae nB) w2.heap.size X rfl (ae jK) rfl (uG _) (by omega) (by simp;omega) ?_)
     intro v9 w9 aZ mr
     try rw [<- ae HE] at aZ
     have pS:=af aZ;have jI:=af ((ae cT).trans mr);obtain⟨a9,m9,c9,rfl⟩:=aZ.shape;clear aZ mr nB cT jK;go_wp2;go_roundw
     case rel=>exact⟨k+1,by omega,by rw [ae HIN],ae pS,ae jI⟩
     case measure=>simp [intOf];omega
  ·obtain rfl:k=40:=by omega
   have HO:=af (az.Sd (ae aL).size);have br:=zTr aL ao;clear az ao;go_wp2;go_ret;exact⟨_,rfl,ae HO,ae br⟩
end
end
theorem zav{L:List Int}(hf:aB L)(k:Nat):iE L (BH L ((jO L 40).take k)) ((jO L 40).take k):=by obtain⟨h1,h2⟩:=Gs hf;have hn:((jO L 40).take k).Nodup:=h1.sublist (List.take_sublist _ _);have:=zA hf ((jO L 40).take k) [] (by simpa using hn) (by simpa using fun h hm=>h2 h (List.mem_of_mem_take hm)) L (iE.refl hf);simpa using this
theorem zaw{L:List Int}(hf:aB L){k:Nat}{x:Int}(hx:(jO L 40)[k]?=some x):Eg (BH L ((jO L 40).take k)) x=0/\J1 (BH L ((jO L 40).take k)) x=BH L ((jO L 40).take (k+1)):=by
 obtain⟨h1,h2⟩:=Gs hf;obtain⟨a1,a2⟩:=h2 x (List.mem_of_getElem? hx);have hni:x ∉ (jO L 40).take k:=fun hm=>by obtain⟨j,hj,e⟩:=List.getElem_of_mem hm;rw [zLt] at hj;rw [List.getElem_take] at e;obtain⟨hk,e2⟩:=zLs hx;have:=List.pairwise_iff_getElem.1 h1 j k (by omega) hk (by omega);exact this (e.trans e2.symm)
 obtain⟨_,b2,_⟩:=(zav hf k).more a1 hni a2;refine⟨b2,?_⟩;unfold J1;rw [if_pos b2];unfold BH;rw [List.take_add_one,hx,List.foldl_append];rfl
section
variable {w:World} {B p g c:Nat} {L:List Int}
theorem xL(h:Hp w B p g c L)(hB:B<=w.heap.size) :
  Calls Tryz.prog 33 #[.pointer (some ⟨p,0,none⟩)] w fun e w'=>e=.returned (.tuple #[.int .i64 (jO L 40).length,.nilIface])/\∃ g' c',Hp w' B p g' c' (BH L (jO L 40))/\aE (bA p g) (bA p g') w w':=by
 have HD:=af (L3 h);have K5:=Qe L 40;have qh:=af (fun k x hx=>zaw h.aV (k:=k) (x:=x) hx);have HFR:=af (fun(W:World) (g' c':Nat) (M:List Int) (x:Int) (hh:Hp W B p g' c' M) (hW:B<=W.heap.size)=>Ed p g' c' B M x W hh hW);have HH:=af h;have HFT:Hid (∀ k,bA p g k->k<w.heap.size):=af (fun k hk=>by
  rcases hk with rfl | rfl
  ·exact h.BJ
  ·exact h.Yk)
 have H0:Hid (BH L ((jO L 40).take 0)=L):=af rfl;clear h;generalize jO L 40=D at *;go_enter Tryz.func33,Tryz.ntmps33
 go_wp2_with fail
 refine(ae HD).mono ?_;rintro e w1 ⟨v1,rfl,kU,ay⟩;have KW:=af (fun k (hk:v1.ownBlock=some k)=>kU.block k hk);obtain⟨a1,c1,rfl,dL⟩:=kU.kk iG (by omega);have mB:=af dL;have HH1:=af ((ae HH).below ay);have aL:=af ay;have mH:=dL.2.2.1;have nF:=ay.size;clear kU dL ay HD HH;go_wp2_with fail
 go_loopw [6,7,12] (fun _ _ iv wr=>∃ (k g' c':Nat),k<=D.length/\iv=.int .i64 (k:Int)/\Hp wr B p g' c' (BH L (D.take k))/\aE (bA p g) (bA p g') w1 wr) (fun _ _ iv _=>D.length-(intOf iv).toNat)
 case atStart=>exact⟨0,g,c,Nat.zero_le _,rfl,by rw [ae H0];exact ae HH1,aE.refl _ _⟩
 case round =>
  obtain⟨k,g',c',hk,rfl,hh,j5⟩:=hrel;by_cases aM:k<D.length
  ·have aO:D≠[]:=by intro e;rw [e] at aM;simp at aM
   obtain⟨b1,o1,rfl,dR⟩:=(ae mB).2.2.2 aO;obtain⟨x,hx⟩:∃ x,D[k]?=some x:=⟨D[k],zLg aM⟩;have q0:=fG.num (cap:=0) dR hx;have hnb:¬ bA p g b1:=fun hf=>by have h1:=ae HFT b1 hf;have h2:=ae KW b1 rfl;omega
   have q1:wr.cell? ⟨b1,o1+k,none⟩=some (.int .i64 x):=(World.cell?_of_block (a:=⟨b1,o1+k,none⟩) (j5.block b1 (block_lt_of_cell q0) hnb)).trans q0;obtain⟨s1,s2⟩:=ae qh k x hx;have HF:=af (ae HFR wr g' c' _ x hh (by have:=j5.size;omega));rw [s1,s2,aA] at HF;have HT:=af j5;clear dR hx q0 hnb aO s1 s2 hh j5;go_wp2_with fail
   refine(ae HF).mono ?_;rintro e w2 ⟨rfl,g2,c2,JM,iu⟩;have HH2:=af JM;have BA:=af ((ae HT).trans iu);clear JM iu HF HT q1;go_wp2;go_roundw
   case rel=>exact⟨k+1,g2,c2,by omega,by go_num,ae HH2,ae BA⟩
   case measure=>simp [intOf];omega
  ·have hkD:k=D.length:=by omega
   rw [hkD,List.take_length] at hh;have HH2:=af hh;have BA:=af ((aE.aW (S:=bA p g) (ae aL)).trans j5);have tJ:¬ ((k:Int)<(D.length:Int)):=by omega
   clear hh j5 hkD hk aM;go_wp2;go_ret2
   first
    | exact⟨rfl,g',c',ae HH2,ae BA⟩
    | exact⟨rfl,g',⟨c',ae HH2⟩,ae BA⟩
end
end Go.Proofs.YtcimhnnendlblaaGreat
