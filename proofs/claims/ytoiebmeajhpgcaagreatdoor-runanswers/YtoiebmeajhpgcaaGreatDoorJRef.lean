import Derived.Test.YtoiebmeajhpgcaaGreatDoorJNum
import Derived.LaidEql
import Derived.Stop.Asserts
import Derived.RowKitTokens
set_option maxRecDepth 100000
set_option maxHeartbeats 16000000
set_option linter.all false
namespace Go.Proofs.YtoiebmeajhpgcaaGreatDoor
open Tryz
open Go.RowKit
section
open Go.Extern.Stop
open Go.Stop
open Go.Extern
theorem NF t w:(ReflectliteValue.unpack (.iface 108 (.pointer (some t)))).run prog w
  = .ok (.agg #[.pointer (some ⟨10,108,none⟩),.pointer (some (zp w.heap.size)),.int .u64 150]) (w.alloc (.cells #[.pointer (some t)] 108)):=SQ
theorem zbT a w:(ReflectliteValue.methodAny (ReflectliteValue.valueError "reflectlite.Value.Type" 0) (fun t _ _ _=>ReflectliteType.toType t) #[.agg #[.pointer (some ⟨10,108,none⟩),.pointer (some a),.int .u64 150]]).run prog w
  = .ok (.iface 218 (.agg #[.pointer (some ⟨10,108,none⟩)])) w:=SQ
theorem GO h w:(Go.method 580 218 (.agg #[h]) "Kind").run prog w=.ok (382,h) w:=SQ
theorem zbV w:((ReflectliteType.abiMethod fun t=>Functor.map (fun a:Nat=>Value.int IntKind.u8 (a:Int)) (Rtype.kind t)) #[.pointer (some ⟨10,108,none⟩)]).run prog w=.ok (.int .u8 22) w:=SQ
theorem zbW w:((ReflectliteType.abiMethod fun t=>Functor.map (fun a:Nat=>Value.int IntKind.u8 (a:Int)) (Rtype.kind t)) #[.pointer (some ⟨10,105,none⟩)]).run prog w=.ok (.int .u8 2) w:=SQ
theorem zbU(motive:Array Value->Sort 1) v(h1:(v:Value)->motive #[v])(h2:(x:Array Value)->motive x):ReflectliteValue.method.match_2 motive #[v] h1 h2=h1 v:=rfl
theorem zjz(motive:Array Value->Sort 1) v x(h1:(v x:Value)->motive #[v,x])(h2:(x:Array Value)->motive x):ReflectliteValue.set.match_3 motive #[v,x] h1 h2=h1 v x:=rfl
theorem ID a w:(ReflectliteValue.parts (.agg #[.pointer (some ⟨10,108,none⟩),.pointer (some a),.int .u64 150])).run prog w=.ok (some (108,a,150)) w:=SQ
theorem X9 a p W(ha:W.cell? a=some (.pointer (some p))) :
  (ReflectliteValue.method (ReflectliteValue.valueError "reflectlite.Value.IsNil" 0) ReflectliteValue.isNil #[.agg #[.pointer (some ⟨10,108,none⟩),.pointer (some a),.int .u64 150]]).run prog W=.ok (.bool false) W:=by
 delta ReflectliteValue.method
 rw[zbU];simp only[Sem.run_bind,ID,Result.andThen];simp[ReflectliteValue.isNil,loadVar,isAgg,underlying,underlying108,ha,Result.andThen]
theorem GP h w:(Go.method 580 218 (.agg #[h]) "Elem").run prog w=.ok (392,.agg #[h]) w:=SQ
theorem xD h w:(Go.method 580 218 (.agg #[h]) "Implements").run prog w=.ok (393,.agg #[h]) w:=SQ
theorem uy h w:(Go.method 580 218 (.agg #[h]) "AssignableTo").run prog w=.ok (390,.agg #[h]) w:=SQ
theorem zbX w:(ReflectliteType.method ReflectliteType.elem #[.agg #[.pointer (some ⟨10,108,none⟩)]]).run prog w=.ok (.iface 218 (.agg #[.pointer (some ⟨10,105,none⟩)])) w:=SQ
theorem Eo w:(ReflectliteType.relation "Implements" ReflectliteType.implements_ #[.agg #[.pointer (some ⟨10,105,none⟩)],.iface 218 (.agg #[.pointer (some ⟨10,35,none⟩)])]).run prog w=.ok (.bool true) w:=SQ
theorem SG v w:(ReflectliteType.typeOf #[.iface 105 v]).run prog w=.ok (.iface 218 (.agg #[.pointer (some ⟨10,105,none⟩)])) w:=SQ
theorem Ep w:(ReflectliteType.relation "AssignableTo" ReflectliteType.assignableTo #[.agg #[.pointer (some ⟨10,105,none⟩)],.iface 218 (.agg #[.pointer (some ⟨10,105,none⟩)])]).run prog w=.ok (.bool true) w:=SQ
theorem NG k w:(ReflectliteValue.unpack (.iface 105 (zi k))).run prog w
  = .ok (.agg #[.pointer (some ⟨10,105,none⟩),.pointer (some (zp w.heap.size)),.int .u64 130]) (w.alloc (.cells #[zi k] 105)):=SQ
theorem SI w:(Rtype.elem? 108).run prog w=.ok (some 105) w:=SQ
theorem zjA p w:(ReflectliteValue.mk 105 p ReflectliteValue.flagAddr).run prog w=.ok (.agg #[.pointer (some ⟨10,105,none⟩),.pointer (some p),.int .u64 386]) w:=SQ
theorem Ya a p W(ha:W.cell? a=some (.pointer (some p))) :
  (ReflectliteValue.method (ReflectliteValue.valueError "reflectlite.Value.Elem" 0) ReflectliteValue.elem #[.agg #[.pointer (some ⟨10,108,none⟩),.pointer (some a),.int .u64 150]]).run prog W
   = .ok (.agg #[.pointer (some ⟨10,105,none⟩),.pointer (some p),.int .u64 386]) W:=by
 delta ReflectliteValue.method
 rw[zbU];simp only[Sem.run_bind,ID,Result.andThen];simp[ReflectliteValue.elem,loadVar,isAgg,underlying,underlying108,ha,Result.andThen,SI,zjA]
theorem SH a w:(ReflectliteValue.parts (.agg #[.pointer (some ⟨10,105,none⟩),.pointer (some a),.int .u64 386])).run prog w=.ok (some (105,a,386)) w:=SQ
theorem X7 a w:(ReflectliteValue.parts (.agg #[.pointer (some ⟨10,105,none⟩),.pointer (some a),.int .u64 130])).run prog w=.ok (some (105,a,130)) w:=SQ
theorem SJ w:(Rtype.directlyAssignable 105 105).run prog w=.ok true w:=SQ
theorem zgb ta b k IQ W(hb:W.cell? b=some (zi k))(ht:W.cell? ta=some IQ)(hf:W.frozen? ta=false) :
  (ReflectliteValue.set #[.agg #[.pointer (some ⟨10,105,none⟩),.pointer (some ta),.int .u64 386],.agg #[.pointer (some ⟨10,105,none⟩),.pointer (some b),.int .u64 130]]).run prog W
   = .ok (.tuple #[]) (W.setCell ta (zi k)):=by
 delta ReflectliteValue.set
 rw[zjz];simp only[Sem.run_bind,SH,X7,Result.andThen];simp[ReflectliteValue.flagAddr,loadVar,isAgg,underlying,underlying105,hb,Result.andThen,SJ,storeVar,Value.cells,storeCells,Addr.add];rw[run_store prog W ta _ _ Tq];simp[ht,hf]
def Q5(w:World):Prop:=w.cell? (zp 1)=some (.iface 218 (.agg #[.pointer (some ⟨10,35,none⟩)]))
theorem Q5.below{w w'}(h:Q5 w)(hb:zB w w'):Q5 w':=by unfold Q5;rw[hb.cell (qAA h)];exact h
theorem zeM k t IQ w(hg:w.cell? (zp 1)=some (.iface 218 (.agg #[.pointer (some ⟨10,35,none⟩)])))(ht0:w.cell? t=some IQ)(hf0:w.frozen? t=false) :
  zC 46 #[.iface 105 (zi k),.iface 108 (.pointer (some t))] w fun ev w'=>ev=.returned (.bool true)/\w'=((((w.alloc (.cells #[.pointer (some t)] 108)).alloc (.cells #[.pointer (some ⟨10,108,none⟩),.pointer (some (zp w.heap.size)),.int .u64 150] 164)).alloc (.cells #[.pointer (some ⟨10,108,none⟩),.pointer (some (zp w.heap.size)),.int .u64 150] 164)).alloc (.cells #[zi k] 105)).setCell t (zi k):=by
 have h6:=@run_callFunc_extern prog 78 _ (fun args=>ReflectliteValue.unpack (args.getD 0 (.tuple #[]))) func78 SQ SQ SQ SQ;have h7:=@run_callFunc_extern prog 79 _ (ReflectliteValue.methodAny (ReflectliteValue.valueError "reflectlite.Value.Type" 0) (fun t _ _ _=>ReflectliteType.toType t)) func79 SQ SQ SQ SQ
 have h8:=@run_callFunc_extern prog 80 _ (ReflectliteValue.method (ReflectliteValue.valueError "reflectlite.Value.IsNil" 0) ReflectliteValue.isNil) func80 SQ SQ SQ SQ
 have h27:=@run_callFunc_extern prog 382 _ (ReflectliteType.abiMethod fun t=>do pure (.int .u8 (<- Rtype.kind t))) func382 SQ SQ SQ SQ;have h37:=@run_callFunc_extern prog 392 _ (ReflectliteType.method ReflectliteType.elem) func392 SQ SQ SQ SQ;have h38:=@run_callFunc_extern prog 393 _ (ReflectliteType.relation "Implements" ReflectliteType.implements_) func393 SQ SQ SQ SQ
 have vR:=@run_callFunc_extern prog 76 _ ReflectliteType.typeOf func76 SQ SQ SQ SQ;have h35:=@run_callFunc_extern prog 390 _ (ReflectliteType.relation "AssignableTo" ReflectliteType.assignableTo) func390 SQ SQ SQ SQ
 have BQ:=@run_callFunc_extern prog 121 _ (ReflectliteValue.method (ReflectliteValue.valueError "reflectlite.Value.Elem" 0) ReflectliteValue.elem) func121 SQ SQ SQ SQ
 have Fs:=@run_callFunc_extern prog 122 _ ReflectliteValue.set func122 SQ SQ SQ SQ;have tO:=SG;have mA:=uy;have a25:=Ep;have v25:=NG;have f6:=NF;have f7:=zbT;have mK:=GO;have mE:=GP;have mI:=xD;have k27:=zbV;have k25:=zbW;have e27:=zbX;have i25:=Eo;have n8:=X9 (zp w.heap.size) t ((w.alloc (.cells #[.pointer (some t)] 108)).alloc (.cells #[.pointer (some ⟨10,108,none⟩),.pointer (some (zp w.heap.size)),.int .u64 150] 164)) Sk;have aB:=qAA hg;have um:((w.alloc (.cells #[.pointer (some t)] 108)).alloc (.cells #[.pointer (some ⟨10,108,none⟩),.pointer (some (zp w.heap.size)),.int .u64 150] 164)).cell? (zp 1)=some (.iface 218 (.agg #[.pointer (some ⟨10,35,none⟩)])):=by rw[qBQ _ _ (zp 1) (by simp;try omega),qBQ _ _ (zp 1) aB];exact hg
 have htl:=qAA ht0;have el:=Ya (zp w.heap.size) t (((w.alloc (.cells #[.pointer (some t)] 108)).alloc (.cells #[.pointer (some ⟨10,108,none⟩),.pointer (some (zp w.heap.size)),.int .u64 150] 164)).alloc (.cells #[.pointer (some ⟨10,108,none⟩),.pointer (some (zp w.heap.size)),.int .u64 150] 164)) (by rw[qBQ _ _ (zp w.heap.size) Tb];simp);have st:=zgb t ⟨w.heap.size+1+1+1,0,none⟩ k IQ ((((w.alloc (.cells #[.pointer (some t)] 108)).alloc (.cells #[.pointer (some ⟨10,108,none⟩),.pointer (some (zp w.heap.size)),.int .u64 150] 164)).alloc (.cells #[.pointer (some ⟨10,108,none⟩),.pointer (some (zp w.heap.size)),.int .u64 150] 164)).alloc (.cells #[zi k] 105))
  (by rw[World.cell?_alloc_at _ _ _ _ Sk];rfl)
  (by rw[qBQ _ _ t Tb,qBQ _ _ t Tb,qBQ _ _ t Tb,qBQ _ _ t htl];exact ht0)
  (by rw[World.frozen?_alloc_old _ _ t Tb,World.frozen?_alloc_old _ _ t Tb,World.frozen?_alloc_old _ _ t Tb,World.frozen?_alloc_old _ _ t (Nat.ne_of_lt htl)];exact hf0)
 go_enter func46,ntmps46
 go_wp2;refine wp_loop_rounds 1 ?_;rw[qBh];exact Tt
end
theorem Tm(l:LI) j(h:j<l.length):numOf (l.drop j)=l.getD j 0+256*numOf (l.drop (j+1)):=by rw[qBf h];simp[numOf,List.getD,h]
theorem GU l(hb:bZ l)(h4:l.length<=4) j:0<=numOf (l.drop j)/\numOf (l.drop j)<=4294967295:=by
 have h:=Ox (l.drop j) (fun z hz=>hb z (qBF hz));have h2:(256:Int) ^ (l.drop j).length<=4294967296:=by have h3:(l.drop j).length<=4:=Tb;rcases (show(l.drop j).length=0\/(l.drop j).length=1\/(l.drop j).length=2\/(l.drop j).length=3\/(l.drop j).length=4 from Sg)with e|e|e|e|e <;> rw[e] <;> decide
 omega
theorem Dn a cap l w(aH:Bs w a cap l)(h4:l.length<=4) :
  zC 107 #[.slice a l.length cap] w fun e w'=>e=.returned (zi (numOf l))/\w=w':=by
 go_enter func107,ntmps107
 go_wp2
 go_loop [3,4] (fun n i=>∃j:Nat,j<=l.length/\i=zi ((j:Int)-1)/\n=zi (numOf (l.drop j))) (fun _ i=>(intOf i+1).toNat)
 case atStart=>exact⟨l.length,zNr,rfl,by simp[numOf]⟩
 case round =>
  obtain⟨j,hj,rfl,rfl⟩:=hrel;by_cases h0:1<=j
  ·obtain⟨i,rfl⟩:∃i,j=i+1:=⟨j-1,Sg⟩;obtain⟨b,off,rfl,hc⟩:=aH.2.2.2.2 (by intro h;subst h;simp at hj);have hx:=hc i Sg;have hy:=aH.1.getD i;have hd:=Tm l i Sg;have iT:=GU l aH.1 h4 (i+1);have hji:((i+1:Nat):Int)-1=(i:Int):=by omega
   rw[hji];have HD:=ae hd;generalize l.getD i 0=c,numOf (l.drop (i+1))=n at*;go_wp2
   go_round
   case rel=>exact⟨i,Sg,rfl,by rw[aa HD];go_num⟩
   case measure=>simp[intOf]
  ·obtain rfl:j=0:=by omega
   exact Tt
theorem pE k(h:k<=4):(1:Int)<=256 ^ k/\(256:Int) ^ k<=4294967296:=by rcases (show k=0\/k=1\/k=2\/k=3\/k=4 from Sg)with rfl|rfl|rfl|rfl|rfl <;> decide
theorem zcJ(s:Nat)(h1:1<=s)(h2:s<=4):oW s+1=(256:Int) ^ s:=by rcases (show s=1\/s=2\/s=3\/s=4 from Sg)with rfl|rfl|rfl|rfl <;> decide
theorem Yg a len cap p n s w(h:¬(1<=s/\s<=4)) :
  zC 109 #[.slice a len cap,zi p,zi n,zi s] w fun e w'=>e=zt #[.slice none 0 0,zi 1]/\w=w':=by
 by_cases h1:1<=s
 ·have h2:¬s<=4:=by omega
  exact QD
 ·exact QD
theorem zb6 a cap l p n(S:Nat) w(aH:Bs w a cap l)(h1:1<=S)(h2:S<=4)(hp:-9223372036854775808<=p/\p<=9223372036854775807)(hn:n<0) :
  zC 109 #[.slice a l.length cap,zi p,zi n,zi S] w fun e w'=>e=zt #[.slice none 0 0,zi 1]/\w=w':=by
 exact cY
theorem Yh a cap l p n(S:Nat) w(aH:Bs w a cap l)(h1:1<=S)(h2:S<=4)(hp:-9223372036854775808<=p/\p<=9223372036854775807)(hn:¬n<0)(hm:(256:Int) ^ S<=n) :
  zC 109 #[.slice a l.length cap,zi p,zi n,zi S] w fun e w'=>e=zt #[.slice none 0 0,zi 1]/\w=w':=by
 exact cY
theorem zgi a cap l p n(S:Nat) w(aH:Bs w a cap l)(h1:1<=S)(h2:S<=4)(hp:-9223372036854775808<=p/\p<=9223372036854775807)(hn:¬n<0)(hm:n<(256:Int) ^ S)(hq:p<0) :
  zC 109 #[.slice a l.length cap,zi p,zi n,zi S] w fun e w'=>e=zt #[.slice none 0 0,zi 3]/\w=w':=by
 exact cY
theorem zgj a cap l p n(S:Nat) w(aH:Bs w a cap l)(h1:1<=S)(h2:S<=4)(hp:-9223372036854775808<=p/\p<=9223372036854775807)(hn:¬n<0)(hm:n<(256:Int) ^ S)(hq:0<=p)(qT:(l.length:Int)<p) :
  zC 109 #[.slice a l.length cap,zi p,zi n,zi S] w fun e w'=>e=zt #[.slice none 0 0,zi 3]/\w=w':=by
 exact cY
theorem zb7 a cap l(p n:Int)(S:Nat) w(aH:Bs w a cap l)(h1:1<=S)(h2:S<=4)(hp:-9223372036854775808<=p/\p<=9223372036854775807)(hn:¬n<0)(hm:n<(256:Int) ^ S)(hq:0<=p)(qT:p<=l.length)(hq3:(l.length:Int)-p<S) :
  zC 109 #[.slice a l.length cap,zi p,zi n,zi S] w fun e w'=>e=zt #[.slice none 0 0,zi 3]/\w=w':=by
 exact cY
theorem NX a cap l(p n:Int) S w(aH:Bs w a cap l)(h1:1<=S)(h2:S<=4)(hp:-9223372036854775808<=p/\p<=9223372036854775807)(P:Nat)(hP:p=P)(hn:¬n<0)(hm:n<(256:Int) ^ S)(hq:P+S<=l.length) :
  zC 109 #[.slice a l.length cap,zi p,zi n,zi S] w fun e w'=>∃g c,e=zt #[.slice (zo g) l.length c,zi 0]/\Own w' w.heap.size g c (putK l P n S)/\zB w w':=by
 have hl:=aH.2.2.1;subst hP;obtain⟨i0,hi,cO,cU,cV⟩:=qAO dw;have aG:l≠[]:=by intro h;subst h;simp at hq;omega
 go_enter func109,ntmps109
 go_wp2
 go_loop [10,11] (fun m i=>∃k:Nat,k<=S/\i=zi k/\m=zi (256 ^ k)) (fun _ i=>S-(intOf i).toNat)
 case atStart=>exact zlY
 case round =>
  obtain⟨k,hk,rfl,rfl⟩:=hrel;have iT:=pE k Sg;by_cases aB:k<S
  ·have HS:Hid ((256:Int) ^ (k+1)=256 ^ k*256):=ae (qCn 256 k);generalize (256:Int) ^ k=y at*;go_wp2
   go_round
   case rel=>exact⟨k+1,Sg,Tc,by rw[aa HS]⟩
   case measure=>exact Te
  ·obtain rfl:k=S:=by omega
   generalize (256:Int) ^ k=y at*;go_wp2_with (at_builtin;refine lL rfl _ _ 29 rfl i0 underlying29 hi cO cU cV a cap l rfl rfl aH aG ?_;intro g c w1 az ay)
   go_loopw [2,13] (fun nv i wr=>∃j:Nat,j<=k/\i=zi j/\nv=zi (n / 2 ^ (8*j))/\Own wr w.heap.size g c (putK l P n j)/\zB w wr) (fun _ i _=>k-(intOf i).toNat)
   case atStart=>exact⟨0,Sg,rfl,Sk,az,ay⟩
   case round =>
    obtain⟨j,hj,rfl,rfl,fL,aK⟩:=hrel;by_cases hjk:j<k
    ·have AT:0<=n / 2 ^ (8*j):=Int.ediv_nonneg Sg (Int.le_of_lt (Int.pow_pos Si));have CX:n / 2 ^ (8*j)<=n:=Int.ediv_le_self _ Sg;have HQ:Hid (n / 2 ^ (8*(j+1))=n / 2 ^ (8*j) / 256):=by rw[Int.ediv_ediv_of_nonneg (Int.le_of_lt (Int.pow_pos Si)),show 8*(j+1)=8*j+8 from Sg,Int.pow_add];rfl
     have HPK:Hid (putK l P n (j+1)=(putK l P n j).set (P+j) (n / 2 ^ (8*j)%256)):=ae rfl;have oI:=fL.frozen (P+j);have kS:=fL.cell (P+j) (by rw[cg];omega);have HO:=ae fL;clear fL az;generalize n / 2 ^ (8*j)=m at*;go_wp2;go_roundw
     case rel=>exact⟨j+1,Sg,Tc,by rw[aa HQ],by rw[aa HPK];exact HO.set (P+j) _,aK.setCell (qAF zNr HO.base) _⟩
     case measure=>exact Te
    ·obtain rfl:j=k:=by omega
     go_wp2;go_ret2;exact⟨g,c,rfl,fL,aK⟩
theorem sy(s:BA)(h:s.size=0):s.toList.isEmpty=true:=by have he:s=ByteArray.empty:=TH;have:=Classical.propDecidable (s=ByteArray.empty);rw[<-decide_eq_emptyBytes];exact qAE he
theorem qk(s:BA)(h:1<=s.size):s.toList.isEmpty=false:=by have:=Classical.propDecidable (s=ByteArray.empty);rw[<-decide_eq_emptyBytes];refine qAG ?_;intro he;rw[he]at h;simp at h
theorem Yn s w(hs:s.size<=140737488351232)(h:¬(1<=s.size/\s.size<=8)) :
  zC 31 #[.string s] w fun e w'=>e=.returned (.bool false)/\w=w':=by
 by_cases h1:1<=s.size
 ·have h2:¬s.size<=8:=by omega
  have he:=qk s h1;go_enter func31,ntmps31
  exact Tt
 ·have he:=sy s Sg;go_enter func31,ntmps31
  exact Tt
theorem K9 c(h:nR c=true):97<=c/\c<=122:=by simpa[nR]using h
theorem zj6 c(h:nR c=false):c<97\/122<c:=by
 by_cases h1:97<=c
 ·by_cases h2:c<=122
  ·simp[nR,h1,h2]at h
  ·omega
 ·omega
theorem Bo s w(h:iW s) :
  zC 31 #[.string s] w fun e w'=>e=.returned (.bool true)/\w=w':=by
 obtain⟨h1,h2,h3⟩:=h;have he:=qk s h1;have HA:=ae h3.2.1;go_enter func31,ntmps31
 go_wp2
 go_loop [3] (fun i=>∃k:Nat,k<=s.size/\i=zi k) (fun i=>s.size-(intOf i).toNat)
 case atStart=>exact Y0
 case round =>
  obtain⟨k,hk,rfl⟩:=hrel;by_cases aB:k<s.size
  ·have kF:=HA k aB;rw[iu s k aB]at kF;have fR:=K9 _ zgy;exact vV
  ·exact Tt
theorem zcb s w(h1:1<=s.size)(h2:s.size<=8) i(hi:cd (fun j=>(!nR ((c7 s).getD j 0))) s.size i)(aB:i<s.size) :
  zC 31 #[.string s] w fun e w'=>e=.returned (.bool false)/\w=w':=by
 have he:=qk s h1;have HA:=ae hi.2.1;have HB:=ae (hi.2.2 aB);go_enter func31,ntmps31
 go_wp2
 go_loop [3] (fun j=>∃k:Nat,k<=i/\j=zi k) (fun j=>i-(intOf j).toNat)
 case atStart=>exact Y0
 case round =>
  obtain⟨k,hk,rfl⟩:=hrel;have hks:k<s.size:=Sg;by_cases Pw:k<i
  ·have kF:=HA k Pw;rw[iu s k hks]at kF;have fR:=K9 _ zgy;exact vV
  ·obtain rfl:k=i:=by omega
   have kF:=aa HB;rw[iu s k hks]at kF;have fR:=zj6 _ zgy;rcases fR with fR|fR
   ·exact Tt
   ·have Af:¬((s[k].toNat:Int)<97):=by omega
    exact Tt
theorem yw s w(hs:s.size<=140737488351232)(h:¬iW s) :
  zC 31 #[.string s] w fun e w'=>e=.returned (.bool false)/\w=w':=by
 by_cases h1:1<=s.size/\s.size<=8
 ·have hf:=bS (fun j=>(!nR ((c7 s).getD j 0))) s.size;by_cases h2:tU (fun j=>(!nR ((c7 s).getD j 0))) s.size<s.size
  ·exact zcb s w h1.1 h1.2 _ hf h2
  ·exact KO
 ·exact Yn s w hs h1
theorem Yf a len cap w(hl:len<=140737488351232)(h:¬len=8) :
  zC 110 #[.slice a len cap] w fun e w'=>e=zt #[.string ByteArray.empty,zi 3]/\w=w':=by
 have aG:((len:Int) != 8)=true:=Tb;go_enter func110,ntmps110
 exact zkc
theorem mW(l:LI) n j:(l.drop n).getD j 0=l.getD (n+j) 0:=UU
theorem SY b off cap(l:LI) w(h8:l.length=8)(hc:∀i,i<l.length->w.cell? ⟨b,off+i,none⟩=some (.int .u8 (l.getD i 0))) n m(hn:cd (fun j=>(l.getD j 0 == 0)) 8 n)(hm:cd (fun j=>((l.drop n).getD j 0 != 0)) (8-n) m)(aB:m<8-n) :
  zC 110 #[.slice (some ⟨b,off,none⟩) l.length cap] w fun e w'=>e=zt #[.string ByteArray.empty,zi 2]/\w=w':=by
 have mS:((l.length:Int) != 8)=false:=Tb;have hle:8<=l.length:=Sg;have BI:=hn.1;have HC:=ae hc;have HN:=ae hn;have HM:=ae hm;go_enter func110,ntmps110
 go_wp2
 go_loop [4] (fun i=>∃k:Nat,k<=n/\i=zi k) (fun i=>n-(intOf i).toNat)
 case atStart=>exact Y0
 case round =>
  obtain⟨k,hk,rfl⟩:=hrel;by_cases hkn:k<n
  ·have hx:=HC k Sg;have hz:=HN.2.1 k hkn;have cV:(l.getD k 0 != 0)=true:=by simpa[bne]using hz
   generalize l.getD k 0=c at*;exact vV
  ·obtain rfl:k=n:=by omega
   have hx:=HC k Sg;have hz:=HN.2.2 Sg;have cV:(l.getD k 0 != 0)=false:=by simpa[bne]using hz
   generalize Jr:l.getD k 0=c at*;go_wp2_with fail
   go_loop [5] (fun i=>∃j:Nat,j<=m/\i=zi ((k+j:Nat):Int)) (fun i=>k+m-(intOf i).toNat)
   case atStart=>exact Y0
   case round =>
    obtain⟨j,hj,rfl⟩:=hrel;have mh:=HC (k+j) Sg;by_cases hjm:j<m
    ·have hy:=HM.2.1 j hjm;have hy2:(l.getD (k+j) 0 != 0)=false:=by rw[<-mW];exact hy
     exact LS
    ·obtain rfl:j=m:=by omega
     have hy:=HM.2.2 aB;have hy2:(l.getD (k+j) 0 != 0)=true:=by rw[<-mW];exact hy
     generalize l.getD (k+j) 0=d at*;exact zkc
theorem Ew b off cap l w(aH:Bs w (some ⟨b,off,none⟩) cap l)(h8:l.length=8)(hc:∀i,i<l.length->w.cell? ⟨b,off+i,none⟩=some (.int .u8 (l.getD i 0))) n m(hn:cd (fun j=>(l.getD j 0 == 0)) 8 n)(hm:cd (fun j=>((l.drop n).getD j 0 != 0)) (8-n) m)(mi:8-n<=m) v(hv:∀w',zC 31 #[.string (strOf (l.take n))] w' fun e w2=>e=.returned (.bool v)/\w'=w2) :
  zC 110 #[.slice (some ⟨b,off,none⟩) l.length cap] w fun e w'=>e=.returned (if v then .tuple #[.string (strOf (l.take n)),zi 0]else .tuple #[.string ByteArray.empty,zi 2])/\w=w':=by
 have mS:((l.length:Int) != 8)=false:=Tb;have hle:8<=l.length:=Sg;have BI:=hn.1;have hm8:=hm.1;obtain⟨a3,hsh,nV⟩:=jK underlying29 aT aH n Sg;have hcv:=jX (P:=prog) (t:=29) (e:=9) underlying29 underlying5 underlying9 nV;rw[show(l.take n).length=n from Tb]at hcv;have HV:=ae hv;have HC:=ae hc;clear hv aH nV;have HN:=ae hn;have HM:=ae hm;clear h8 hc hn hm;go_enter func110,ntmps110
 go_wp2
 go_loop [4] (fun i=>∃k:Nat,k<=n/\i=zi k) (fun i=>n-(intOf i).toNat)
 case atStart=>exact Y0
 case round =>
  obtain⟨k,hk,rfl⟩:=hrel;by_cases hkn:k<n
  ·have hx:=HC k Sg;have hz:=HN.2.1 k hkn;have cV:(l.getD k 0 != 0)=true:=by simpa[bne]using hz
   clear hz;generalize l.getD k 0=c at*;exact vV
  ·obtain rfl:k=n:=by omega
   by_cases hk8:k<8
   ·have hx:=HC k Sg;have hz:=HN.2.2 Sg;have cV:(l.getD k 0 != 0)=false:=by simpa[bne]using hz
    clear hz;generalize Jr:l.getD k 0=c at*;clear Jr;go_wp2_with fail
    go_loop [5] (fun i=>∃j:Nat,j<=m/\i=zi ((k+j:Nat):Int)) (fun i=>k+m-(intOf i).toNat)
    case atStart=>exact Y0
    case round =>
     obtain⟨j,hj,rfl⟩:=hrel;by_cases hjm:j<m
     ·have mh:=HC (k+j) Sg;have hy:=HM.2.1 j hjm;have hy2:(l.getD (k+j) 0 != 0)=false:=by rw[<-mW];exact hy
      clear hy;exact LS
     ·exact It
   ·go_wp2_with fail
    go_loop [5] (fun i=>∃j:Nat,j<=m/\i=zi ((k+j:Nat):Int)) (fun i=>k+m-(intOf i).toNat)
    case atStart=>exact Y0
    case round =>
     obtain⟨j,hj,rfl⟩:=hrel;by_cases hjm:j<m
     ·exact absurd hjm Sg
     ·exact It
def dZ(l:LI)(p n s:Int):LI×Int :=if ¬(1<=s/\s<=4)\/n<0\/oW s<n then ([],1)else if ¬(0<=p/\p<=l.length-s)then ([],3)else (putK l p.toNat n s.toNat,0)
theorem vx a cap l p n s w(aH:Bs w a cap l)(hp:-9223372036854775808<=p/\p<=9223372036854775807) :
  zC 109 #[.slice a l.length cap,zi p,zi n,zi s] w (Ends w (dZ l p n s).1 (zi (dZ l p n s).2)):=by
 have hl:=aH.2.2.1;by_cases h1:1<=s/\s<=4
 ·obtain⟨S,rfl⟩:=qAN (show 0<=s from Sg);have hS1:1<=S:=by omega
  have hS4:S<=4:=Sg;have Rl:=zcJ S hS1 hS4;by_cases h2:n<0
  ·have e:dZ l p n S=([],1):=by unfold dZ;rw[zy (Or.inr (Or.inl h2))]
   rw[e];exact(zb6 a cap l p n S w aH hS1 hS4 hp h2).mono fun e w' ⟨he,hw⟩=>gi he hw
  ·by_cases h3:oW S<n
   ·have e:dZ l p n S=([],1):=by unfold dZ;rw[zy (Or.inr (Or.inr h3))]
    rw[e];exact(Yh a cap l p n S w aH hS1 hS4 hp h2 Sg).mono fun e w' ⟨he,hw⟩=>gi he hw
   ·have ig:¬(¬(1<=(S:Int)/\(S:Int)<=4)\/n<0\/oW S<n):=fun h=>h.elim (fun h=>h h1) (fun h=>h.elim h2 h3)
    by_cases h4:0<=p/\p<=l.length-S
    ·have e:dZ l p n S=(putK l p.toNat n S,0):=by unfold dZ;rw[zn ig,zn (fun h=>h h4),zTn]
     rw[e];obtain⟨P,rfl⟩:=qAN h4.1;rw[zTn];refine(NX a cap l P n S w aH hS1 hS4 hp P rfl h2 Sg Sg).mono fun e w' ⟨g,c,he,az,hb⟩=>?_
     have hlen:=cg l P n S;exact⟨some (zp g),c,by rw[hlen];exact he,az.bs (sE aH.1 P n S) (by rw[hlen];exact hl),hb⟩
    ·have e:dZ l p n S=([],3):=by unfold dZ;rw[zn ig,zy h4]
     rw[e];by_cases h5:0<=p
     ·by_cases h6:(l.length:Int)<p
      ·exact(zgj a cap l p n S w aH hS1 hS4 hp h2 Sg h5 h6).mono fun e w' ⟨he,hw⟩=>gi he hw
      ·exact(zb7 a cap l p n S w aH hS1 hS4 hp h2 Sg h5 Sg Sg).mono fun e w' ⟨he,hw⟩=>gi he hw
     ·exact(zgi a cap l p n S w aH hS1 hS4 hp h2 Sg Sg).mono fun e w' ⟨he,hw⟩=>gi he hw
 ·have e:dZ l p n s=([],1):=by unfold dZ;rw[zy (Or.inl h1)]
  rw[e];exact(Yg a l.length cap p n s w h1).mono fun e w' ⟨he,hw⟩=>gi he hw
theorem iI s w(hs:s.size<=140737488351232) L x(h:(iW s/\L=bH s/\x=0)\/(¬iW s/\L=[]/\x=2)) :
  zC 139 #[.string s] w (Ends w L (bc x)):=by
 rcases h with ⟨hn,rfl,rfl⟩|⟨hn,rfl,rfl⟩
 ·refine(Ci s w hn.1 hn.2.1 hn.2.2).mono fun e w' ⟨g,he,hg,hk,hb⟩=>?_
  have hlen:=cE s hn.2.1;exact⟨some (zp g),(bH s).length,by rw[hlen];exact he,hk.bs (xy s) (by rw[hlen];decide),hb⟩
 ·exact(lS s w hs hn).mono fun e w' ⟨he,hb⟩=>⟨none,0,he,eu _,hb⟩
def aW(l:LI):Nat:=tU (fun j=>(!nR (l.getD j 0))) l.length
def iL(l:LI)(i:Nat):Nat:=tU (fun j=>((l.drop i).getD j 0 != 0)) (l.drop i).length
def bI(l:LI):BA×Int :=if ¬l.length=8 then (ByteArray.empty,3)else if aW l=0\/iL l (aW l)<l.length-aW l then (ByteArray.empty,2)else (strOf (l.take (aW l)),0)
theorem Cy a cap l w(aH:Bs w a cap l) :
  zC 235 #[.slice a l.length cap] w fun e w'=>e=zt #[.string (bI l).1,bc (bI l).2]/\zB w w':=by
 have hl:=aH.2.2.1;by_cases h8:l.length=8
 ·have hi:=bS (fun j=>(!nR (l.getD j 0))) l.length;have hz:=bS (fun j=>((l.drop (aW l)).getD j 0 != 0)) (l.drop (aW l)).length;by_cases h0:aW l=0
  ·have e:bI l=(ByteArray.empty,2):=by unfold bI;rw[zn (fun h=>h h8),zy (Or.inl h0)]
   rw[e];exact LG a cap l w aH h8 (aW l) (iL l (aW l)) hi hz h0
  ·by_cases h1:iL l (aW l)<l.length-aW l
   ·have e:bI l=(ByteArray.empty,2):=by unfold bI;rw[zn (fun h=>h h8),zy (Or.inr h1)]
    rw[e];exact LJ a cap l w aH h8 (aW l) (iL l (aW l)) hi hz h0 h1
   ·have e:bI l=(strOf (l.take (aW l)),0):=by unfold bI;rw[zn (fun h=>h h8),zn (fun h=>h.elim h0 h1)]
    rw[e];exact Cx a cap l w aH h8 (aW l) (iL l (aW l)) hi hz h0 Sg
 ·have e:bI l=(ByteArray.empty,3):=by unfold bI;rw[zy h8]
  rw[e];exact PR a l.length cap w hl h8
theorem kI l:(strOf l).size=l.length:=by have h:=qBB List.length (mC l);simpa using h
theorem zgF l(hb:bZ l)(h8:l.length=8) n(hn:n<=8)(hz:∀j,j<8-n->(l.drop n).getD j 0=0):iW (strOf (l.take n)) ↔ (aW l=n/\¬n=0):=by
 have bW:(strOf (l.take n)).size=n:=by rw[kI];simp;omega
 have lE:c7 (strOf (l.take n))=l.take n:=iN _ (fun z hz=>hb z (qAj hz));have T6:∀j,j<n->(l.take n).getD j 0=l.getD j 0:=fun j hj=>zay
 have hnz:n<8->nR (l.getD n 0)=false:=fun h=>by have:=hz 0 Sg;rw[mW,qAq]at this;rw[this];rfl
 have T7:=bS (fun j=>(!nR (l.getD j 0))) l.length;constructor
 ·intro ⟨h1,h2,h3⟩;rw[bW]at h1 h2 h3;rw[lE]at h3;refine⟨T7.unique ⟨Sg,fun j hj=>?_,fun h=>?_⟩,Sg⟩
  ·have:=h3.2.1 j hj
   show(!nR (l.getD j 0))=false
   rw[<-T6 j hj];exact this
  ·show(!nR (l.getD n 0))=true
   rw[hnz Sg];rfl
 ·intro ⟨h1,h2⟩;unfold iW;rw[bW,lE];refine⟨Sg,hn,zNr,fun j hj=>?_,fun h=>absurd h (qBd _)⟩
  show(!nR ((l.take n).getD j 0))=false
  rw[T6 j hj];have h3:tU (fun j=>(!nR (l.getD j 0))) l.length=n:=h1;rw[h3]at T7;exact T7.2.1 j hj
theorem IH a cap l w(aH:Bs w a cap l) :
  zC 110 #[.slice a l.length cap] w fun e w'=>e=zt #[.string (bI l).1,zi (bI l).2]/\w=w':=by
 have hl:=aH.2.2.1;by_cases h8:l.length=8
 ·obtain⟨b,off,rfl,hc⟩:=aH.2.2.2.2 (by intro h;rw[h]at h8;simp at h8);have hn:=bS (fun j=>(l.getD j 0 == 0)) 8;generalize hN:tU (fun j=>(l.getD j 0 == 0)) 8=n at hn;have BI:=hn.1;have hm:=bS (fun j=>((l.drop n).getD j 0 != 0)) (8-n);generalize hM:tU (fun j=>((l.drop n).getD j 0 != 0)) (8-n)=m at hm;have hm8:=hm.1;have hi:=bS (fun j=>(!nR (l.getD j 0))) l.length;have Mv:∀i,(l.drop i).length=8-i:=fun i=>by simp[h8]
  by_cases aB:m<8-n
  ·have e:bI l=(ByteArray.empty,2):=by
    unfold bI;rw[zn (fun h=>h h8)];by_cases hq:aW l=0\/iL l (aW l)<l.length-aW l
    ·rw[zy hq]
    ·exfalso
     have h0:¬aW l=0:=fun h=>hq (Or.inl h)
     have h1:¬iL l (aW l)<l.length-aW l:=fun h=>hq (Or.inr h)
     have hzf:cd (fun j=>((l.drop (aW l)).getD j 0 != 0)) (l.drop (aW l)).length (iL l (aW l)):=bS _ _;have hle:aW l<=l.length:=hi.1
     -- the first zero is where the letters end
     have xU:aW l=n:=by exact pU
     rw[xU]at h1 hzf;have h4:((l.drop n).getD m 0 != 0)=true:=hm.2.2 aB;have h5:((l.drop n).getD m 0 != 0)=false:=hzf.2.1 m Sg;rw[h4]at h5;cases h5
   rw[e];exact SY b off cap l w h8 hc n m hn hm aB
  ·have hzero:∀j,j<8-n->(l.drop n).getD j 0=0:=fun j hj=>by have h2:((l.drop n).getD j 0 != 0)=false:=hm.2.1 j Sg;simpa using h2
   have uC:=zgF l aH.1 h8 n BI hzero;have bW:(strOf (l.take n)).size=n:=by rw[kI];simp;omega
   have hzn:iL l n=8-n:=by
    have hzf:cd (fun j=>((l.drop n).getD j 0 != 0)) (l.drop n).length (iL l n):=bS _ _;rw[Mv]at hzf;refine hzf.unique ⟨zNr,fun j hj=>?_,fun h=>absurd h (qBd _)⟩
    show((l.drop n).getD j 0 != 0)=false
    rw[hzero j hj];rfl
   by_cases jB:iW (strOf (l.take n))
   ·obtain⟨h1,h2⟩:=uC.1 jB;have e:bI l=(strOf (l.take n),0):=by unfold bI;rw[zn (fun h=>h h8),h1,zn (fun h=>h.elim h2 (fun h=>by rw[hzn]at h;omega))]
    rw[e];exact Ew b off cap l w aH h8 hc n m hn hm Sg true (fun w'=>Bo _ w' jB)
   ·have e:bI l=(ByteArray.empty,2):=by
     unfold bI;rw[zn (fun h=>h h8)];by_cases hq:aW l=0\/iL l (aW l)<l.length-aW l
     ·rw[zy hq]
     ·exfalso
      have h0:¬aW l=0:=fun h=>hq (Or.inl h)
      have h1:¬iL l (aW l)<l.length-aW l:=fun h=>hq (Or.inr h)
      have hzf:cd (fun j=>((l.drop (aW l)).getD j 0 != 0)) (l.drop (aW l)).length (iL l (aW l)):=bS _ _;have hle:aW l<=l.length:=hi.1;have xU:aW l=n:=by exact pU
      exact jB (uC.2 ⟨xU,Sg⟩)
    rw[e];exact Ew b off cap l w aH h8 hc n m hn hm Sg false (fun w'=>yw _ w' (by rw[bW];omega) jB)
 ·have e:bI l=(ByteArray.empty,3):=by unfold bI;rw[zy h8]
  rw[e];exact Yf a l.length cap w hl h8
