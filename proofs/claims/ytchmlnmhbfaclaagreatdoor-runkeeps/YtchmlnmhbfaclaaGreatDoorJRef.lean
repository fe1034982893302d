/-
  Parts of the proofs, joined by program.
-/
import Derived.Test.YtchmlnmhbfaclaaGreatDoorProg
import Derived.Test.YtchmlnmhbfaclaaGreatDoorJNum
import Derived.WalkKit
import Derived.LaidEql
import Derived.Stop.Asserts
import Derived.RowKitTokens
namespace Go.Proofs.YtchmlnmhbfaclaaGreatDoor
open Go.RowKit Go.Extern.Stop Go.Stop Go.Extern
set_option linter.unusedVariables false
theorem zli(t:Addr)(w:World):(ReflectliteValue.unpack (.iface 110 (.pointer (some t)))).run Tryz.prog w
  = .ok (.agg #[.pointer (some ⟨10,110,none⟩),.pointer (some ⟨w.heap.size,0,none⟩),.int .u64 150]) (w.alloc (.cells #[.pointer (some t)] 110)):=by kernel_rfl
theorem zuo(a:Addr)(w:World):(ReflectliteValue.methodAny (ReflectliteValue.valueError "reflectlite.Value.Type" 0) (fun t _ _ _=>ReflectliteType.toType t) #[.agg #[.pointer (some ⟨10,110,none⟩),.pointer (some a),.int .u64 150]]).run Tryz.prog w
  = .ok (.iface 220 (.agg #[.pointer (some ⟨10,110,none⟩)])) w:=by kernel_rfl
theorem zhM(h:Value)(w:World):(Go.method 582 220 (.agg #[h]) "Kind").run Tryz.prog w=.ok (384,h) w:=by kernel_rfl
theorem zup(w:World):((ReflectliteType.abiMethod fun t=>Functor.map (fun a:Nat=>Value.int IntKind.u8 (a:Int)) (Rtype.kind t)) #[.pointer (some ⟨10,110,none⟩)]).run Tryz.prog w=.ok (.int .u8 22) w:=by kernel_rfl
theorem zuq(w:World):((ReflectliteType.abiMethod fun t=>Functor.map (fun a:Nat=>Value.int IntKind.u8 (a:Int)) (Rtype.kind t)) #[.pointer (some ⟨10,107,none⟩)]).run Tryz.prog w=.ok (.int .u8 2) w:=by kernel_rfl
theorem zwC(motive:Array Value->Sort 1)(v:Value)(h1:(v:Value)->motive #[v])(h2:(x:Array Value)->motive x):ReflectliteValue.method.match_2 motive #[v] h1 h2=h1 v:=rfl
theorem zAo(motive:Array Value->Sort 1)(v x:Value)(h1:(v x:Value)->motive #[v,x])(h2:(x:Array Value)->motive x):ReflectliteValue.set.match_3 motive #[v,x] h1 h2=h1 v x:=rfl
theorem zjw(a:Addr)(w:World):(ReflectliteValue.parts (.agg #[.pointer (some ⟨10,110,none⟩),.pointer (some a),.int .u64 150])).run Tryz.prog w=.ok (some (110,a,150)) w:=by kernel_rfl
theorem zqW(a p:Addr)(W:World)(ha:W.cell? a=some (.pointer (some p))) :
  (ReflectliteValue.method (ReflectliteValue.valueError "reflectlite.Value.IsNil" 0) ReflectliteValue.isNil #[.agg #[.pointer (some ⟨10,110,none⟩),.pointer (some a),.int .u64 150]]).run Tryz.prog W=.ok (.bool false) W:=by
 delta ReflectliteValue.method
 rw [zwC]
 simp only [Sem.run_bind,zjw,Result.andThen]
 simp [ReflectliteValue.isNil,loadVar,isAgg,underlying,Tryz.underlying110,ha,Result.andThen]
theorem zhN(h:Value)(w:World):(Go.method 582 220 (.agg #[h]) "Elem").run Tryz.prog w=.ok (394,.agg #[h]) w:=by kernel_rfl
theorem zcX(h:Value)(w:World):(Go.method 582 220 (.agg #[h]) "Implements").run Tryz.prog w=.ok (395,.agg #[h]) w:=by kernel_rfl
theorem zbY(h:Value)(w:World):(Go.method 582 220 (.agg #[h]) "AssignableTo").run Tryz.prog w=.ok (392,.agg #[h]) w:=by kernel_rfl
theorem zur(w:World):(ReflectliteType.method ReflectliteType.elem #[.agg #[.pointer (some ⟨10,110,none⟩)]]).run Tryz.prog w=.ok (.iface 220 (.agg #[.pointer (some ⟨10,107,none⟩)])) w:=by kernel_rfl
theorem zgB(w:World):(ReflectliteType.relation "Implements" ReflectliteType.implements_ #[.agg #[.pointer (some ⟨10,107,none⟩)],.iface 220 (.agg #[.pointer (some ⟨10,39,none⟩)])]).run Tryz.prog w=.ok (.bool true) w:=by kernel_rfl
theorem zoq(v:Value)(w:World):(ReflectliteType.typeOf #[.iface 107 v]).run Tryz.prog w=.ok (.iface 220 (.agg #[.pointer (some ⟨10,107,none⟩)])) w:=by kernel_rfl
theorem zgC(w:World):(ReflectliteType.relation "AssignableTo" ReflectliteType.assignableTo #[.agg #[.pointer (some ⟨10,107,none⟩)],.iface 220 (.agg #[.pointer (some ⟨10,107,none⟩)])]).run Tryz.prog w=.ok (.bool true) w:=by kernel_rfl
theorem zlj(k:Int)(w:World):(ReflectliteValue.unpack (.iface 107 (.int .i64 k))).run Tryz.prog w
  = .ok (.agg #[.pointer (some ⟨10,107,none⟩),.pointer (some ⟨w.heap.size,0,none⟩),.int .u64 130]) (w.alloc (.cells #[.int .i64 k] 107)):=by kernel_rfl
theorem zos(w:World):(Rtype.elem? 110).run Tryz.prog w=.ok (some 107) w:=by kernel_rfl
theorem zAp(p:Addr)(w:World):(ReflectliteValue.mk 107 p ReflectliteValue.flagAddr).run Tryz.prog w=.ok (.agg #[.pointer (some ⟨10,107,none⟩),.pointer (some p),.int .u64 386]) w:=by kernel_rfl
theorem zqX(a p:Addr)(W:World)(ha:W.cell? a=some (.pointer (some p))) :
  (ReflectliteValue.method (ReflectliteValue.valueError "reflectlite.Value.Elem" 0) ReflectliteValue.elem #[.agg #[.pointer (some ⟨10,110,none⟩),.pointer (some a),.int .u64 150]]).run Tryz.prog W
   = .ok (.agg #[.pointer (some ⟨10,107,none⟩),.pointer (some p),.int .u64 386]) W:=by
 delta ReflectliteValue.method
 rw [zwC]
 simp only [Sem.run_bind,zjw,Result.andThen]
 simp [ReflectliteValue.elem,loadVar,isAgg,underlying,Tryz.underlying110,ha,Result.andThen,zos,zAp]
theorem zor(a:Addr)(w:World):(ReflectliteValue.parts (.agg #[.pointer (some ⟨10,107,none⟩),.pointer (some a),.int .u64 386])).run Tryz.prog w=.ok (some (107,a,386)) w:=by kernel_rfl
theorem zqV(a:Addr)(w:World):(ReflectliteValue.parts (.agg #[.pointer (some ⟨10,107,none⟩),.pointer (some a),.int .u64 130])).run Tryz.prog w=.ok (some (107,a,130)) w:=by kernel_rfl
theorem zot(w:World):(Rtype.directlyAssignable 107 107).run Tryz.prog w=.ok true w:=by kernel_rfl
theorem zxZ(ta b:Addr)(k:Int)(old:Value)(W:World)(hb:W.cell? b=some (.int .i64 k))(ht:W.cell? ta=some old)(hf:W.frozen? ta=false) :
  (ReflectliteValue.set #[.agg #[.pointer (some ⟨10,107,none⟩),.pointer (some ta),.int .u64 386],.agg #[.pointer (some ⟨10,107,none⟩),.pointer (some b),.int .u64 130]]).run Tryz.prog W
   = .ok (.tuple #[]) (W.setCell ta (.int .i64 k)):=by
 delta ReflectliteValue.set
 rw [zAo]
 simp only [Sem.run_bind,zor,zqV,Result.andThen]
 simp [ReflectliteValue.flagAddr,loadVar,isAgg,underlying,Tryz.underlying107,hb,Result.andThen,zot,storeVar,Value.cells,storeCells,Addr.add]
 rw [run_store Tryz.prog W ta _ _ (by rfl)]
 simp [ht,hf]
def ErrT(w:World):Prop:=w.cell? ⟨1,0,none⟩=some (.iface 220 (.agg #[.pointer (some ⟨10,39,none⟩)]))
theorem ErrT.below{w w':World}(h:ErrT w)(hb:Below w.heap.size w w'):ErrT w':=by
 unfold ErrT
 rw [hb.cell (block_lt_of_cell h)];exact h
set_option maxRecDepth 100000 in
set_option maxHeartbeats 4000000 in
theorem zwf(k:Int)(t:Addr)(old:Value)(w:World)(hg:w.cell? ⟨1,0,none⟩=some (.iface 220 (.agg #[.pointer (some ⟨10,39,none⟩)])))(ht0:w.cell? t=some old)(hf0:w.frozen? t=false) :
  Calls Tryz.prog 48 #[.iface 107 (.int .i64 k),.iface 110 (.pointer (some t))] w fun ev w'=>ev=.returned (.bool true)/\w'=((((w.alloc (.cells #[.pointer (some t)] 110)).alloc (.cells #[.pointer (some ⟨10,110,none⟩),.pointer (some ⟨w.heap.size,0,none⟩),.int .u64 150] 166)).alloc (.cells #[.pointer (some ⟨10,110,none⟩),.pointer (some ⟨w.heap.size,0,none⟩),.int .u64 150] 166)).alloc (.cells #[.int .i64 k] 107)).setCell t (.int .i64 k):=by
 have h6:=@run_callFunc_extern Tryz.prog 80 _ (fun args=>ReflectliteValue.unpack (args.getD 0 (.tuple #[]))) Tryz.func80 (by kernel_rfl) (by kernel_rfl) (by kernel_rfl) (by kernel_rfl)
 have h7:=@run_callFunc_extern Tryz.prog 81 _ (ReflectliteValue.methodAny (ReflectliteValue.valueError "reflectlite.Value.Type" 0) (fun t _ _ _=>ReflectliteType.toType t)) Tryz.func81 (by kernel_rfl) (by kernel_rfl) (by kernel_rfl) (by kernel_rfl)
 have h8:=@run_callFunc_extern Tryz.prog 82 _ (ReflectliteValue.method (ReflectliteValue.valueError "reflectlite.Value.IsNil" 0) ReflectliteValue.isNil) Tryz.func82 (by kernel_rfl) (by kernel_rfl) (by kernel_rfl) (by kernel_rfl)
 have h27:=@run_callFunc_extern Tryz.prog 384 _ (ReflectliteType.abiMethod fun t=>do pure (.int .u8 (<- Rtype.kind t))) Tryz.func384 (by kernel_rfl) (by kernel_rfl) (by kernel_rfl) (by kernel_rfl)
 have h37:=@run_callFunc_extern Tryz.prog 394 _ (ReflectliteType.method ReflectliteType.elem) Tryz.func394 (by kernel_rfl) (by kernel_rfl) (by kernel_rfl) (by kernel_rfl)
 have h38:=@run_callFunc_extern Tryz.prog 395 _ (ReflectliteType.relation "Implements" ReflectliteType.implements_) Tryz.func395 (by kernel_rfl) (by kernel_rfl) (by kernel_rfl) (by kernel_rfl)
 have h10:=@run_callFunc_extern Tryz.prog 78 _ ReflectliteType.typeOf Tryz.func78 (by kernel_rfl) (by kernel_rfl) (by kernel_rfl) (by kernel_rfl)
 have h35:=@run_callFunc_extern Tryz.prog 392 _ (ReflectliteType.relation "AssignableTo" ReflectliteType.assignableTo) Tryz.func392 (by kernel_rfl) (by kernel_rfl) (by kernel_rfl) (by kernel_rfl)
 have h11:=@run_callFunc_extern Tryz.prog 123 _ (ReflectliteValue.method (ReflectliteValue.valueError "reflectlite.Value.Elem" 0) ReflectliteValue.elem) Tryz.func123 (by kernel_rfl) (by kernel_rfl) (by kernel_rfl) (by kernel_rfl)
 have h12:=@run_callFunc_extern Tryz.prog 124 _ ReflectliteValue.set Tryz.func124 (by kernel_rfl) (by kernel_rfl) (by kernel_rfl) (by kernel_rfl)
 have tO:=zoq
 have mA:=zbY
 have a25:=zgC
 have v25:=zlj
 have f6:=zli
 have f7:=zuo
 have mK:=zhM
 have mE:=zhN
 have mI:=zcX
 have k27:=zup
 have k25:=zuq
 have e27:=zur
 have i25:=zgB
 have n8:=zqW ⟨w.heap.size,0,none⟩ t ((w.alloc (.cells #[.pointer (some t)] 110)).alloc (.cells #[.pointer (some ⟨10,110,none⟩),.pointer (some ⟨w.heap.size,0,none⟩),.int .u64 150] 166)) (by simp)
 have hlt:1<w.heap.size:=block_lt_of_cell hg
 have hg2:((w.alloc (.cells #[.pointer (some t)] 110)).alloc (.cells #[.pointer (some ⟨10,110,none⟩),.pointer (some ⟨w.heap.size,0,none⟩),.int .u64 150] 166)).cell? ⟨1,0,none⟩=some (.iface 220 (.agg #[.pointer (some ⟨10,39,none⟩)])):=by
  rw [World.cell?_alloc_lt _ _ ⟨1,0,none⟩ (by simp;try omega),World.cell?_alloc_lt _ _ ⟨1,0,none⟩ hlt];exact hg
 have htl:t.block<w.heap.size:=block_lt_of_cell ht0
 have el:=zqX ⟨w.heap.size,0,none⟩ t (((w.alloc (.cells #[.pointer (some t)] 110)).alloc (.cells #[.pointer (some ⟨10,110,none⟩),.pointer (some ⟨w.heap.size,0,none⟩),.int .u64 150] 166)).alloc (.cells #[.pointer (some ⟨10,110,none⟩),.pointer (some ⟨w.heap.size,0,none⟩),.int .u64 150] 166)) (by rw [World.cell?_alloc_lt _ _ ⟨w.heap.size,0,none⟩ (by simp;omega)];simp)
 have st:=zxZ t ⟨w.heap.size+1+1+1,0,none⟩ k old ((((w.alloc (.cells #[.pointer (some t)] 110)).alloc (.cells #[.pointer (some ⟨10,110,none⟩),.pointer (some ⟨w.heap.size,0,none⟩),.int .u64 150] 166)).alloc (.cells #[.pointer (some ⟨10,110,none⟩),.pointer (some ⟨w.heap.size,0,none⟩),.int .u64 150] 166)).alloc (.cells #[.int .i64 k] 107))
  (by rw [World.cell?_alloc_at _ _ _ _ (by simp)];rfl)
  (by rw [World.cell?_alloc_lt _ _ t (by simp;omega),World.cell?_alloc_lt _ _ t (by simp;omega),World.cell?_alloc_lt _ _ t (by simp;omega),World.cell?_alloc_lt _ _ t htl];exact ht0)
  (by rw [World.frozen?_alloc_old _ _ t (by simp;omega),World.frozen?_alloc_old _ _ t (by simp;omega),World.frozen?_alloc_old _ _ t (by simp;omega),World.frozen?_alloc_old _ _ t (Nat.ne_of_lt htl)];exact hf0)
 go_enter Tryz.func48,Tryz.ntmps48
 go_wp2
 refine wp_loop_rounds 1 ?_
 rw [rounds_succ]
 go_wp2
 go_ret
 exact⟨rfl,rfl⟩
end Go.Proofs.YtchmlnmhbfaclaaGreatDoor
namespace Go.Proofs.YtchmlnmhbfaclaaGreatDoor
open Go.RowKit
set_option linter.unusedVariables false
theorem zgc(s:ByteArray)(h:s.size=0):s.toList.isEmpty=true:=by
 have he:s=ByteArray.empty:=by simpa using h
 have:=Classical.propDecidable (s=ByteArray.empty)
 rw [<- decide_eq_emptyBytes]
 exact decide_eq_true he
theorem zdO(s:ByteArray)(h:1<=s.size):s.toList.isEmpty=false:=by
 have:=Classical.propDecidable (s=ByteArray.empty)
 rw [<- decide_eq_emptyBytes]
 refine decide_eq_false ?_
 intro he
 rw [he] at h
 simp at h
theorem zaq(l:List Int)(n j:Nat):(l.drop n).getD j 0=l.getD (n+j) 0:=by simp [List.getD]
theorem Qm(s:ByteArray)(w:World)(hs:s.size<=140737488351232)(L:List Int)(x:Int)(h:(ZO s/\L=zI s/\x=0)\/(¬ ZO s/\L=[]/\x=2)) :
  Calls Tryz.prog 141 #[.string s] w (Ends w L (zK x)):=by
 rcases h with ⟨hn,rfl,rfl⟩ | ⟨hn,rfl,rfl⟩
 ·refine(zfC s w hn.1 hn.2.1 hn.2.2).mono fun e w' ⟨g,he,hg,hk,hb⟩=>?_
  have hlen:=zH s hn.2.1
  exact⟨some ⟨g,0,none⟩,(zI s).length,by rw [hlen];exact he,hk.bs (zdU s) (by rw [hlen];decide),hb⟩
 ·exact(ZG s w hs hn).mono fun e w' ⟨he,hb⟩=>⟨none,0,he,zbe _,hb⟩
def zp(l:List Int):Nat:=zil (fun j=>(!ltr (l.getD j 0))) l.length
def QT(l:List Int)(i:Nat):Nat:=zil (fun j=>((l.drop i).getD j 0 != 0)) (l.drop i).length
def zG(l:List Int):ByteArray×Int :=
 if ¬ l.length=8 then (ByteArray.empty,3) else if zp l=0\/QT l (zp l)<l.length-zp l then (ByteArray.empty,2) else (strOf (l.take (zp l)),0)
theorem zf4(a:Option Addr)(cap:Nat)(l:List Int)(w:World)(hbs:Bs w a cap l) :
  Calls Tryz.prog 237 #[.slice a l.length cap] w fun e w'=>e=.returned (.tuple #[.string (zG l).1,zK (zG l).2])/\Below w.heap.size w w':=by
 have hl:=hbs.2.2.1
 by_cases h8:l.length=8
 ·have hi:=zB (fun j=>(!ltr (l.getD j 0))) l.length
  have hz:=zB (fun j=>((l.drop (zp l)).getD j 0 != 0)) (l.drop (zp l)).length
  by_cases h0:zp l=0
  ·have e:zG l=(ByteArray.empty,2):=by unfold zG;rw [if_neg (fun h=>h h8),if_pos (Or.inl h0)]
   rw [e]
   exact zkh a cap l w hbs h8 (zp l) (QT l (zp l)) hi hz h0
  ·by_cases h1:QT l (zp l)<l.length-zp l
   ·have e:zG l=(ByteArray.empty,2):=by unfold zG;rw [if_neg (fun h=>h h8),if_pos (Or.inr h1)]
    rw [e]
    exact zki a cap l w hbs h8 (zp l) (QT l (zp l)) hi hz h0 h1
   ·have e:zG l=(strOf (l.take (zp l)),0):=by unfold zG;rw [if_neg (fun h=>h h8),if_neg (fun h=>h.elim h0 h1)]
    rw [e]
    exact zf3 a cap l w hbs h8 (zp l) (QT l (zp l)) hi hz h0 (by omega)
 ·have e:zG l=(ByteArray.empty,3):=by unfold zG;rw [if_pos h8]
  rw [e]
  exact zlX a l.length cap w hl h8
theorem zcr(l:List Int):(strOf l).size=l.length:=by
 have h:=congrArg List.length (strOf_data l)
 simpa using h
end Go.Proofs.YtchmlnmhbfaclaaGreatDoor
