/-
  Parts of the proofs.
-/
import Derived.Test.YtcimhnnendlblaaGreatProg
import Derived.WalkKit
import Derived.Laws.CopyOwn
import Derived.OpenShut
import Derived.LaidEql
import Derived.Stop.Asserts
import Derived.RowKitTokens
import Derived.Lib.BufferWrite
import Derived.Laws.BytesString
import Derived.BigQuiet
import Derived.WalkLawsBesides
import Derived.Deep.RegionWith
import Derived.Deep.QuietTactic
set_option maxRecDepth 100000
set_option maxHeartbeats 16000000
set_option linter.all false
namespace Go.Proofs.YtcimhnnendlblaaGreat
open Go.RowKit
def aR(x:Int):Value:=if x=0 then .nilIface else .iface 81 (.int .i64 x)
theorem aA:aR 0=.nilIface:=rfl
theorem aC(x:Int)(h:x≠0):aR x=.iface 81 (.int .i64 x):=if_neg h
theorem af{p:Prop}(h:p):Hid p:=h
theorem ae{p:Prop}(h:Hid p):p:=h
theorem zNr{n:Nat}:n ≤ n:=Nat.le_refl n
theorem zBr{B:Nat}{w:World}:Below B w w:=Below.refl B w
theorem zAg{α:Type _}{xs:Array α}{i:Nat}{a:α}(h:xs[i]?=some a):∃ h:i<xs.size,xs[i]=a:=Array.getElem?_eq_some_iff.1 h
theorem zLs{α:Type _}{xs:List α}{i:Nat}{a:α}(h:xs[i]?=some a):∃ h:i<xs.length,xs[i]=a:=List.getElem?_eq_some_iff.1 h
theorem zLg{α:Type _}{l:List α}{i:Nat}(h:i<l.length):l[i]?=some l[i]:=List.getElem?_eq_getElem h
theorem zMs{α:Type _}{a b:α}(h:a∈[b]):a=b:=List.mem_singleton.1 h
theorem zMc{α:Type _}{a b:α}{l:List α}(h:a∈b :: l):a=b ∨ a∈l:=List.mem_cons.1 h
theorem zMa{α:Type _}{a:α}{s t:List α}(h:a∈s++t):a∈s ∨ a∈t:=List.mem_append.1 h
theorem zOi{α:Type _}{a b:α}(h:some a=some b):a=b:=Option.some.inj h
theorem zTn(n:Nat):(n:Int).toNat=n:=Int.toNat_natCast n
theorem zLa{α:Type _}{a b:List α}:(a++b).length=a.length+b.length:=List.length_append
theorem zLt{α:Type _}{i:Nat}{l:List α}:(l.take i).length=min i l.length:=List.length_take
theorem zLd{α:Type _}{i:Nat}{l:List α}:(l.drop i).length=l.length-i:=List.length_drop
theorem zLm{α β:Type _}{xs:List α}(f:α → β):(xs.map f).length=xs.length:=List.length_map f
theorem zLc{α:Type _}{a:α}{xs:List α}:(a :: xs).length=xs.length+1:=List.length_cons
theorem zTr{a b c:World}(h:Hid (Below a.heap.size a b))(k:Below b.heap.size b c):Hid (Below a.heap.size a c):=af ((ae h).trans (k.mono (ae h).size))
theorem zTs{a b c:World}(h:Hid (Below a.heap.size a b))(k:Below b.heap.size b c):Below a.heap.size a c:=(ae h).trans (k.mono (ae h).size)
theorem zu0:type_of% Tryz.underlying0:=Tryz.underlying0
theorem zu108:type_of% Tryz.underlying108:=Tryz.underlying108
theorem zu112:type_of% Tryz.underlying112:=Tryz.underlying112
theorem zu131:type_of% Tryz.underlying131:=Tryz.underlying131
theorem zu164:type_of% Tryz.underlying164:=Tryz.underlying164
theorem zu214:type_of% Tryz.underlying214:=Tryz.underlying214
theorem zu3:type_of% Tryz.underlying3:=Tryz.underlying3
theorem zu30:type_of% Tryz.underlying30:=Tryz.underlying30
theorem zu4:type_of% Tryz.underlying4:=Tryz.underlying4
theorem zu44:type_of% Tryz.underlying44:=Tryz.underlying44
theorem zu5:type_of% Tryz.underlying5:=Tryz.underlying5
theorem zu85:type_of% Tryz.underlying85:=Tryz.underlying85
theorem zu9:type_of% Tryz.underlying9:=Tryz.underlying9
def bj(l:List Int):Prop:=∀ z∈l,0<=z/\z<=255
def Bs(w:World)(a:Option Addr)(cap:Nat)(l:List Int):Prop :=
 bj l/\l.length<=cap/\l.length<=140737488351232/\(a=none->cap=0) /\
 (l≠[]->∃ b off,a=some ⟨b,off,none⟩/\∀ i,i<l.length->w.cell? ⟨b,off+i,none⟩=some (.int .u8 (l.getD i 0)))
def fH(w:World)(g:Nat)(l:List Int):Prop:=w.heap[g]?=some (.cells (l.map (Value.int .u8)).toArray 5 (0,0))
theorem addr_add(b off j:Nat):Addr.add ⟨b,off,none⟩ j=⟨b,off+j,none⟩:=by unfold Addr.add;split <;> simp_all
theorem bj.getD{l:List Int}(h:bj l)(i:Nat):0<=l.getD i 0/\l.getD i 0<=255:=by
 by_cases hi:i<l.length
 ·have:l.getD i 0=l[i]:=by simp [List.getD,hi]
  rw [this];exact h _ (List.getElem_mem hi)
 ·have:l.getD i 0=0:=by simp [List.getD,List.getElem?_eq_none (by omega:l.length<=i)]
  rw [this];omega
theorem fH.cell{w:World}{g:Nat}{l:List Int}(h:fH w g l)(i:Nat)(hi:i<l.length):w.cell? ⟨g,i,none⟩=some (.int .u8 (l.getD i 0)):=by rw [cell_of_row w g i _ 5 (0,0) h];simp [hi,List.getD]
theorem fH.frozen{w:World}{g:Nat}{l:List Int}(h:fH w g l)(i:Nat):w.frozen? ⟨g,i,none⟩=false:=frozen_of_row w g i _ 5 h
theorem fH.lt{w:World}{g:Nat}{l:List Int}(h:fH w g l):g<w.heap.size:=by
 unfold fH at h;rcases Nat.lt_or_ge g w.heap.size with h' | h'
 ·exact h'
 ·rw [Array.getElem?_eq_none h'] at h;cases h
theorem fH.bs{w:World}{g:Nat}{l:List Int}(h:fH w g l)(hb:bj l)(hl:l.length<=140737488351232):Bs w (some ⟨g,0,none⟩) l.length l :=⟨hb,zNr,hl,fun e=>(by cases e),fun _=>⟨g,0,rfl,fun i hi=>by rw [Nat.zero_add];exact h.cell i hi⟩⟩
theorem fH.below{w w':World}{g:Nat}{l:List Int}(h:fH w g l)(hb:Below w.heap.size w w'):fH w' g l:=by unfold fH;rw [hb.block g h.lt];exact h
theorem Bs.below{w w':World}{a:Option Addr}{cap:Nat}{l:List Int}(h:Bs w a cap l)(hb:Below w.heap.size w w'):Bs w' a cap l:=by obtain⟨h1,h2,h3,h4,h5⟩:=h;refine⟨h1,h2,h3,h4,fun aO=>?_⟩;obtain⟨b,off,rfl,hc⟩:=h5 aO;refine⟨b,off,rfl,fun i hi=>?_⟩;have h6:=hc i hi;rw [<- h6];exact hb.cell (block_lt_of_cell h6)
theorem TR{w:World}{x:Addr}{len cap:Nat}{zs:List Int}(hl:len<=cap)(hm:cap<=140737488351232)(hz:zs.length=cap)(bk:∀ i,i<zs.length->w.cell? (x.add i)=some (.int .u8 (zs.getD i 0)))(hwz:∀ n∈zs,(Lit.int .u8 n).wf=true) :
  Bs w (some x) cap (zs.take len)/\(zs.take len).length=len:=by
 have hlen:(zs.take len).length=len:=by simp;omega
 refine⟨⟨fun z h=>bounds_u8 (hwz z (List.mem_of_mem_take h)),by omega,by omega,fun h=>(by cases h),?_⟩,hlen⟩;intro aO;have jf:0<zs.length:=by
  cases zs with
  | nil=>simp at aO
  | cons _ _=>simp
 obtain⟨b,off,spot⟩:=x;have Xk:spot=none:=by simpa [Addr.add] using World.cell?_spot (bk 0 jf)
 subst Xk;refine⟨b,off,rfl,fun i hi=>?_⟩;have h1:=bk i (by rw [hlen] at hi;omega);rw [addr_add] at h1;rw [h1];rw [hlen] at hi;simp [List.getD,hi]
def numOf:List Int->Int
 | []=>0
 | c :: r=>c+256 * numOf r
theorem Mn(l:List Int)(c:Int):numOf (l++[c])=numOf l+c * 256 ^ l.length:=by
 induction l with
 | nil=>simp [numOf]
 | cons d r ih =>
  have e:(256:Int) ^ (r.length+1)=256 * 256 ^ r.length:=by rw [Int.pow_succ,Int.mul_comm]
  simp only [List.cons_append,numOf,ih,zLc,e,Int.mul_add];rw [show 256 * (c * 256 ^ r.length)=c * (256 * 256 ^ r.length) from by rw [<- Int.mul_assoc,Int.mul_comm 256 c,Int.mul_assoc]];omega
theorem IZ(l:List Int)(h:bj l):0<=numOf l/\numOf l<256 ^ l.length:=by
 induction l with
 | nil=>simp [numOf]
 | cons d r ih =>
  have e:(256:Int) ^ (r.length+1)=256 * 256 ^ r.length:=by rw [Int.pow_succ,Int.mul_comm]
  have h1:=h d (by simp);have h2:=ih (fun z hz=>h z (by simp [hz]));simp only [numOf,zLc,e];omega
def bz(l:List Int)(p s:Nat):Int:=numOf ((l.drop p).take s)
theorem oA(l:List Int)(p k:Nat)(h:p+k<l.length):bz l p (k+1)=bz l p k+l.getD (p+k) 0 * 256 ^ k:=by
 unfold bz;have h1:k<(l.drop p).length:=by simp;omega
 rw [List.take_succ_eq_append_getElem h1,Mn];have h2:((l.drop p).take k).length=k:=by simp;omega
 rw [h2];have h3:l.getD (p+k) 0=l[p+k]:=by simp [List.getD,h]
 rw [h3];simp
theorem bj.sub{l:List Int}(h:bj l)(p s:Nat):bj ((l.drop p).take s) :=fun z hz=>h z (List.mem_of_mem_drop (List.mem_of_mem_take hz))
theorem PV(l:List Int)(h:bj l)(p k:Nat)(hk:p+k<=l.length):0<=bz l p k/\bz l p k<256 ^ k:=by
 have:=IZ _ (h.sub p k);have h2:((l.drop p).take k).length=k:=by simp;omega
 rw [h2] at this;exact this
def putK(l:List Int)(p:Nat)(n:Int):Nat->List Int
 | 0=>l
 | k+1=>(putK l p n k).set (p+k) (n / 2 ^ (8 * k) % 256)
theorem cQ(l:List Int)(p:Nat)(n:Int)(k:Nat):(putK l p n k).length=l.length:=by
 induction k with
 | zero=>rfl
 | succ k ih=>simp [putK,ih]
theorem Qm{l:List Int}(h:bj l)(i:Nat)(c:Int)(hc:0<=c/\c<=255):bj (l.set i c):=by
 intro z hz;rcases List.mem_or_eq_of_mem_set hz with h1 | h1
 ·exact h z h1
 ·rw [h1];exact hc
theorem qW{l:List Int}(h:bj l)(p:Nat)(n:Int)(k:Nat):bj (putK l p n k):=by
 induction k with
 | zero=>exact h
 | succ k ih=>exact Qm ih _ _ (by omega)
theorem fH.set{w:World}{g:Nat}{l:List Int}(h:fH w g l)(i:Nat)(c:Int):fH (w.setCell ⟨g,i,none⟩ (.int .u8 c)) g (l.set i c):=by unfold fH;have:=heap_setCell_same w g i (l.map (Value.int .u8)).toArray 5 (.int .u8 c) h;rw [this];simp [List.map_set]
theorem zdV(n c k:Nat)(h:n<2 ^ k):n ||| c * 2 ^ k=n+c * 2 ^ k:=by have:=Nat.two_pow_add_eq_or_of_lt h c;rw [Nat.mul_comm,Nat.or_comm];omega
theorem MZ(a b:Nat)(ha:a<4611686018427387904)(hb:b<4611686018427387904):bits .or .i64 (a:Int) (b:Int)=((a ||| b:Nat):Int):=by
 have hx:a ||| b<2 ^ 62:=Nat.or_lt_two_pow (by omega) (by omega)
 show IntKind.i64.wrap ((BitVec.ofInt 64 (a:Int) ||| BitVec.ofInt 64 (b:Int)).toNat:Int)=_
 rw [BitVec.toNat_or,ofInt_u64 a (by omega),ofInt_u64 b (by omega),IntKind.wrap_i64];generalize a ||| b=c at *;omega
theorem zaW(n c:Int)(k:Nat)(hk:k<=3)(hn:0<=n/\n<256 ^ k)(hc:0<=c/\c<=255):bits .or .i64 n (wrap64 (c * 2 ^ (8 * k)))=n+c * 256 ^ k:=by
 obtain⟨N,rfl⟩:=Int.eq_ofNat_of_zero_le hn.1;obtain⟨C,rfl⟩:=Int.eq_ofNat_of_zero_le hc.1;have zbW:(256:Int) ^ k=2 ^ (8 * k):=by rw [Int.pow_mul];rfl
 have hN:N<2 ^ (8 * k):=by have h:=hn.2;rw [zbW] at h;exact_mod_cast h
 have hC:(C:Int) * 2 ^ (8 * k)=((C * 2 ^ (8 * k):Nat):Int):=by push_cast;rfl
 have hle:C * 2 ^ (8 * k)<4611686018427387904:=by
  have h1:2 ^ (8 * k)<=2 ^ 24:=Nat.pow_le_pow_right (by omega) (by omega);have h2:C<=255:=by omega
  exact Nat.lt_of_le_of_lt (Nat.mul_le_mul h2 h1) (by decide)
 have zlA:N<4611686018427387904:=by have h1:2 ^ (8 * k)<=2 ^ 24:=Nat.pow_le_pow_right (by omega) (by omega);omega
 rw [zbW,hC];have hw:wrap64 ((C * 2 ^ (8 * k):Nat):Int)=((C * 2 ^ (8 * k):Nat):Int):=by generalize C * 2 ^ (8 * k)=m at *;unfold wrap64;omega
 rw [hw,MZ _ _ zlA hle,zdV N C (8 * k) hN]
 push_cast;rfl
section
open Go.Extern.Stop
open Go.Stop
open Go.Extern

end
def ag(n:Nat):List Int:=List.replicate n 0
theorem aj(n:Nat):(ag n).length=n:=by simp [ag]
theorem bW(n:Nat):bj (ag n):=fun z hz=>by have:=(List.mem_replicate.1 hz).2;omega
theorem Ao(n:Nat):(madeCells (Value.int .u8 0).cells n).toList=(ag n).map (Value.int .u8):=by
 apply List.ext_getElem
 ·simp [madeCells,ag]
 ·intro i h1 h2;simp [madeCells,ag,Value.cells,Nat.mod_one]
theorem bE{P:Program}{w:World}{ops:Array Oper}{rest:List Oper}{o:Oper}{a:Act}{Q:Exit->Act->World->Prop}
  (hg:o.guard=none) (l c:Operand) (t:TypeId) (PF:o.op=Op.makeSlice t l c)
  (i:TypeInfo) (h1:P.underlying t=some (.slice 5)) (h2:P.info? 5=some i) (h3:i.zero=some (.int .u8 0)) (h4:i.size=1) (h5:i.bytes=1)
  (kl kc:IntKind) (L C:Int) (n:Nat) (hl:a.eval l=.int kl L) (hc:a.eval c=.int kc C) (hL:L=(n:Int)) (hC:C=(n:Int)) (b2:n<=281474976710656)
  (hK:∀ w',fH w' w.heap.size (ag n)->w'.heap.size=w.heap.size+1->Below w.heap.size w w'->wpList P ops Q rest (a.put o.dst (.slice (some ⟨w.heap.size,0,none⟩) n n)) w') :
  wpList P ops Q (o :: rest) a w:=by
 refine wpList_plain hg fun K hK'=>?_
 have bw:=run_make (P:=P) w t 5 i _ h1 h2 h3 kl kc n n (by omega) (by omega) (by rw [h5];omega) (by omega);subst hL;subst hC;unfold Oper.wp;simp [execOp,PF,hl,hc,bw,Result.andThen];refine hK' _ _ (hK _ ?_ (by simp) (zBr.alloc zNr _));unfold fH;rw [heap_alloc_new,h4,Nat.mul_one];rw [<- Ao,Array.toArray_toList]
theorem dE(l:List Int):∀ v∈l.map (Value.int .u8),v.oneCell'=true:=by intro v hv;obtain⟨z,_,rfl⟩:=List.mem_map.1 hv;rfl
theorem H6{α:Type}(L cs:List α)(h:cs.length=L.length):splice L 0 cs=cs:=by simp [splice,h]
def ei(w:World)(g:Nat)(l:List Int):World:=w.setRow g (l.map (Value.int .u8)).toArray
theorem ix{w:World}{g:Nat}{z:List Int}(hg:fH w g z)(l:List Int):fH (ei w g l) g l :=setRow_heap w g _ _ 5 _ hg
theorem dW{w w0:World}{B g:Nat}(l:List Int)(hb:Below B w0 w)(hBg:B<=g):Below B w0 (ei w g l):=below_setRow hb hBg _
theorem mS{P:Program}(w:World)(dT sT ty:TypeId)(hu:P.underlying dT=some (.slice 5))(cL:(P.info? 5).map (·.size)=some 1)
  (g dCap:Nat) (sp:Option Addr) (sCap:Nat) (z l:List Int) (hz:z.length=l.length) (hg:fH w g z) (hb:Bs w sp sCap l) :
  (Builtin.copy_ #[dT,sT] ty #[.slice (some ⟨g,0,none⟩) l.length dCap,.slice sp l.length sCap]).run P w=.ok (.int .i64 l.length) (ei w g l):=by
 have ow:w.heap[g]?=some (.cells (z.map (Value.int .u8)).toArray 5 (0,0)):=hg;by_cases h0:l=[]
 ·subst h0;have cY:z=[]:=List.eq_nil_of_length_eq_zero hz;have bw:=run_copy_none (P:=P) w dT sT ty 5 (some ⟨g,0,none⟩) sp 0 dCap 0 sCap hu cL (by simp);have jQ:ei w g []=w:=by subst cY;exact setRow_self w g _ 5 (0,0) ow
  rw [jQ];simpa [goInt] using bw
 ·obtain⟨b,off,rfl,hc⟩:=hb.2.2.2.2 h0;have bw:=run_copy_row (P:=P) w dT sT ty 5 g 0 l.length dCap ⟨b,off,none⟩ l.length sCap _ 5 (l.map (Value.int .u8)) hu cL ow (by simp) ?_ (by simp [hz]) (dE l)
  ·have hdz:List.drop l.length (z.map (Value.int .u8))=[]:=List.drop_eq_nil_of_le (by simp [hz]);simpa [hdz,goInt,ei] using bw
  ·intro j v hj;have mG:j<l.length:=by
    rcases Nat.lt_or_ge j l.length with h1 | h1
    ·exact h1
    ·rw [List.getElem?_eq_none (by simpa using h1)] at hj;cases hj
   have:=hc j mG;simp [mG] at hj;subst hj;rw [addr_add];simpa [List.getD,mG] using this
def gQ(s:ByteArray):List Int:=s.data.toList.map fun c=>(c.toNat:Int)
theorem gX(s:ByteArray):(gQ s).length=s.size:=by simp [gQ]
theorem QZ(s:ByteArray)(i:Nat)(h:i<s.size):(gQ s).getD i 0=(s[i].toNat:Int):=by
 have h2:i<s.data.toList.length:=by simpa using h
 simp [gQ,List.getD];rw [Array.getElem?_eq_getElem (by simpa using h)];rfl
theorem YZ(s:ByteArray):bj (gQ s):=by intro z hz;obtain⟨c,_,rfl⟩:=List.mem_map.1 hz;have:=c.toNat_lt;omega
theorem Fq{P:Program}(w:World)(dT sT ty:TypeId)(hu:P.underlying dT=some (.slice 5))(cL:(P.info? 5).map (·.size)=some 1)
  (g dLen dCap:Nat) (s:ByteArray) (z:List Int) (hz:z.length=dLen) (hg:fH w g z) (hs:s.size<=dLen) :
  (Builtin.copy_ #[dT,sT] ty #[.slice (some ⟨g,0,none⟩) dLen dCap,.string s]).run P w=.ok (.int .i64 s.size) (ei w g (gQ s++z.drop s.size)):=by
 have ow:w.heap[g]?=some (.cells (z.map (Value.int .u8)).toArray 5 (0,0)):=hg;have bw:=Lib.run_copy_row_string (P:=P) w dT sT ty 5 g 0 dLen dCap s _ 5 hu cL ow hs (by simp [hz];exact hs);rw [bw];unfold ei;simp [goInt,gQ,Lib.byteCells,List.map_drop,Function.comp_def]
theorem Bs.drop{w:World}{a:Option Addr}{cap:Nat}{l:List Int}(hb:Bs w a cap l)(i:Nat)(hi:i<=l.length):Bs w (if cap=i then a else a.map (·.add i)) (cap-i) (l.drop i):=by
 obtain⟨b1,b2,b3,b4,b5⟩:=hb;refine⟨fun z hz=>b1 z (List.mem_of_mem_drop hz),by simp;omega,by simp;omega,?_,?_⟩
 ·intro h;split at h
  ·omega
  ·have:a=none:=by cases a <;> simp_all
   have:=b4 this;omega
 ·intro aO;have aM:i<l.length:=by
   rcases Nat.lt_or_ge i l.length with h | h
   ·exact h
   ·exact absurd (List.drop_eq_nil_of_le h) aO
  have pw:l≠[]:=by intro h;subst h;simp at aM
  obtain⟨b,off,rfl,hc⟩:=b5 pw;refine⟨b,off+i,?_,?_⟩
  ·rw [if_neg (by omega)];simp [addr_add]
  ·intro j hj;have:=hc (i+j) (by simp at hj;omega);rw [<- Nat.add_assoc] at this;rw [this];simp [List.getD]
theorem Bs.take{w:World}{a:Option Addr}{cap:Nat}{l:List Int}(hb:Bs w a cap l)(i:Nat):Bs w a cap (l.take i):=by
 obtain⟨b1,b2,b3,b4,b5⟩:=hb;refine⟨fun z hz=>b1 z (List.mem_of_mem_take hz),by simp;omega,by simp;omega,b4,?_⟩;intro aO;have pw:l≠[]:=by intro h;subst h;simp at aO
 obtain⟨b,off,rfl,hc⟩:=b5 pw;refine⟨b,off,rfl,fun j hj=>?_⟩;have h1:j<i/\j<l.length:=by simp at hj;omega
 rw [hc j h1.2];simp [List.getD,h1.1]
theorem eK{P:Program}(w:World)(cL:(P.info? 5).map (·.size)=some 1):(sizeOf 5).run P w=.ok 1 w:=by
 cases hq:P.info? 5 with
 | none=>simp [hq] at cL
 | some i =>
  have:i.size=1:=by simpa [hq] using cL
  simp [sizeOf,typeInfo,hq,this]
theorem kx{P:Program}{t:TypeId}(hu:P.underlying t=some (.slice 5)):P.elem t=5:=by simp [Program.elem,hu]
theorem db{P:Program}{t:TypeId}(hu:P.underlying t=some (.slice 5))(cL:(P.info? 5).map (·.size)=some 1){w:World}{a:Option Addr}{cap:Nat}{l:List Int}(hb:Bs w a cap l)(i:Nat)(hi:i<=l.length) :
  ∃ a',(∀ w',(Instr.slice t (.slice a l.length cap) (some (.int .i64 i)) none none).run P w'=.ok (.slice a' (l.length-i) (cap-i)) w')/\Bs w a' (cap-i) (l.drop i):=by
 have he:=kx hu;refine⟨_,fun w'=>?_,hb.drop i hi⟩;rw [run_slice_l (P:=P) (w:=w') t a l.length cap (by rw [he];exact hu) .i64 i (by omega) (by omega),he,eK w' cL];simp [Result.andThen,sliced]
theorem jm{P:Program}{t:TypeId}(hu:P.underlying t=some (.slice 5))(cL:(P.info? 5).map (·.size)=some 1){w:World}{a:Option Addr}{cap:Nat}{l:List Int}(hb:Bs w a cap l)(i:Nat)(hi:i<=l.length) :
  ∃ a',(∀ w',(Instr.slice t (.slice a l.length cap) none (some (.int .i64 i)) none).run P w'=.ok (.slice a' i cap) w')/\Bs w a' cap (l.take i):=by
 have he:=kx hu;have py:=hb.2.1;refine⟨a,fun w'=>?_,hb.take i⟩;rw [run_slice_h (P:=P) (w:=w') t a l.length cap (by rw [he];exact hu) .i64 i (by omega) (by omega),he,eK w' cL];simp only [Result.andThen,sliced];by_cases h0:cap=0
 ·simp [h0]
 ·rw [if_neg h0];cases a with
  | none=>exact absurd (hb.2.2.2.1 rfl) h0
  | some x=>simp [Addr.add]
theorem eU{P:Program}{t:TypeId}(hu:P.underlying t=some (.slice 5))(cL:(P.info? 5).map (·.size)=some 1){w:World}{a:Option Addr}{cap:Nat}{l:List Int}(hb:Bs w a cap l)(i j:Nat)(hij:i<=j)(hj:j<=l.length) :
  ∃ a',(∀ w',(Instr.slice t (.slice a l.length cap) (some (.int .i64 i)) (some (.int .i64 j)) none).run P w'=.ok (.slice a' (j-i) (cap-i)) w')/\Bs w a' (cap-i) ((l.drop i).take (j-i)):=by
 have he:=kx hu;have py:=hb.2.1;refine⟨_,fun w'=>?_,(hb.drop i (by omega)).take (j-i)⟩;rw [run_slice_lh (P:=P) (w:=w') t a l.length cap (by rw [he];exact hu) .i64 .i64 i j (by omega) (by omega) (by omega),he,eK w' cL];simp [Result.andThen,sliced]
def strOf(l:List Int):ByteArray:=l.foldl (fun r n=>r.push (UInt8.ofNat n.toNat)) ByteArray.empty
theorem fU{P:Program}{t e:TypeId}(hu:P.underlying t=some (.slice 5))(hu8:P.underlying 5=some (.int .u8))(hs:P.underlying e=some .string){w:World}{a:Option Addr}{cap:Nat}{l:List Int}(hb:Bs w a cap l) :
  (convert t e (.slice a l.length cap)).run P w=.ok (.string (strOf l)) w:=by
 rw [run_convert_bytes_string w t e 5 a l.length cap hu hu8 hs];by_cases h0:l=[]
 ·subst h0;cases a with
  | none=>simp [Conv.bytesToString,strOf]
  | some x =>have:=run_bytesToString (P:=P) w x 0 cap [] (by simpa using run_loadCells_list (P:=P) (w:=w) x [] (by simp));simpa [strOf] using this
 ·obtain⟨b,off,rfl,hc⟩:=hb.2.2.2.2 h0;refine run_bytesToString (P:=P) w ⟨b,off,none⟩ l.length cap l ?_;have:=run_loadCells_list (P:=P) (w:=w) ⟨b,off,none⟩ (l.map (Value.int .u8)) ?_
  ·simpa using this
  ·intro j v hj;have mG:j<l.length:=by
    rcases Nat.lt_or_ge j l.length with h1 | h1
    ·exact h1
    ·rw [List.getElem?_eq_none (by simpa using h1)] at hj;cases hj
   have h2:=hc j mG;simp [mG] at hj;subst hj;rw [addr_add];simpa [List.getD,mG] using h2
theorem LC(l:List Int):∀ r:ByteArray,(l.foldl (fun r n=>r.push (UInt8.ofNat n.toNat)) r).data.toList=r.data.toList++l.map (fun n=>UInt8.ofNat n.toNat):=by
 induction l with
 | nil=>intro r;simp
 | cons c l ih=>intro r;simp only [List.foldl_cons,List.map_cons];rw [ih];simp [ByteArray.push]
theorem oS(l:List Int):(strOf l).data.toList=l.map (fun n=>UInt8.ofNat n.toNat):=by unfold strOf;rw [LC];simp
theorem zC(s:ByteArray):strOf (gQ s)=s:=by
 have h:(strOf (gQ s)).data.toList=s.data.toList:=by rw [oS];simp [gQ,Function.comp_def]
 cases s with
 | mk d=>cases hq:strOf (gQ ⟨d⟩) with
  | mk d'=>rw [hq] at h;simp at h;rw [h]
theorem iK(l:List Int)(h:bj l):gQ (strOf l)=l:=by
 unfold gQ;rw [oS,List.map_map];apply List.ext_getElem
 ·simp
 ·intro i h1 h2;have:=h l[i] (List.getElem_mem h2);simp;omega
theorem eC(w:World):Bs w none 0 []:=⟨fun z hz=>(by cases hz),zNr,by decide,fun _=>rfl,fun h=>absurd rfl h⟩
def Ends(w:World)(L:List Int)(x:Value)(e:Ending)(w':World):Prop :=∃ a cap,e=.returned (.tuple #[.slice a L.length cap,x])/\Bs w' a cap L/\Below w.heap.size w w'
theorem jC{w:World}{x:Value}{e:Ending}{w':World}(he:e=.returned (.tuple #[.slice none 0 0,x]))(hw:w=w'):Ends w [] x e w' :=⟨none,0,he,eC _,by rw [hw];exact zBr⟩
theorem mT{P:Program}(w:World)(dT sT ty:TypeId)(hu:P.underlying dT=some (.slice 5))(cL:(P.info? 5).map (·.size)=some 1)
  (g off dLen dCap:Nat) (dp sp:Option Addr) (sCap:Nat) (z l:List Int) (hl:l.length<=dLen) (hd:l≠[]->dp=some ⟨g,off,none⟩) (dc:off+l.length<=z.length) (hg:fH w g z) (hb:Bs w sp sCap l) :
  (Builtin.copy_ #[dT,sT] ty #[.slice dp dLen dCap,.slice sp l.length sCap]).run P w=.ok (.int .i64 l.length) (ei w g (splice z off l)):=by
 have ow:w.heap[g]?=some (.cells (z.map (Value.int .u8)).toArray 5 (0,0)):=hg;by_cases h0:l=[]
 ·subst h0;have bw:=run_copy_none (P:=P) w dT sT ty 5 dp sp dLen dCap 0 sCap hu cL (by simp);have jQ:ei w g (splice z off [])=w:=by
   have:splice z off []=z:=by simp [splice]
   rw [this];exact setRow_self w g _ 5 (0,0) ow
  rw [jQ];simpa [goInt] using bw
 ·obtain rfl:=hd h0;obtain⟨b,o2,rfl,hc⟩:=hb.2.2.2.2 h0;have bw:=run_copy_row (P:=P) w dT sT ty 5 g off dLen dCap ⟨b,o2,none⟩ l.length sCap _ 5 (l.map (Value.int .u8)) hu cL ow (by simp [Nat.min_eq_left hl]) ?_ (by simpa using dc) (dE l)
  ·simpa [goInt,ei,splice,List.map_take,List.map_drop] using bw
  ·intro j v hj;have mG:j<l.length:=by
    rcases Nat.lt_or_ge j l.length with h1 | h1
    ·exact h1
    ·rw [List.getElem?_eq_none (by simpa using h1)] at hj;cases hj
   have:=hc j mG;simp [mG] at hj;subst hj;rw [addr_add];simpa [List.getD,mG] using this
theorem bN{z l:List Int}{off:Nat}(hz:bj z)(hl:bj l):bj (splice z off l):=by
 intro c hc;unfold splice at hc;rcases zMa hc with h | h
 ·exact hz c (List.mem_of_mem_take h)
 ·rcases zMa h with h | h
  ·exact hl c h
  ·exact hz c (List.mem_of_mem_drop h)
theorem Qf{P:Program}{t:TypeId}(hu:P.underlying t=some (.slice 5))(cL:(P.info? 5).map (·.size)=some 1)(g c d:Nat)(h:c+d=32) :
  ∃ dp,(∀ w',(Instr.slice t (.slice (some ⟨g,0,none⟩) 32 32) (some (.int .i64 c)) none none).run P w'=.ok (.slice dp d d) w')/\(0<d->dp=some ⟨g,c,none⟩):=by
 have he:=kx hu;refine⟨if 32=c then some ⟨g,0,none⟩ else some ⟨g,c,none⟩,fun w'=>?_,fun hd=>by rw [if_neg (by omega)]⟩;rw [run_slice_l (P:=P) (w:=w') t (some ⟨g,0,none⟩) 32 32 (by rw [he];exact hu) .i64 c (by omega) (by omega),he,eK w' cL];have hd:d=32-c:=by omega
 subst hd;simp [Result.andThen,sliced,Addr.add];split <;> simp <;> omega
theorem nD{P:Program}{ops:Array Oper}{o:Oper}{a:Act}{w:World}{K:Act->World->Prop}{Q:Exit->Act->World->Prop}{E:Prop}(pZ:o.guard=none)(d s:Operand)(dT sT:TypeId)
  (ho:o.op=.call { callee:=.builtin .copy,args:=#[d,s],argTypes:=#[dT,sT]}) (v1 v2:Value) (hd:a.eval d=v1) (hs:a.eval s=v2) (v:Value) (w':World)
  (bw:(Builtin.copy_ #[dT,sT] o.type #[v1,v2]).run P w=.ok v w') (h:K (a.put o.dst v) w') :
  if Region.wanted o (yielded ops a.tmps)=true then Oper.wp P o a w K Q else E:=by
 have hw:Region.wanted o (yielded ops a.tmps)=true:=by simp [Region.wanted,pZ]
 rw [if_pos hw];unfold Oper.wp;simp [execOp,ho,resolve,invoke,builtin,hd,hs,bw,Result.andThen];exact h
theorem j4(s:Int)(w:World)(h1:1<=s)(h2:s<=4) :
  Calls Tryz.prog 163 #[.int .i64 s] w fun e w'=>e=.returned (.bool true)/\w=w':=by
 go_enter Tryz.func163,Tryz.ntmps163
 go_wp2;go_ret;exact⟨rfl,rfl⟩
def nS(s:Int):Int:=if s=1 then 255 else if s=2 then 65535 else if s=3 then 16777215 else 4294967295
theorem pA(s:Int)(w:World)(h1:1<=s)(h2:s<=4) :
  Calls Tryz.prog 164 #[.int .i64 s] w fun e w'=>e=.returned (.int .i64 (nS s))/\w=w':=by
 rcases (show s=1\/s=2\/s=3\/s=4 from by omega) with rfl | rfl | rfl | rfl
 all_goals
  go_enter Tryz.func164,Tryz.ntmps164
  go_wp2;go_ret;exact⟨rfl,rfl⟩
theorem xN(a:Option Addr)(len cap:Nat)(at' s:Int)(w:World)(hl:len<=140737488355328)(h1:1<=s)(h2:s<=4)(h3:0<=at')(h4:at'<=len-s) :
  Calls Tryz.prog 165 #[.slice a len cap,.int .i64 at',.int .i64 s] w fun e w'=>e=.returned (.bool true)/\w=w':=by
 go_enter Tryz.func165,Tryz.ntmps165
 go_wp2;go_ret;exact⟨rfl,rfl⟩
def mA(c:Int):Bool:=decide (97<=c/\c<=122)
theorem uA(c:Int)(w:World) :
  Calls Tryz.prog 151 #[.int .u8 c] w fun e w'=>e=.returned (.bool (mA c))/\w=w':=by
 by_cases h1:97<=c
 ·by_cases h2:c<=122
  ·have hl:mA c=true:=by simp [mA,h1,h2]
   rw [hl];clear hl;go_enter Tryz.func151,Tryz.ntmps151
   go_wp2;go_ret;exact⟨rfl,rfl⟩
  ·have hl:mA c=false:=by simp [mA];omega
   rw [hl];clear hl;go_enter Tryz.func151,Tryz.ntmps151
   go_wp2;go_ret;exact⟨rfl,rfl⟩
 ·have hl:mA c=false:=by simp [mA];omega
  rw [hl];clear hl;go_enter Tryz.func151,Tryz.ntmps151
  go_wp2;go_ret;exact⟨rfl,rfl⟩
theorem FC(q:Nat)(s:ByteArray)(i:Nat)(w:World)(hs:s.size<=maxLen)(hi:i<s.size)(hq:w.cell? ⟨q,0,none⟩=some (.string s)) :
  Calls Tryz.prog 150 #[.int .i64 i,.pointer (some ⟨q,0,none⟩)] w fun e w'=>e=.returned (.bool (!mA ((gQ s).getD i 0)))/\w=w':=by
 unfold maxLen at hs;rw [QZ s i hi];go_enter Tryz.func150,Tryz.ntmps150
 go_wp2_with (go_at_call 151;refine(uA _ _).mono ?_;rintro e w' ⟨rfl,rfl⟩)
 go_ret;exact⟨rfl,rfl⟩
theorem Bs.at{w:World}{a:Option Addr}{cap:Nat}{l:List Int}(hb:Bs w a cap l)(i:Nat)(hi:i<l.length) :
  ∃ b off,a=some ⟨b,off,none⟩/\w.cell? ⟨b,off+i,none⟩=some (.int .u8 (l.getD i 0)):=by
 obtain⟨b,off,rfl,hc⟩:=hb.2.2.2.2 (by intro h;subst h;simp at hi);exact⟨b,off,rfl,hc i hi⟩
theorem Gl(q:Nat)(a:Option Addr)(cap:Nat)(l:List Int)(i:Nat)(w:World)(hb:Bs w a cap l)(hi:i<l.length)(hq:w.cell? ⟨q,0,none⟩=some (.slice a l.length cap)) :
  Calls Tryz.prog 221 #[.int .i64 i,.pointer (some ⟨q,0,none⟩)] w fun e w'=>e=.returned (.bool (!mA (l.getD i 0)))/\w=w':=by
 have hl:l.length<=140737488351232:=hb.2.2.1;obtain⟨b,off,rfl,bk⟩:=hb.at i hi;clear hb;generalize l.getD i 0=c at *;go_enter Tryz.func221,Tryz.ntmps221
 go_wp2_with (go_at_call 151;refine(uA _ _).mono ?_;rintro e w' ⟨rfl,rfl⟩)
 go_ret;exact⟨rfl,rfl⟩
theorem Gk(q:Nat)(a:Option Addr)(cap:Nat)(l:List Int)(i:Nat)(w:World)(hb:Bs w a cap l)(hi:i<l.length)(hq:w.cell? ⟨q,0,none⟩=some (.slice a l.length cap)) :
  Calls Tryz.prog 222 #[.int .i64 i,.pointer (some ⟨q,0,none⟩)] w fun e w'=>e=.returned (.bool (l.getD i 0 != 0))/\w=w':=by
 have hl:l.length<=140737488351232:=hb.2.2.1;obtain⟨b,off,rfl,bk⟩:=hb.at i hi;clear hb;generalize l.getD i 0=c at *;go_enter Tryz.func222,Tryz.ntmps222
 go_wp2;go_ret;exact⟨rfl,rfl⟩
theorem Rb(q r:Nat)(a a':Option Addr)(cap cap':Nat)(l m:List Int)(i:Nat)(w:World)(hb:Bs w a cap l)(tp:Bs w a' cap' m)(hi:i<l.length)(hi':i<m.length)
  (hq:w.cell? ⟨q,0,none⟩=some (.slice a l.length cap)) (hr:w.cell? ⟨r,0,none⟩=some (.slice a' m.length cap')) :
  Calls Tryz.prog 155 #[.int .i64 i,.pointer (some ⟨q,0,none⟩),.pointer (some ⟨r,0,none⟩)] w fun e w'=>e=.returned (.bool (l.getD i 0 != m.getD i 0))/\∃ n,w'=w.drewN n:=by
 have hl:l.length<=140737488351232:=hb.2.2.1;have hm:m.length<=140737488351232:=tp.2.2.1;obtain⟨b,off,rfl,bk⟩:=hb.at i hi;obtain⟨b',off',rfl,zlr⟩:=tp.at i hi';clear hb tp;generalize l.getD i 0=c at *;generalize m.getD i 0=d at *;go_enter Tryz.func155,Tryz.ntmps155
 go_wp2;go_quiet (fail)
 go_wp2;go_ret;exact⟨rfl,_,rfl⟩
theorem Bs.drewN{w:World}{a:Option Addr}{cap:Nat}{l:List Int}(hb:Bs w a cap l)(n:Nat):Bs (w.drewN n) a cap l:=hb
def cF(f:Nat->Bool)(n i:Nat):Prop:=i<=n/\(∀ j,j<i->f j=false)/\(i<n->f i=true)
theorem cF.unique{f:Nat->Bool}{n i j:Nat}(hi:cF f n i)(hj:cF f n j):i=j:=by
 rcases Nat.lt_trichotomy i j with h | h | h
 ·have h1:=hj.2.1 i h;have h2:=hi.2.2 (by have:=hj.1;omega);rw [h1] at h2;cases h2
 ·exact h
 ·have h1:=hi.2.1 j h;have h2:=hj.2.2 (by have:=hi.1;omega);rw [h1] at h2;cases h2
theorem cF.step{f:Nat->Bool}{k:Nat}(h:∀ j,j<k->f j=false)(hk:f k=false):∀ j,j<k+1->f j=false:=by
 intro j hj;rcases Nat.lt_or_ge j k with h1 | h1
 ·exact h j h1
 ·obtain rfl:j=k:=by omega
  exact hk
theorem Cw(q:Nat)(s:ByteArray)(w:World)(hs:s.size<=140737488351232)(hq:w.cell? ⟨q,0,none⟩=some (.string s)) :
  Calls Tryz.prog 149 #[.int .i64 (s.size:Nat),.func (.func 150) #[] #[.pointer (some ⟨q,0,none⟩)]] w fun e w'=>∃ i:Nat,e=.returned (.int .i64 i)/\cF (fun j=>(!mA ((gQ s).getD j 0))) s.size i/\w=w':=by
 skip
 go_enter Tryz.func149,Tryz.ntmps149
 go_wp2
 go_loop [5] (fun i=>∃ k:Nat,k<=s.size/\i=.int .i64 k/\∀ j,j<k->(!mA ((gQ s).getD j 0))=false) (fun i=>s.size-(intOf i).toNat)
 case atStart=>exact⟨0,by omega,rfl,fun j hj=>absurd hj (Nat.not_lt_zero j)⟩
 case round =>
  obtain⟨k,hk,rfl,bB⟩:=hrel;have HA:Hid (∀ j,j<k->(!mA ((gQ s).getD j 0))=false):=bB;clear bB;by_cases aM:k<s.size
  ·have dj:=FC q s k w (by unfold maxLen;omega) aM hq;have HC:=af dj;clear dj;cases hb:(!mA ((gQ s).getD k 0))
   ·have HB:=af hb;rw [hb] at HC;clear hb;go_wp2_with (go_at_call 150;refine(ae HC).mono ?_;rintro e w' ⟨rfl,rfl⟩)
    go_round
    case rel=>exact⟨k+1,by omega,by go_num,cF.step HA.out (ae HB)⟩
    case measure=>simp [intOf];omega
   ·have HB:=af hb;rw [hb] at HC;clear hb;go_wp2_with (go_at_call 150;refine(ae HC).mono ?_;rintro e w' ⟨rfl,rfl⟩)
    go_ret;exact⟨k,rfl,⟨by omega,HA.out,fun _=>ae HB⟩,rfl⟩
  ·go_wp2;go_ret;exact⟨k,rfl,⟨by omega,HA.out,fun h=>absurd h aM⟩,rfl⟩
theorem Bx(q:Nat)(a:Option Addr)(cap:Nat)(l:List Int)(w:World)(aX:Bs w a cap l)(hq:w.cell? ⟨q,0,none⟩=some (.slice a l.length cap)) :
  Calls Tryz.prog 149 #[.int .i64 (l.length:Nat),.func (.func 221) #[] #[.pointer (some ⟨q,0,none⟩)]] w fun e w'=>∃ i:Nat,e=.returned (.int .i64 i)/\cF (fun j=>(!mA (l.getD j 0))) l.length i/\w=w':=by
 have hl:l.length<=140737488351232:=aX.2.2.1;go_enter Tryz.func149,Tryz.ntmps149
 go_wp2
 go_loop [5] (fun i=>∃ k:Nat,k<=l.length/\i=.int .i64 k/\∀ j,j<k->(!mA (l.getD j 0))=false) (fun i=>l.length-(intOf i).toNat)
 case atStart=>exact⟨0,by omega,rfl,fun j hj=>absurd hj (Nat.not_lt_zero j)⟩
 case round =>
  obtain⟨k,hk,rfl,bB⟩:=hrel;have HA:Hid (∀ j,j<k->(!mA (l.getD j 0))=false):=bB;clear bB;by_cases aM:k<l.length
  ·have dj:=Gl q a cap l k w aX aM hq;have HC:=af dj;clear dj;cases hb:(!mA (l.getD k 0))
   ·have HB:=af hb;rw [hb] at HC;clear hb;go_wp2_with (go_at_call 221;refine(ae HC).mono ?_;rintro e w' ⟨rfl,rfl⟩)
    go_round
    case rel=>exact⟨k+1,by omega,by go_num,cF.step HA.out (ae HB)⟩
    case measure=>simp [intOf];omega
   ·have HB:=af hb;rw [hb] at HC;clear hb;go_wp2_with (go_at_call 221;refine(ae HC).mono ?_;rintro e w' ⟨rfl,rfl⟩)
    go_ret;exact⟨k,rfl,⟨by omega,HA.out,fun _=>ae HB⟩,rfl⟩
  ·go_wp2;go_ret;exact⟨k,rfl,⟨by omega,HA.out,fun h=>absurd h aM⟩,rfl⟩
theorem Bw(q:Nat)(a:Option Addr)(cap:Nat)(l:List Int)(w:World)(aX:Bs w a cap l)(hq:w.cell? ⟨q,0,none⟩=some (.slice a l.length cap)) :
  Calls Tryz.prog 149 #[.int .i64 (l.length:Nat),.func (.func 222) #[] #[.pointer (some ⟨q,0,none⟩)]] w fun e w'=>∃ i:Nat,e=.returned (.int .i64 i)/\cF (fun j=>(l.getD j 0 != 0)) l.length i/\w=w':=by
 have hl:l.length<=140737488351232:=aX.2.2.1;go_enter Tryz.func149,Tryz.ntmps149
 go_wp2
 go_loop [5] (fun i=>∃ k:Nat,k<=l.length/\i=.int .i64 k/\∀ j,j<k->(l.getD j 0 != 0)=false) (fun i=>l.length-(intOf i).toNat)
 case atStart=>exact⟨0,by omega,rfl,fun j hj=>absurd hj (Nat.not_lt_zero j)⟩
 case round =>
  obtain⟨k,hk,rfl,bB⟩:=hrel;have HA:Hid (∀ j,j<k->(l.getD j 0 != 0)=false):=bB;clear bB;by_cases aM:k<l.length
  ·have dj:=Gk q a cap l k w aX aM hq;have HC:=af dj;clear dj;cases hb:(l.getD k 0 != 0)
   ·have HB:=af hb;rw [hb] at HC;clear hb;go_wp2_with (go_at_call 222;refine(ae HC).mono ?_;rintro e w' ⟨rfl,rfl⟩)
    go_round
    case rel=>exact⟨k+1,by omega,by go_num,cF.step HA.out (ae HB)⟩
    case measure=>simp [intOf];omega
   ·have HB:=af hb;rw [hb] at HC;clear hb;go_wp2_with (go_at_call 222;refine(ae HC).mono ?_;rintro e w' ⟨rfl,rfl⟩)
    go_ret;exact⟨k,rfl,⟨by omega,HA.out,fun _=>ae HB⟩,rfl⟩
  ·go_wp2;go_ret;exact⟨k,rfl,⟨by omega,HA.out,fun h=>absurd h aM⟩,rfl⟩
def fstFrom(f:Nat->Bool):Nat->Nat->Nat
 | 0,i=>i
 | k+1,i=>if f i then i else fstFrom f k (i+1)
def tr(f:Nat->Bool)(n:Nat):Nat:=fstFrom f n 0
theorem Cr(f:Nat->Bool)(n:Nat):∀ k i,i+k=n->(∀ j,j<i->f j=false)->cF f n (fstFrom f k i):=by
 intro k;induction k with
 | zero=>intro i hi h;exact⟨by simp [fstFrom];omega,h,fun h'=>by simp [fstFrom] at h';omega⟩
 | succ k ih =>
  intro i hi h;unfold fstFrom;by_cases hf:f i=true
  ·rw [if_pos hf];exact⟨by omega,h,fun _=>hf⟩
  ·rw [if_neg hf];exact ih (i+1) (by omega) (cF.step h (by simpa using hf))
theorem cf(f:Nat->Bool)(n:Nat):cF f n (tr f n):=Cr f n n 0 (by omega) (fun j hj=>absurd hj (Nat.not_lt_zero j))
theorem Bv(q r:Nat)(a a':Option Addr)(cap cap' N:Nat)(l m:List Int)(w:World)(aX:Bs w a cap l)(Gf:Bs w a' cap' m)(hN1:N<=l.length)(hN2:N<=m.length)
  (hq:w.cell? ⟨q,0,none⟩=some (.slice a l.length cap)) (hr:w.cell? ⟨r,0,none⟩=some (.slice a' m.length cap')) :
  Calls Tryz.prog 149 #[.int .i64 N,.func (.func 155) #[] #[.pointer (some ⟨q,0,none⟩),.pointer (some ⟨r,0,none⟩)]] w fun e w'=>∃ i:Nat,e=.returned (.int .i64 i)/\cF (fun j=>(l.getD j 0 != m.getD j 0)) N i/\∃ n,w'=w.drewN n:=by
 have hl:l.length<=140737488351232:=aX.2.2.1;go_enter Tryz.func149,Tryz.ntmps149
 go_wp2;go_loopw [5] (fun i wr=>∃ k n:Nat,k<=N/\i=.int .i64 k/\wr=w.drewN n/\∀ j,j<k->(l.getD j 0 != m.getD j 0)=false) (fun i _=>N-(intOf i).toNat)
 case atStart=>exact⟨0,0,by omega,rfl,rfl,fun j hj=>absurd hj (Nat.not_lt_zero j)⟩
 case round =>
  obtain⟨k,n,hk,rfl,rfl,bB⟩:=hrel;have HA:Hid (∀ j,j<k->(l.getD j 0 != m.getD j 0)=false):=bB;clear bB;by_cases aM:k<N
  ·have dj:=Rb q r a a' cap cap' l m k (w.drewN n) (aX.drewN n) (Gf.drewN n) (by omega) (by omega) hq hr;have HC:=af dj;clear dj;cases hb:(l.getD k 0 != m.getD k 0)
   ·have HB:=af hb;rw [hb] at HC;clear hb;go_wp2_with (go_at_call 155;refine(ae HC).mono ?_;rintro e w' ⟨rfl,n',rfl⟩)
    go_roundw
    case rel=>exact⟨k+1,_,by omega,by go_num,rfl,cF.step HA.out (ae HB)⟩
    case measure=>simp [intOf];omega
   ·have HB:=af hb;rw [hb] at HC;clear hb;go_wp2_with (go_at_call 155;refine(ae HC).mono ?_;rintro e w' ⟨rfl,n',rfl⟩)
    go_ret;exact⟨k,rfl,⟨by omega,HA.out,fun _=>ae HB⟩,_,rfl⟩
  ·go_wp2;go_ret;exact⟨k,rfl,⟨by omega,HA.out,fun h=>absurd h aM⟩,_,rfl⟩
theorem dQ:(Tryz.prog.info? 5).map (fun i=>(i.zero,i.size,i.bytes))=some (some (.int .u8 0),1,1):=by kernel_rfl
theorem aN:(Tryz.prog.info? 5).map (·.size)=some 1:=by kernel_rfl
theorem ue(a:Option Addr)(cap:Nat)(l:List Int)(p s:Nat)(n:Int)(w:World)(aX:Bs w a cap l)(h1:1<=s)(h2:s<=4)(h3:0<=n)(h4:¬ nS s<n)(h:p+s<=l.length) :
  Calls Tryz.prog 102 #[.slice a l.length cap,.int .i64 p,.int .i64 n,.int .i64 s] w fun e w'=>∃ g,e=.returned (.tuple #[.slice (some ⟨g,0,none⟩) l.length l.length,.nilIface])/\w.heap.size<=g/\fH w' g (putK l p n s)/\Below w.heap.size w w':=by
 have hl:l.length<=140737488351232:=aX.2.2.1;obtain⟨i0,hi,cY,dw,dz⟩:=info_parts dQ;have nj:∀ w1,fH w1 w.heap.size (ag l.length)->Bs w1 a cap l->Sem.run Tryz.prog (Builtin.copy_ #[30,30] 3 #[.slice (some ⟨w.heap.size,0,none⟩) l.length l.length,.slice a l.length cap]) w1=.ok (.int .i64 l.length) (ei w1 w.heap.size l) :=fun w1 h5 h6=>mS w1 _ _ _ zu30 aN _ _ _ _ _ l (aj _) h5 h6
 go_enter Tryz.func102,Tryz.ntmps102
 go_wp2_with (first
  | (go_at_call 163;refine(j4 _ _ (by omega) (by omega)).mono ?_;rintro e w' ⟨rfl,rfl⟩)
  | (go_at_call 164;refine(pA _ _ (by omega) (by omega)).mono ?_;rintro e w' ⟨rfl,rfl⟩)
  | (go_at_call 165;refine(xN _ _ _ _ _ _ (by omega) (by omega) (by omega) (by omega) (by omega)).mono ?_;rintro e w' ⟨rfl,rfl⟩)
  | (at_make;refine bE rfl _ _ 30 rfl i0 zu30 hi cY dw dz _ _ _ _ l.length rfl rfl rfl rfl (by omega) ?_;intro w1 wJ gP ay;have jN:=aX.below ay))
 go_loopw [39] (fun i wr=>∃ k:Nat,k<=s/\i=.int .i64 k/\fH wr w.heap.size (putK l p n k)/\Below w.heap.size w wr) (fun i _=>s-(intOf i).toNat)
 case atStart=>exact⟨0,by omega,rfl,ix wJ l,dW l ay zNr⟩
 case round =>
  obtain⟨k,hk,rfl,hblk,ao⟩:=hrel;by_cases aM:k<s
  ·have hfz:=hblk.frozen (p+k);have mH:=hblk.cell (p+k) (by rw [cQ];omega);have HB:Hid (fH wr w.heap.size (putK l p n k)):=hblk;clear hblk;go_wp2;go_roundw
   case rel=>exact⟨k+1,by omega,by go_num,by show fH _ _ _;exact HB.out.set (p+k) _,ao.setCell zNr _⟩
   case measure=>simp [intOf];omega
  ·obtain rfl:k=s:=by omega
   go_wp2;go_ret2;exact⟨_,rfl,zNr,hblk,ao⟩
theorem IJ(s:ByteArray)(w:World)(hs:s.size<=140737488351232)(h:¬ (1<=s.size/\s.size<=8)) :
  Calls Tryz.prog 85 #[.string s] w fun e w'=>e=.returned (.tuple #[.slice none 0 0,.iface 81 (.int .i64 2)])/\Below w.heap.size w w':=by
 by_cases h1:1<=s.size
 ·have h2:¬ s.size<=8:=by omega
  clear h;go_enter Tryz.func85,Tryz.ntmps85
  go_wp2;go_ret2;exact⟨rfl,zBr.alloc zNr _⟩
 ·clear h;go_enter Tryz.func85,Tryz.ntmps85
  go_wp2;go_ret2;exact⟨rfl,zBr.alloc zNr _⟩
theorem oI(q:Nat)(s:ByteArray)(w:World)(hs:s.size<=140737488351232)(hq:w.cell? ⟨q,0,none⟩=some (.string s))(i:Nat)(hi:cF (fun j=>(!mA ((gQ s).getD j 0))) s.size i) :
  Calls Tryz.prog 149 #[.int .i64 s.size,.func (.func 150) #[] #[.pointer (some ⟨q,0,none⟩)]] w fun e w'=>e=.returned (.int .i64 i)/\w'=w :=
 (Cw q s w hs hq).mono fun e w' ⟨k,he,hk,hw⟩=>⟨by rw [he,hk.unique hi],hw.symm⟩
theorem L9(s:ByteArray)(w:World)(h1:1<=s.size)(h2:s.size<=8)(i:Nat)(hi:cF (fun j=>(!mA ((gQ s).getD j 0))) s.size i)(aM:i<s.size) :
  Calls Tryz.prog 85 #[.string s] w fun e w'=>e=.returned (.tuple #[.slice none 0 0,.iface 81 (.int .i64 2)])/\Below w.heap.size w w':=by
 have HI:=af hi;clear hi;go_enter Tryz.func85,Tryz.ntmps85
 go_wp2;go_quiet ((go_at_call 149;exact Calls.quiet_of_same (oI _ s _ (by omega) (by simp) i (ae HI))))
 go_wp2;go_ret2;exact⟨rfl,below_drewN (zBr.alloc zNr _) _⟩
def bf(s:ByteArray):List Int:=gQ s++(ag 8).drop s.size
theorem qA(s:ByteArray)(w:World)(h1:1<=s.size)(h2:s.size<=8)(hi:cF (fun j=>(!mA ((gQ s).getD j 0))) s.size s.size) :
  Calls Tryz.prog 85 #[.string s] w fun e w'=>∃ g,e=.returned (.tuple #[.slice (some ⟨g,0,none⟩) 8 8,.nilIface])/\w.heap.size<=g/\fH w' g (bf s)/\Below w.heap.size w w':=by
 have HI:=af hi;clear hi;obtain⟨i0,hi,cY,dw,dz⟩:=info_parts dQ;have nj:∀ w1 g,fH w1 g (ag 8)->Sem.run Tryz.prog (Builtin.copy_ #[30,9] 3 #[.slice (some ⟨g,0,none⟩) 8 8,.string s]) w1=.ok (.int .i64 s.size) (ei w1 g (bf s)) :=fun w1 g h5=>Fq w1 _ _ _ zu30 aN g 8 8 s _ (aj _) h5 h2
 go_enter Tryz.func85,Tryz.ntmps85
 go_wp2;go_quiet ((go_at_call 149;exact Calls.quiet_of_same (oI _ s _ (by omega) (by simp) s.size (ae HI))))
 go_wp2_with (at_make;refine bE rfl _ _ 30 rfl i0 zu30 hi cY dw dz _ _ _ _ 8 rfl rfl rfl rfl (by omega) ?_;intro w1 wJ gP ay;have hq1:w1.cell? ⟨w.heap.size,0,none⟩=some (.string s):=(by rw [ay.cell (by simp)];simp);have gO:fH w1 (w.heap.size+1) (ag 8):=(by simpa using wJ))
 go_ret2;have aK:Below w.heap.size w w1:=(below_drewN (zBr.alloc zNr _) _).trans (ay.mono (by simp));exact⟨_,rfl,by omega,ix gO _,dW _ aK (by omega)⟩
theorem bD(s:ByteArray)(h:s.size<=8):(bf s).length=8:=by simp [bf,gX,aj];omega
theorem jc(s:ByteArray):bj (bf s):=by
 intro z hz;rcases zMa hz with h | h
 ·exact YZ s z h
 ·exact bW 8 z (List.mem_of_mem_drop h)
theorem JY(a:Option Addr)(len cap:Nat)(w:World)(hl:len<=140737488351232)(h:¬ len=8) :
  Calls Tryz.prog 162 #[.slice a len cap] w fun e w'=>e=.returned (.tuple #[.string ByteArray.empty,.iface 81 (.int .i64 3)])/\Below w.heap.size w w':=by
 have aO:((len:Int) != 8)=true:=by simp;omega
 go_enter Tryz.func162,Tryz.ntmps162
 go_wp2;go_ret2;exact⟨rfl,zBr.alloc zNr _⟩
theorem jH(q:Nat)(a:Option Addr)(cap n:Nat)(l:List Int)(w:World)(hn:l.length=n)(aX:Bs w a cap l)(hq:w.cell? ⟨q,0,none⟩=some (.slice a n cap))(i:Nat)(hi:cF (fun j=>(!mA (l.getD j 0))) l.length i) :
  Calls Tryz.prog 149 #[.int .i64 n,.func (.func 221) #[] #[.pointer (some ⟨q,0,none⟩)]] w fun e w'=>e=.returned (.int .i64 i)/\w=w':=by
 subst hn;exact(Bx q a cap l w aX hq).mono fun e w' ⟨k,he,hk,hw⟩=>⟨by rw [he,hk.unique hi],hw⟩
theorem jG(q:Nat)(a:Option Addr)(cap n:Nat)(l:List Int)(w:World)(hn:l.length=n)(aX:Bs w a cap l)(hq:w.cell? ⟨q,0,none⟩=some (.slice a n cap))(i:Nat)(hi:cF (fun j=>(l.getD j 0 != 0)) l.length i) :
  Calls Tryz.prog 149 #[.int .i64 n,.func (.func 222) #[] #[.pointer (some ⟨q,0,none⟩)]] w fun e w'=>e=.returned (.int .i64 i)/\w=w':=by
 subst hn;exact(Bw q a cap l w aX hq).mono fun e w' ⟨k,he,hk,hw⟩=>⟨by rw [he,hk.unique hi],hw⟩
theorem Gi(a:Option Addr)(cap:Nat)(l:List Int)(w:World)(aX:Bs w a cap l)(h8:l.length=8)(i z:Nat)(hi:cF (fun j=>(!mA (l.getD j 0))) l.length i)(hz:cF (fun j=>((l.drop i).getD j 0 != 0)) (l.drop i).length z)(h0:i=0) :
  Calls Tryz.prog 162 #[.slice a l.length cap] w fun e w'=>e=.returned (.tuple #[.string ByteArray.empty,.iface 81 (.int .i64 2)])/\Below w.heap.size w w':=by
 have hi8:i<=l.length:=hi.1;have hl:l.length<=140737488351232:=by omega
 have GL:((l.length:Int) != 8)=false:=by simp;omega
 obtain⟨a2,tE,fD⟩:=db zu30 aN aX i (by omega);have iu:((i:Int) == 0)=true:=by simp [h0]
 have H0:=af h0;clear h0;have HI:=af hi;have HZ:=af hz;have HL:Hid ((l.drop i).length=l.length-i):=af (by simp);clear hi hz h8;go_enter Tryz.func162,Tryz.ntmps162
 go_wp2_with fail
 refine(jH _ a cap l.length l _ rfl (aX.below (zBr.alloc zNr _)) (by simp) i (ae HI)).mono ?_;rintro e w1 ⟨rfl,rfl⟩;go_wp2_with fail
 refine(jG _ a2 (cap-i) (l.length-i) (l.drop i) _ (ae HL) (fD.below ((zBr.alloc zNr _).alloc (by simp) _)) (by simp) z (ae HZ)).mono ?_;rintro e w1 ⟨rfl,rfl⟩;go_wp2;go_ret2;exact⟨rfl,((zBr.alloc zNr _).alloc (by simp) _)⟩
theorem Gj(a:Option Addr)(cap:Nat)(l:List Int)(w:World)(aX:Bs w a cap l)(h8:l.length=8)(i z:Nat)(hi:cF (fun j=>(!mA (l.getD j 0))) l.length i)(hz:cF (fun j=>((l.drop i).getD j 0 != 0)) (l.drop i).length z)(h0:¬ i=0)(aM:z<l.length-i) :
  Calls Tryz.prog 162 #[.slice a l.length cap] w fun e w'=>e=.returned (.tuple #[.string ByteArray.empty,.iface 81 (.int .i64 2)])/\Below w.heap.size w w':=by
 have hi8:i<=l.length:=hi.1;have hl:l.length<=140737488351232:=by omega
 have GL:((l.length:Int) != 8)=false:=by simp;omega
 obtain⟨a2,tE,fD⟩:=db zu30 aN aX i (by omega);have iu:((i:Int) == 0)=false:=by simp [h0]
 have H0:=af h0;clear h0;have HI:=af hi;have HZ:=af hz;have HL:Hid ((l.drop i).length=l.length-i):=af (by simp);clear hi hz h8;go_enter Tryz.func162,Tryz.ntmps162
 go_wp2_with fail
 refine(jH _ a cap l.length l _ rfl (aX.below (zBr.alloc zNr _)) (by simp) i (ae HI)).mono ?_;rintro e w1 ⟨rfl,rfl⟩;go_wp2_with fail
 refine(jG _ a2 (cap-i) (l.length-i) (l.drop i) _ (ae HL) (fD.below ((zBr.alloc zNr _).alloc (by simp) _)) (by simp) z (ae HZ)).mono ?_;rintro e w1 ⟨rfl,rfl⟩;go_wp2;go_ret2;exact⟨rfl,((zBr.alloc zNr _).alloc (by simp) _)⟩
theorem x9(a:Option Addr)(cap:Nat)(l:List Int)(w:World)(aX:Bs w a cap l)(h8:l.length=8)(i z:Nat)(hi:cF (fun j=>(!mA (l.getD j 0))) l.length i)(hz:cF (fun j=>((l.drop i).getD j 0 != 0)) (l.drop i).length z)(h0:¬ i=0)(tJ:l.length-i<=z) :
  Calls Tryz.prog 162 #[.slice a l.length cap] w fun e w'=>e=.returned (.tuple #[.string (strOf (l.take i)),.nilIface])/\Below w.heap.size w w':=by
 have hi8:i<=l.length:=hi.1;have hl:l.length<=140737488351232:=by omega
 have GL:((l.length:Int) != 8)=false:=by simp;omega
 obtain⟨a2,tE,fD⟩:=db zu30 aN aX i (by omega);have iu:((i:Int) == 0)=false:=by simp [h0]
 obtain⟨a3,PC,j7⟩:=jm zu30 aN aX i (by omega);have hcv:=fun o1 o2=>fU (P:=Tryz.prog) (t:=30) (e:=9) zu30 zu5 zu9 (j7.below (w':=(w.alloc o1).alloc o2) ((zBr.alloc zNr _).alloc (by simp) _))
 rw [show(l.take i).length=i from by simp;omega] at hcv;have H0:=af h0;clear h0;have HI:=af hi;have HZ:=af hz;have HL:Hid ((l.drop i).length=l.length-i):=af (by simp);clear hi hz h8;go_enter Tryz.func162,Tryz.ntmps162
 go_wp2_with fail
 refine(jH _ a cap l.length l _ rfl (aX.below (zBr.alloc zNr _)) (by simp) i (ae HI)).mono ?_;rintro e w1 ⟨rfl,rfl⟩;go_wp2_with fail
 refine(jG _ a2 (cap-i) (l.length-i) (l.drop i) _ (ae HL) (fD.below ((zBr.alloc zNr _).alloc (by simp) _)) (by simp) z (ae HZ)).mono ?_;rintro e w1 ⟨rfl,rfl⟩;go_wp2;go_ret2;exact⟨rfl,((zBr.alloc zNr _).alloc (by simp) _)⟩
theorem zbX(b off cap:Nat)(l:List Int)(p s:Nat)(w:World)(hb:bj l)(hc:l.length<=cap)(hm:l.length<=140737488351232)(h1:1<=s)(h2:s<=4)(h:p+s<=l.length)
  (bk:∀ i,i<l.length->w.cell? ⟨b,off+i,none⟩=some (.int .u8 (l.getD i 0))) :
  Calls Tryz.prog 128 #[.slice (some ⟨b,off,none⟩) l.length cap,.int .i64 p,.int .i64 s] w fun e w'=>e=.returned (.tuple #[.int .i64 (bz l p s),.nilIface])/\w=w':=by
 go_enter Tryz.func128,Tryz.ntmps128
 go_wp2_with (first | (go_at_call 163;refine(j4 _ _ (by omega) (by omega)).mono ?_;rintro e w' ⟨rfl,rfl⟩) | (go_at_call 165;refine(xN _ _ _ _ _ _ (by omega) (by omega) (by omega) (by omega) (by omega)).mono ?_;rintro e w' ⟨rfl,rfl⟩))
 go_loop [8,21] (fun n i=>∃ k:Nat,k<=s/\i=.int .i64 k/\n=.int .i64 (bz l p k)) (fun _ i=>s-(intOf i).toNat)
 case atStart=>exact⟨0,by omega,rfl,by simp [bz,numOf]⟩
 case round =>
  obtain⟨k,hk,rfl,rfl⟩:=hrel;have sE:=PV l hb p k (by omega);by_cases aM:k<s
  ·have hx:w.cell? ⟨b,off+(p+k),none⟩=some (.int .u8 (l.getD (p+k) 0)):=bk (p+k) (by omega);have hy:=hb.getD (p+k);have HS:Hid (bz l p (k+1)=bits .or .i64 (bz l p k) (wrap64 (l.getD (p+k) 0 * 2 ^ (8 * k)))):=by rw [oA l p k (by omega),zaW _ _ k (by omega) sE hy];exact rfl
   generalize l.getD (p+k) 0=c at *;generalize hn:bz l p k=n at *;clear hn;go_wp2
   go_round
   case rel=>exact⟨k+1,by omega,by go_num,by rw [HS.out]⟩
   case measure=>simp [intOf];omega
  ·obtain rfl:k=s:=by omega
   go_wp2;go_ret2;exact⟨rfl,rfl⟩
theorem jA(a:Option Addr)(cap:Nat)(l:List Int)(p s:Int)(w:World)(hb:Bs w a cap l)(h1:1<=s)(h2:s<=4)(h3:0<=p)(h4:p<=l.length-s) :
  Calls Tryz.prog 128 #[.slice a l.length cap,.int .i64 p,.int .i64 s] w fun e w'=>e=.returned (.tuple #[.int .i64 (bz l p.toNat s.toNat),.nilIface])/\w=w':=by
 obtain⟨b1,b2,b3,b4,b5⟩:=hb;obtain⟨b,off,rfl,hc⟩:=b5 (by intro h;subst h;simp at h4;omega);obtain⟨P,rfl⟩:=Int.eq_ofNat_of_zero_le h3;obtain⟨S,rfl⟩:=Int.eq_ofNat_of_zero_le (by omega:0<=s);rw [zTn,zTn];exact zbX b off cap l P S w b1 b2 b3 (by omega) (by omega) (by omega) hc
theorem rE(l:List Int)(p:Nat)(n:Int):∀ k j,j<k->p+k<=l.length->(putK l p n k).getD (p+j) 0=n / 2 ^ (8 * j) % 256:=by
 intro k;induction k with
 | zero=>intro j hj;omega
 | succ k ih =>
  intro j hj hk;have hlen:=cQ l p n k;by_cases h:j=k
  ·subst h;simp only [putK,List.getD];rw [List.getElem?_set_self (by omega)];rfl
  ·have h1:=ih j (by omega) (by omega);rw [<- h1];simp [putK,List.getD];rw [List.getElem?_set_ne (by omega)]
theorem Wm(n:Int)(h:0<=n)(k:Nat):n % 256 ^ (k+1)=n % 256 ^ k+n / 2 ^ (8 * k) % 256 * 256 ^ k:=by
 obtain⟨N,rfl⟩:=Int.eq_ofNat_of_zero_le h;have zbW:(2:Nat) ^ (8 * k)=256 ^ k:=by rw [Nat.pow_mul]
 have h1:=Nat.mod_mul (x:=N) (a:=256 ^ k) (b:=256);have h2:N % 256 ^ (k+1)=N % 256 ^ k+N / 2 ^ (8 * k) % 256 * 256 ^ k:=by rw [Nat.pow_succ,h1,zbW,Nat.mul_comm (256 ^ k)]
 have h3:((N % 256 ^ (k+1):Nat):Int)=((N % 256 ^ k+N / 2 ^ (8 * k) % 256 * 256 ^ k:Nat):Int):=congrArg Nat.cast h2;rw [Int.natCast_emod,Int.natCast_pow,Int.natCast_add,Int.natCast_mul,Int.natCast_emod,Int.natCast_emod,Int.natCast_ediv,Int.natCast_pow,Int.natCast_pow] at h3;exact h3
theorem Tk(l:List Int)(p:Nat)(n:Int)(s:Nat)(hn:0<=n)(h:p+s<=l.length):∀ k,k<=s->bz (putK l p n s) p k=n % 256 ^ k:=by
 intro k;induction k with
 | zero=>intro _;simp [bz,numOf]
 | succ k ih =>intro hk;rw [oA _ p k (by rw [cQ];omega),ih (by omega),rE l p n s k (by omega) h,Wm n hn k]
theorem zbf(s:Nat)(n:Int)(h1:1<=s)(h2:s<=4)(h:n<=nS s):n<256 ^ s:=by rcases (show s=1\/s=2\/s=3\/s=4 from by omega) with rfl | rfl | rfl | rfl <;> simp [nS] at h ⊢ <;> omega
theorem qQ(l:List Int)(p:Nat)(n:Int)(s:Nat)(h1:1<=s)(h2:s<=4)(hn:0<=n)(hm:n<=nS s)(h:p+s<=l.length):bz (putK l p n s) p s=n:=by rw [Tk l p n s hn h s zNr];exact Int.emod_eq_of_lt hn (zbf s n h1 h2 hm)
theorem bQ{l m:List Int}(h:l.length=m.length)(h2:∀ i,i<l.length->l.getD i 0=m.getD i 0):l=m:=by apply List.ext_getElem h;intro i hi hm;have:=h2 i hi;simpa [List.getD,hi,hm] using this
def gA(s:ByteArray):Prop:=1<=s.size/\s.size<=8/\cF (fun j=>(!mA ((gQ s).getD j 0))) s.size s.size
theorem lC(s:ByteArray)(w:World)(hs:s.size<=140737488351232)(h:¬ gA s) :
  Calls Tryz.prog 85 #[.string s] w fun e w'=>e=.returned (.tuple #[.slice none 0 0,.iface 81 (.int .i64 2)])/\Below w.heap.size w w':=by
 by_cases h1:1<=s.size/\s.size<=8
 ·have hf:=cf (fun j=>(!mA ((gQ s).getD j 0))) s.size;by_cases h2:tr (fun j=>(!mA ((gQ s).getD j 0))) s.size<s.size
  ·exact L9 s w h1.1 h1.2 _ hf h2
  ·have h3:tr (fun j=>(!mA ((gQ s).getD j 0))) s.size=s.size:=by have:=hf.1;omega
   rw [h3] at hf;exact absurd ⟨h1.1,h1.2,hf⟩ h
 ·exact IJ s w hs h1
theorem Ad(s:ByteArray)(j:Nat)(h:j<s.size):(bf s).getD j 0=(gQ s).getD j 0:=by
 have h':j<(gQ s).length:=by rw [gX];exact h
 simp [bf,List.getD,List.getElem?_append_left h']
theorem Af(s:ByteArray):(bf s).drop s.size=(ag 8).drop s.size:=by unfold bf;rw [List.drop_append_of_le_length (by rw [gX];exact zNr)];rw [List.drop_eq_nil_of_le (by rw [gX];exact zNr)];simp
theorem jT(n k j:Nat):((ag n).drop k).getD j 0=0:=by
 by_cases h:j<n-k
 ·simp [ag,List.getD,h]
 ·simp [ag,List.getD];rw [List.getElem?_eq_none (by simp;omega)];rfl
theorem Ae(s:ByteArray)(j:Nat)(h:s.size<=j):(bf s).getD j 0=0:=by
 have h1:(bf s).getD j 0=((bf s).drop s.size).getD (j-s.size) 0:=by simp [List.getD];rw [show s.size+(j-s.size)=j from by omega]
 rw [h1,Af,jT]
theorem ng(s:ByteArray)(h:gA s):cF (fun j=>(!mA ((bf s).getD j 0))) (bf s).length s.size:=by
 rw [bD s h.2.1];refine⟨h.2.1,fun j hj=>?_,fun _=>?_⟩
 ·have:=h.2.2.2.1 j hj
  show(!mA ((bf s).getD j 0))=false
  rw [Ad s j hj];exact this
 ·show(!mA ((bf s).getD s.size 0))=true
  rw [Ae s s.size zNr];rfl
theorem nf(s:ByteArray)(h:s.size<=8):cF (fun j=>(((bf s).drop s.size).getD j 0 != 0)) ((bf s).drop s.size).length (8-s.size):=by
 have hlen:((bf s).drop s.size).length=8-s.size:=by simp [bD s h]
 rw [hlen];refine⟨zNr,fun j hj=>?_,fun hh=>absurd hh (Nat.lt_irrefl _)⟩
 show(((bf s).drop s.size).getD j 0 != 0)=false
 rw [Af,jT];rfl
theorem td(s:ByteArray):strOf ((bf s).take s.size)=s:=by unfold bf;rw [List.take_append_of_le_length (by rw [gX];exact zNr)];rw [List.take_of_length_le (by rw [gX];exact zNr)];exact zC s
def Own(w:World)(base g cap:Nat)(l:List Int):Prop:=w.ownsRow base 5 1 (.slice (some ⟨g,0,none⟩) l.length cap) l.length (l.map (Value.int .u8))
theorem Ep(s:ByteArray)(h:s.size=0):s.toList.isEmpty=true:=by
 have he:s=ByteArray.empty:=by simpa using h
 have:=Classical.propDecidable (s=ByteArray.empty);rw [<- decide_eq_emptyBytes];exact decide_eq_true he
theorem Kb(s:ByteArray)(h:1<=s.size):s.toList.isEmpty=false:=by have:=Classical.propDecidable (s=ByteArray.empty);rw [<- decide_eq_emptyBytes];refine decide_eq_false ?_;intro he;rw [he] at h;simp at h
theorem Es(l:List Int)(n j:Nat):(l.drop n).getD j 0=l.getD (n+j) 0:=by simp [List.getD]
theorem iY(s:ByteArray)(w:World)(hs:s.size<=140737488351232)(L:List Int)(x:Int)(h:(gA s/\L=bf s/\x=0)\/(¬ gA s/\L=[]/\x=2)) :
  Calls Tryz.prog 85 #[.string s] w (Ends w L (aR x)):=by
 rcases h with ⟨hn,rfl,rfl⟩ | ⟨hn,rfl,rfl⟩
 ·refine(qA s w hn.1 hn.2.1 hn.2.2).mono fun e w' ⟨g,he,hg,hk,hb⟩=>?_
  have hlen:=bD s hn.2.1;exact⟨some ⟨g,0,none⟩,(bf s).length,by rw [hlen];exact he,hk.bs (jc s) (by rw [hlen];decide),hb⟩
 ·exact(lC s w hs hn).mono fun e w' ⟨he,hb⟩=>⟨none,0,he,eC _,hb⟩
def bU(l:List Int):Nat:=tr (fun j=>(!mA (l.getD j 0))) l.length
def lU(l:List Int)(i:Nat):Nat:=tr (fun j=>((l.drop i).getD j 0 != 0)) (l.drop i).length
def aT(l:List Int):ByteArray×Int :=if ¬ l.length=8 then (ByteArray.empty,3) else if bU l=0\/lU l (bU l)<l.length-bU l then (ByteArray.empty,2) else (strOf (l.take (bU l)),0)
theorem qS(a:Option Addr)(cap:Nat)(l:List Int)(w:World)(aX:Bs w a cap l) :
  Calls Tryz.prog 162 #[.slice a l.length cap] w fun e w'=>e=.returned (.tuple #[.string (aT l).1,aR (aT l).2])/\Below w.heap.size w w':=by
 have hl:=aX.2.2.1;by_cases h8:l.length=8
 ·have hi:=cf (fun j=>(!mA (l.getD j 0))) l.length;have hz:=cf (fun j=>((l.drop (bU l)).getD j 0 != 0)) (l.drop (bU l)).length;by_cases h0:bU l=0
  ·have e:aT l=(ByteArray.empty,2):=by unfold aT;rw [if_neg (fun h=>h h8),if_pos (Or.inl h0)]
   rw [e];exact Gi a cap l w aX h8 (bU l) (lU l (bU l)) hi hz h0
  ·by_cases h1:lU l (bU l)<l.length-bU l
   ·have e:aT l=(ByteArray.empty,2):=by unfold aT;rw [if_neg (fun h=>h h8),if_pos (Or.inr h1)]
    rw [e];exact Gj a cap l w aX h8 (bU l) (lU l (bU l)) hi hz h0 h1
   ·have e:aT l=(strOf (l.take (bU l)),0):=by unfold aT;rw [if_neg (fun h=>h h8),if_neg (fun h=>h.elim h0 h1)]
    rw [e];exact x9 a cap l w aX h8 (bU l) (lU l (bU l)) hi hz h0 (by omega)
 ·have e:aT l=(ByteArray.empty,3):=by unfold aT;rw [if_pos h8]
  rw [e];exact JY a l.length cap w hl h8
end Go.Proofs.YtcimhnnendlblaaGreat
