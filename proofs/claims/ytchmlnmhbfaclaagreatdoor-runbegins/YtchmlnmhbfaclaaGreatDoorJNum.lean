/-
  Parts of the proofs, joined by program.
-/
import Derived.Test.YtchmlnmhbfaclaaGreatDoorProg
import Derived.WalkKit
import Derived.BigQuiet
import Derived.WalkLawsBesides
import Derived.Laws.CopyOwn
import Derived.OpenShut
import Derived.Lib.BufferWrite
import Derived.Laws.BytesString
import Derived.Maps.AppendAt
import Derived.Deep.RegionWith
import Derived.Deep.QuietTactic
namespace Go.Proofs.YtchmlnmhbfaclaaGreatDoor
open Go.RowKit
set_option linter.unusedVariables false
theorem zad(s:Int)(w:World)(h1:1<=s)(h2:s<=4) :
  Calls Tryz.prog 267 #[.int .i64 s] w fun e w'=>e=.returned (.bool true)/\w=w':=by
 go_enter Tryz.func267,Tryz.ntmps267
 go_wp2
 go_ret
 exact⟨rfl,rfl⟩
def zh3(s:Int):Int:=if s=1 then 255 else if s=2 then 65535 else if s=3 then 16777215 else 4294967295
theorem zce(s:Int)(w:World)(h1:1<=s)(h2:s<=4) :
  Calls Tryz.prog 268 #[.int .i64 s] w fun e w'=>e=.returned (.int .i64 (zh3 s))/\w=w':=by
 rcases (show s=1\/s=2\/s=3\/s=4 from by omega) with rfl | rfl | rfl | rfl
 all_goals
  go_enter Tryz.func268,Tryz.ntmps268
  go_wp2
  go_ret
  exact⟨rfl,rfl⟩
theorem zfA(a:Option Addr)(len cap:Nat)(at' s:Int)(w:World)(hl:len<=140737488355328)(h1:1<=s)(h2:s<=4)(h3:0<=at')(h4:at'<=len-s) :
  Calls Tryz.prog 269 #[.slice a len cap,.int .i64 at',.int .i64 s] w fun e w'=>e=.returned (.bool true)/\w=w':=by
 go_enter Tryz.func269,Tryz.ntmps269
 go_wp2
 go_ret
 exact⟨rfl,rfl⟩
theorem zb{p:Prop}(h:p):Hid p:=h
theorem za{p:Prop}(h:Hid p):p:=h
def Byt(l:List Int):Prop:=∀ z∈l,0<=z/\z<=255
def Bs(w:World)(a:Option Addr)(cap:Nat)(l:List Int):Prop :=
 Byt l/\l.length<=cap/\l.length<=140737488351232/\(a=none->cap=0) /\
 (l≠[]->∃ b off,a=some ⟨b,off,none⟩/\∀ i,i<l.length->w.cell? ⟨b,off+i,none⟩=some (.int .u8 (l.getD i 0)))
def Blk(w:World)(g:Nat)(l:List Int):Prop:=w.heap[g]?=some (.cells (l.map (Value.int .u8)).toArray 5 (0,0))
theorem addr_add(b off j:Nat):Addr.add ⟨b,off,none⟩ j=⟨b,off+j,none⟩:=by
 unfold Addr.add;split <;> simp_all
theorem Byt.getD{l:List Int}(h:Byt l)(i:Nat):0<=l.getD i 0/\l.getD i 0<=255:=by
 by_cases hi:i<l.length
 ·have:l.getD i 0=l[i]:=by simp [List.getD,hi]
  rw [this];exact h _ (List.getElem_mem hi)
 ·have:l.getD i 0=0:=by simp [List.getD,List.getElem?_eq_none (by omega:l.length<=i)]
  rw [this];omega
theorem Blk.cell{w:World}{g:Nat}{l:List Int}(h:Blk w g l)(i:Nat)(hi:i<l.length):w.cell? ⟨g,i,none⟩=some (.int .u8 (l.getD i 0)):=by
 rw [cell_of_row w g i _ 5 (0,0) h];simp [hi,List.getD]
theorem Blk.frozen{w:World}{g:Nat}{l:List Int}(h:Blk w g l)(i:Nat):w.frozen? ⟨g,i,none⟩=false:=frozen_of_row w g i _ 5 h
theorem Blk.lt{w:World}{g:Nat}{l:List Int}(h:Blk w g l):g<w.heap.size:=by
 unfold Blk at h
 rcases Nat.lt_or_ge g w.heap.size with h' | h'
 ·exact h'
 ·rw [Array.getElem?_eq_none h'] at h;cases h
theorem Blk.bs{w:World}{g:Nat}{l:List Int}(h:Blk w g l)(hb:Byt l)(hl:l.length<=140737488351232):Bs w (some ⟨g,0,none⟩) l.length l :=
 ⟨hb,Nat.le_refl _,hl,fun e=>(by cases e),fun _=>⟨g,0,rfl,fun i hi=>by rw [Nat.zero_add];exact h.cell i hi⟩⟩
theorem Blk.below{w w':World}{g:Nat}{l:List Int}(h:Blk w g l)(hb:Below w.heap.size w w'):Blk w' g l:=by
 unfold Blk;rw [hb.block g h.lt];exact h
theorem Bs.below{w w':World}{a:Option Addr}{cap:Nat}{l:List Int}(h:Bs w a cap l)(hb:Below w.heap.size w w'):Bs w' a cap l:=by
 obtain⟨h1,h2,h3,h4,h5⟩:=h
 refine⟨h1,h2,h3,h4,fun hne=>?_⟩
 obtain⟨b,off,rfl,hc⟩:=h5 hne
 refine⟨b,off,rfl,fun i hi=>?_⟩
 have h6:=hc i hi
 rw [<- h6];exact hb.cell (block_lt_of_cell h6)
theorem zgp{w:World}{x:Addr}{len cap:Nat}{zs:List Int}(hl:len<=cap)(hm:cap<=140737488351232)(hz:zs.length=cap)(hcell:∀ i,i<zs.length->w.cell? (x.add i)=some (.int .u8 (zs.getD i 0)))(hwz:∀ n∈zs,(Lit.int .u8 n).wf=true) :
  Bs w (some x) cap (zs.take len)/\(zs.take len).length=len:=by
 have hlen:(zs.take len).length=len:=by simp;omega
 refine⟨⟨fun z h=>bounds_u8 (hwz z (List.mem_of_mem_take h)),by omega,by omega,fun h=>(by cases h),?_⟩,hlen⟩
 intro hne
 have hpos:0<zs.length:=by
  cases zs with
  | nil=>simp at hne
  | cons _ _=>simp
 obtain⟨b,off,spot⟩:=x
 have hspot:spot=none:=by simpa [Addr.add] using World.cell?_spot (hcell 0 hpos)
 subst hspot
 refine⟨b,off,rfl,fun i hi=>?_⟩
 have h1:=hcell i (by rw [hlen] at hi;omega)
 rw [addr_add] at h1
 rw [h1]
 rw [hlen] at hi
 simp [List.getD,hi]
def numOf:List Int->Int
 | []=>0
 | c :: r=>c+256 * numOf r
theorem zoM(l:List Int)(c:Int):numOf (l++[c])=numOf l+c * 256 ^ l.length:=by
 induction l with
 | nil=>simp [numOf]
 | cons d r ih =>
  have e:(256:Int) ^ (r.length+1)=256 * 256 ^ r.length:=by rw [Int.pow_succ,Int.mul_comm]
  simp only [List.cons_append,numOf,ih,List.length_cons,e,Int.mul_add]
  rw [show 256 * (c * 256 ^ r.length)=c * (256 * 256 ^ r.length) from by rw [<- Int.mul_assoc,Int.mul_comm 256 c,Int.mul_assoc]]
  omega
theorem zm4(l:List Int)(h:Byt l):0<=numOf l/\numOf l<256 ^ l.length:=by
 induction l with
 | nil=>simp [numOf]
 | cons d r ih =>
  have e:(256:Int) ^ (r.length+1)=256 * 256 ^ r.length:=by rw [Int.pow_succ,Int.mul_comm]
  have h1:=h d (by simp)
  have h2:=ih (fun z hz=>h z (by simp [hz]))
  simp only [numOf,List.length_cons,e]
  omega
def Qj(l:List Int)(p s:Nat):Int:=numOf ((l.drop p).take s)
theorem zdH(l:List Int)(p k:Nat)(h:p+k<l.length):Qj l p (k+1)=Qj l p k+l.getD (p+k) 0 * 256 ^ k:=by
 unfold Qj
 have h1:k<(l.drop p).length:=by simp;omega
 rw [List.take_succ_eq_append_getElem h1,zoM]
 have h2:((l.drop p).take k).length=k:=by simp;omega
 rw [h2]
 have h3:l.getD (p+k) 0=l[p+k]:=by simp [List.getD,h]
 rw [h3];simp
theorem Byt.sub{l:List Int}(h:Byt l)(p s:Nat):Byt ((l.drop p).take s) :=
 fun z hz=>h z (List.mem_of_mem_drop (List.mem_of_mem_take hz))
theorem zsu(l:List Int)(h:Byt l)(p k:Nat)(hk:p+k<=l.length):0<=Qj l p k/\Qj l p k<256 ^ k:=by
 have:=zm4 _ (h.sub p k)
 have h2:((l.drop p).take k).length=k:=by simp;omega
 rw [h2] at this;exact this
def zbw(l:List Int)(p:Nat)(n:Int):Nat->List Int
 | 0=>l
 | k+1=>(zbw l p n k).set (p+k) (n / 2 ^ (8 * k) % 256)
theorem qt(l:List Int)(p:Nat)(n:Int)(k:Nat):(zbw l p n k).length=l.length:=by
 induction k with
 | zero=>rfl
 | succ k ih=>simp [zbw,ih]
theorem zmm{l:List Int}(h:Byt l)(i:Nat)(c:Int)(hc:0<=c/\c<=255):Byt (l.set i c):=by
 intro z hz
 rcases List.mem_or_eq_of_mem_set hz with h1 | h1
 ·exact h z h1
 ·rw [h1];exact hc
theorem zcJ{l:List Int}(h:Byt l)(p:Nat)(n:Int)(k:Nat):Byt (zbw l p n k):=by
 induction k with
 | zero=>exact h
 | succ k ih=>exact zmm ih _ _ (by omega)
theorem Blk.set{w:World}{g:Nat}{l:List Int}(h:Blk w g l)(i:Nat)(c:Int):Blk (w.setCell ⟨g,i,none⟩ (.int .u8 c)) g (l.set i c):=by
 unfold Blk
 have:=heap_setCell_same w g i (l.map (Value.int .u8)).toArray 5 (.int .u8 c) h
 rw [this]
 simp [List.map_set]
theorem zAM(n c k:Nat)(h:n<2 ^ k):n ||| c * 2 ^ k=n+c * 2 ^ k:=by
 have:=Nat.two_pow_add_eq_or_of_lt h c
 rw [Nat.mul_comm,Nat.or_comm]
 omega
theorem zo9(a b:Nat)(ha:a<4611686018427387904)(hb:b<4611686018427387904):bits .or .i64 (a:Int) (b:Int)=((a ||| b:Nat):Int):=by
 have hx:a ||| b<2 ^ 62:=Nat.or_lt_two_pow (by omega) (by omega)
 show IntKind.i64.wrap ((BitVec.ofInt 64 (a:Int) ||| BitVec.ofInt 64 (b:Int)).toNat:Int)=_
 rw [BitVec.toNat_or,ofInt_u64 a (by omega),ofInt_u64 b (by omega),IntKind.wrap_i64]
 generalize a ||| b=c at *
 omega
theorem zyc(n c:Int)(k:Nat)(hk:k<=3)(hn:0<=n/\n<256 ^ k)(hc:0<=c/\c<=255):bits .or .i64 n (wrap64 (c * 2 ^ (8 * k)))=n+c * 256 ^ k:=by
 obtain⟨N,rfl⟩:=Int.eq_ofNat_of_zero_le hn.1
 obtain⟨C,rfl⟩:=Int.eq_ofNat_of_zero_le hc.1
 have h256:(256:Int) ^ k=2 ^ (8 * k):=by rw [Int.pow_mul];rfl
 have hN:N<2 ^ (8 * k):=by
  have h:=hn.2;rw [h256] at h;exact_mod_cast h
 have hC:(C:Int) * 2 ^ (8 * k)=((C * 2 ^ (8 * k):Nat):Int):=by push_cast;rfl
 have hle:C * 2 ^ (8 * k)<4611686018427387904:=by
  have h1:2 ^ (8 * k)<=2 ^ 24:=Nat.pow_le_pow_right (by omega) (by omega)
  have h2:C<=255:=by omega
  exact Nat.lt_of_le_of_lt (Nat.mul_le_mul h2 h1) (by decide)
 have hNle:N<4611686018427387904:=by
  have h1:2 ^ (8 * k)<=2 ^ 24:=Nat.pow_le_pow_right (by omega) (by omega)
  omega
 rw [h256,hC]
 have hw:wrap64 ((C * 2 ^ (8 * k):Nat):Int)=((C * 2 ^ (8 * k):Nat):Int):=by
  generalize C * 2 ^ (8 * k)=m at *
  unfold wrap64;omega
 rw [hw,zo9 _ _ hNle hle,zAM N C (8 * k) hN]
 push_cast;rfl
def zerosB(n:Nat):List Int:=List.replicate n 0
theorem length_zerosB(n:Nat):(zerosB n).length=n:=by simp [zerosB]
theorem byt_zerosB(n:Nat):Byt (zerosB n):=fun z hz=>by
 have:=(List.mem_replicate.1 hz).2;omega
theorem made_zeros(n:Nat):(madeCells (Value.int .u8 0).cells n).toList=(zerosB n).map (Value.int .u8):=by
 apply List.ext_getElem
 ·simp [madeCells,zerosB]
 ·intro i h1 h2
  simp [madeCells,zerosB,Value.cells,Nat.mod_one]
theorem wpList_make_u8{P:Program}{w:World}{ops:Array Oper}{rest:List Oper}{o:Oper}{a:Act}{Q:Exit->Act->World->Prop}
  (hg:o.guard=none) (l c:Operand) (t:TypeId) (hop:o.op=Op.makeSlice t l c)
  (i:TypeInfo) (h1:P.underlying t=some (.slice 5)) (h2:P.info? 5=some i) (h3:i.zero=some (.int .u8 0)) (h4:i.size=1) (h5:i.bytes=1)
  (kl kc:IntKind) (L C:Int) (n:Nat) (hl:a.eval l=.int kl L) (hc:a.eval c=.int kc C) (hL:L=(n:Int)) (hC:C=(n:Int)) (b2:n<=281474976710656)
  (hK:∀ w',Blk w' w.heap.size (zerosB n)->w'.heap.size=w.heap.size+1->Below w.heap.size w w'->wpList P ops Q rest (a.put o.dst (.slice (some ⟨w.heap.size,0,none⟩) n n)) w') :
  wpList P ops Q (o :: rest) a w:=by
 refine wpList_plain hg fun K hK'=>?_
 have hrun:=run_make (P:=P) w t 5 i _ h1 h2 h3 kl kc n n (by omega) (by omega) (by rw [h5];omega) (by omega)
 subst hL
 subst hC
 unfold Oper.wp
 simp [execOp,hop,hl,hc,hrun,Result.andThen]
 refine hK' _ _ (hK _ ?_ (by simp) ((Below.refl _ _).alloc (Nat.le_refl _) _))
 unfold Blk
 rw [heap_alloc_new,h4,Nat.mul_one]
 rw [<- made_zeros,Array.toArray_toList]
theorem oneCell_u8(l:List Int):∀ v∈l.map (Value.int .u8),v.oneCell'=true:=by
 intro v hv
 obtain⟨z,_,rfl⟩:=List.mem_map.1 hv
 rfl
theorem splice_zero{α:Type}(L cs:List α)(h:cs.length=L.length):splice L 0 cs=cs:=by
 simp [splice,h]
def rowW(w:World)(g:Nat)(l:List Int):World:=w.setRow g (l.map (Value.int .u8)).toArray
theorem rowW_blk{w:World}{g:Nat}{z:List Int}(hg:Blk w g z)(l:List Int):Blk (rowW w g l) g l :=
 setRow_heap w g _ _ 5 _ hg
theorem rowW_below{w w0:World}{B g:Nat}(l:List Int)(hb:Below B w0 w)(hBg:B<=g):Below B w0 (rowW w g l):=below_setRow hb hBg _
theorem run_copy_u8{P:Program}(w:World)(dT sT ty:TypeId)(hu:P.underlying dT=some (.slice 5))(hsz:(P.info? 5).map (·.size)=some 1)
  (g dCap:Nat) (sp:Option Addr) (sCap:Nat) (z l:List Int) (hz:z.length=l.length) (hg:Blk w g z) (hb:Bs w sp sCap l) :
  (Builtin.copy_ #[dT,sT] ty #[.slice (some ⟨g,0,none⟩) l.length dCap,.slice sp l.length sCap]).run P w=.ok (.int .i64 l.length) (rowW w g l):=by
 have hg':w.heap[g]?=some (.cells (z.map (Value.int .u8)).toArray 5 (0,0)):=hg
 by_cases h0:l=[]
 ·subst h0
  have hz0:z=[]:=List.eq_nil_of_length_eq_zero hz
  have hrun:=run_copy_none (P:=P) w dT sT ty 5 (some ⟨g,0,none⟩) sp 0 dCap 0 sCap hu hsz (by simp)
  have hself:rowW w g []=w:=by
   subst hz0
   exact setRow_self w g _ 5 (0,0) hg'
  rw [hself]
  simpa [goInt] using hrun
 ·obtain⟨b,off,rfl,hc⟩:=hb.2.2.2.2 h0
  have hrun:=run_copy_row (P:=P) w dT sT ty 5 g 0 l.length dCap ⟨b,off,none⟩ l.length sCap _ 5 (l.map (Value.int .u8)) hu hsz hg' (by simp) ?_ (by simp [hz]) (oneCell_u8 l)
  ·have hdz:List.drop l.length (z.map (Value.int .u8))=[]:=List.drop_eq_nil_of_le (by simp [hz])
   simpa [hdz,goInt,rowW] using hrun
  ·intro j v hj
   have hjl:j<l.length:=by
    rcases Nat.lt_or_ge j l.length with h1 | h1
    ·exact h1
    ·rw [List.getElem?_eq_none (by simpa using h1)] at hj;cases hj
   have:=hc j hjl
   simp [hjl] at hj
   subst hj
   rw [addr_add]
   simpa [List.getD,hjl] using this
def strL(s:ByteArray):List Int:=s.data.toList.map fun c=>(c.toNat:Int)
theorem length_strL(s:ByteArray):(strL s).length=s.size:=by simp [strL]
theorem strL_getD(s:ByteArray)(i:Nat)(h:i<s.size):(strL s).getD i 0=(s[i].toNat:Int):=by
 have h2:i<s.data.toList.length:=by simpa using h
 simp [strL,List.getD]
 rw [Array.getElem?_eq_getElem (by simpa using h)]
 rfl
theorem byt_strL(s:ByteArray):Byt (strL s):=by
 intro z hz
 obtain⟨c,_,rfl⟩:=List.mem_map.1 hz
 have:=c.toNat_lt
 omega
theorem run_copy_str{P:Program}(w:World)(dT sT ty:TypeId)(hu:P.underlying dT=some (.slice 5))(hsz:(P.info? 5).map (·.size)=some 1)
  (g dLen dCap:Nat) (s:ByteArray) (z:List Int) (hz:z.length=dLen) (hg:Blk w g z) (hs:s.size<=dLen) :
  (Builtin.copy_ #[dT,sT] ty #[.slice (some ⟨g,0,none⟩) dLen dCap,.string s]).run P w=.ok (.int .i64 s.size) (rowW w g (strL s++z.drop s.size)):=by
 have hg':w.heap[g]?=some (.cells (z.map (Value.int .u8)).toArray 5 (0,0)):=hg
 have hrun:=Lib.run_copy_row_string (P:=P) w dT sT ty 5 g 0 dLen dCap s _ 5 hu hsz hg' hs (by simp [hz];exact hs)
 rw [hrun]
 unfold rowW
 simp [goInt,strL,Lib.byteCells,List.map_drop,Function.comp_def]
theorem Bs.drop{w:World}{a:Option Addr}{cap:Nat}{l:List Int}(hb:Bs w a cap l)(i:Nat)(hi:i<=l.length):Bs w (if cap=i then a else a.map (·.add i)) (cap-i) (l.drop i):=by
 obtain⟨b1,b2,b3,b4,b5⟩:=hb
 refine⟨fun z hz=>b1 z (List.mem_of_mem_drop hz),by simp;omega,by simp;omega,?_,?_⟩
 ·intro h
  split at h
  ·omega
  ·have:a=none:=by cases a <;> simp_all
   have:=b4 this;omega
 ·intro hne
  have hlt:i<l.length:=by
   rcases Nat.lt_or_ge i l.length with h | h
   ·exact h
   ·exact absurd (List.drop_eq_nil_of_le h) hne
  have hnil:l≠[]:=by intro h;subst h;simp at hlt
  obtain⟨b,off,rfl,hc⟩:=b5 hnil
  refine⟨b,off+i,?_,?_⟩
  ·rw [if_neg (by omega)]
   simp [addr_add]
  ·intro j hj
   have:=hc (i+j) (by simp at hj;omega)
   rw [<- Nat.add_assoc] at this
   rw [this]
   simp [List.getD]
theorem Bs.take{w:World}{a:Option Addr}{cap:Nat}{l:List Int}(hb:Bs w a cap l)(i:Nat):Bs w a cap (l.take i):=by
 obtain⟨b1,b2,b3,b4,b5⟩:=hb
 refine⟨fun z hz=>b1 z (List.mem_of_mem_take hz),by simp;omega,by simp;omega,b4,?_⟩
 intro hne
 have hnil:l≠[]:=by intro h;subst h;simp at hne
 obtain⟨b,off,rfl,hc⟩:=b5 hnil
 refine⟨b,off,rfl,fun j hj=>?_⟩
 have h1:j<i/\j<l.length:=by simp at hj;omega
 rw [hc j h1.2]
 simp [List.getD,h1.1]
theorem run_size_u8{P:Program}(w:World)(hsz:(P.info? 5).map (·.size)=some 1):(sizeOf 5).run P w=.ok 1 w:=by
 cases hq:P.info? 5 with
 | none=>simp [hq] at hsz
 | some i =>
  have:i.size=1:=by simpa [hq] using hsz
  simp [sizeOf,typeInfo,hq,this]
theorem elem_u8{P:Program}{t:TypeId}(hu:P.underlying t=some (.slice 5)):P.elem t=5:=by simp [Program.elem,hu]
theorem slice_lo{P:Program}{t:TypeId}(hu:P.underlying t=some (.slice 5))(hsz:(P.info? 5).map (·.size)=some 1){w:World}{a:Option Addr}{cap:Nat}{l:List Int}(hb:Bs w a cap l)(i:Nat)(hi:i<=l.length) :
  ∃ a',(∀ w',(Instr.slice t (.slice a l.length cap) (some (.int .i64 i)) none none).run P w'=.ok (.slice a' (l.length-i) (cap-i)) w')/\Bs w a' (cap-i) (l.drop i):=by
 have he:=elem_u8 hu
 refine⟨_,fun w'=>?_,hb.drop i hi⟩
 rw [run_slice_l (P:=P) (w:=w') t a l.length cap (by rw [he];exact hu) .i64 i (by omega) (by omega),he,run_size_u8 w' hsz]
 simp [Result.andThen,sliced]
theorem slice_hi{P:Program}{t:TypeId}(hu:P.underlying t=some (.slice 5))(hsz:(P.info? 5).map (·.size)=some 1){w:World}{a:Option Addr}{cap:Nat}{l:List Int}(hb:Bs w a cap l)(i:Nat)(hi:i<=l.length) :
  ∃ a',(∀ w',(Instr.slice t (.slice a l.length cap) none (some (.int .i64 i)) none).run P w'=.ok (.slice a' i cap) w')/\Bs w a' cap (l.take i):=by
 have he:=elem_u8 hu
 have hcap:=hb.2.1
 refine⟨a,fun w'=>?_,hb.take i⟩
 rw [run_slice_h (P:=P) (w:=w') t a l.length cap (by rw [he];exact hu) .i64 i (by omega) (by omega),he,run_size_u8 w' hsz]
 simp only [Result.andThen,sliced]
 by_cases h0:cap=0
 ·simp [h0]
 ·rw [if_neg h0]
  cases a with
  | none=>exact absurd (hb.2.2.2.1 rfl) h0
  | some x=>simp [Addr.add]
theorem slice_lohi{P:Program}{t:TypeId}(hu:P.underlying t=some (.slice 5))(hsz:(P.info? 5).map (·.size)=some 1){w:World}{a:Option Addr}{cap:Nat}{l:List Int}(hb:Bs w a cap l)(i j:Nat)(hij:i<=j)(hj:j<=l.length) :
  ∃ a',(∀ w',(Instr.slice t (.slice a l.length cap) (some (.int .i64 i)) (some (.int .i64 j)) none).run P w'=.ok (.slice a' (j-i) (cap-i)) w')/\Bs w a' (cap-i) ((l.drop i).take (j-i)):=by
 have he:=elem_u8 hu
 have hcap:=hb.2.1
 refine⟨_,fun w'=>?_,(hb.drop i (by omega)).take (j-i)⟩
 rw [run_slice_lh (P:=P) (w:=w') t a l.length cap (by rw [he];exact hu) .i64 .i64 i j (by omega) (by omega) (by omega),he,run_size_u8 w' hsz]
 simp [Result.andThen,sliced]
def strOf(l:List Int):ByteArray:=l.foldl (fun r n=>r.push (UInt8.ofNat n.toNat)) ByteArray.empty
theorem conv_str{P:Program}{t e:TypeId}(hu:P.underlying t=some (.slice 5))(hu8:P.underlying 5=some (.int .u8))(hs:P.underlying e=some .string){w:World}{a:Option Addr}{cap:Nat}{l:List Int}(hb:Bs w a cap l) :
  (convert t e (.slice a l.length cap)).run P w=.ok (.string (strOf l)) w:=by
 rw [run_convert_bytes_string w t e 5 a l.length cap hu hu8 hs]
 by_cases h0:l=[]
 ·subst h0
  cases a with
  | none=>simp [Conv.bytesToString,strOf]
  | some x =>
   have:=run_bytesToString (P:=P) w x 0 cap [] (by simpa using run_loadCells_list (P:=P) (w:=w) x [] (by simp))
   simpa [strOf] using this
 ·obtain⟨b,off,rfl,hc⟩:=hb.2.2.2.2 h0
  refine run_bytesToString (P:=P) w ⟨b,off,none⟩ l.length cap l ?_
  have:=run_loadCells_list (P:=P) (w:=w) ⟨b,off,none⟩ (l.map (Value.int .u8)) ?_
  ·simpa using this
  ·intro j v hj
   have hjl:j<l.length:=by
    rcases Nat.lt_or_ge j l.length with h1 | h1
    ·exact h1
    ·rw [List.getElem?_eq_none (by simpa using h1)] at hj;cases hj
   have h2:=hc j hjl
   simp [hjl] at hj
   subst hj
   rw [addr_add]
   simpa [List.getD,hjl] using h2
theorem strOf_fold(l:List Int):∀ r:ByteArray,(l.foldl (fun r n=>r.push (UInt8.ofNat n.toNat)) r).data.toList=r.data.toList++l.map (fun n=>UInt8.ofNat n.toNat):=by
 induction l with
 | nil=>intro r;simp
 | cons c l ih=>intro r;simp only [List.foldl_cons,List.map_cons];rw [ih];simp [ByteArray.push]
theorem strOf_data(l:List Int):(strOf l).data.toList=l.map (fun n=>UInt8.ofNat n.toNat):=by
 unfold strOf;rw [strOf_fold];simp
theorem strOf_strL(s:ByteArray):strOf (strL s)=s:=by
 have h:(strOf (strL s)).data.toList=s.data.toList:=by
  rw [strOf_data];simp [strL,Function.comp_def]
 cases s with
 | mk d=>cases hq:strOf (strL ⟨d⟩) with
  | mk d'=>rw [hq] at h;simp at h;rw [h]
theorem strL_strOf(l:List Int)(h:Byt l):strL (strOf l)=l:=by
 unfold strL
 rw [strOf_data,List.map_map]
 apply List.ext_getElem
 ·simp
 ·intro i h1 h2
  have:=h l[i] (List.getElem_mem h2)
  simp
  omega
theorem qG:(Tryz.prog.info? 5).map (fun i=>(i.zero,i.size,i.bytes))=some (some (.int .u8 0),1,1):=by kernel_rfl
theorem zx:(Tryz.prog.info? 5).map (·.size)=some 1:=by kernel_rfl
set_option maxRecDepth 100000 in
set_option maxHeartbeats 800000 in
theorem zhP(a:Option Addr)(cap:Nat)(l:List Int)(p s:Nat)(n:Int)(w:World)(hbs:Bs w a cap l)(h1:1<=s)(h2:s<=4)(h3:0<=n)(h4:¬ zh3 s<n)(h:p+s<=l.length) :
  Calls Tryz.prog 213 #[.slice a l.length cap,.int .i64 p,.int .i64 n,.int .i64 s] w fun e w'=>∃ g,e=.returned (.tuple #[.slice (some ⟨g,0,none⟩) l.length l.length,.nilIface])/\w.heap.size<=g/\Blk w' g (zbw l p n s)/\Below w.heap.size w w':=by
 have hl:l.length<=140737488351232:=hbs.2.2.1
 obtain⟨i0,hi,hz0,hz1,hz2⟩:=info_parts qG
 have hcopy:∀ w1,Blk w1 w.heap.size (zerosB l.length)->Bs w1 a cap l->Sem.run Tryz.prog (Builtin.copy_ #[29,29] 3 #[.slice (some ⟨w.heap.size,0,none⟩) l.length l.length,.slice a l.length cap]) w1=.ok (.int .i64 l.length) (rowW w1 w.heap.size l) :=
  fun w1 h5 h6=>run_copy_u8 w1 _ _ _ Tryz.underlying29 zx _ _ _ _ _ l (length_zerosB _) h5 h6
 go_enter Tryz.func213,Tryz.ntmps213
 go_wp2_with (first
  | (go_at_call 267;refine(zad _ _ (by omega) (by omega)).mono ?_;rintro e w' ⟨rfl,rfl⟩)
  | (go_at_call 268;refine(zce _ _ (by omega) (by omega)).mono ?_;rintro e w' ⟨rfl,rfl⟩)
  | (go_at_call 269;refine(zfA _ _ _ _ _ _ (by omega) (by omega) (by omega) (by omega) (by omega)).mono ?_;rintro e w' ⟨rfl,rfl⟩)
  | (at_make;refine wpList_make_u8 rfl _ _ 29 rfl i0 Tryz.underlying29 hi hz0 hz1 hz2 _ _ _ _ l.length rfl rfl rfl rfl (by omega) ?_;intro w1 hk1 hs1 hb1;have hbs1:=hbs.below hb1))
 go_loopw [39] (fun i wr=>∃ k:Nat,k<=s/\i=.int .i64 k/\Blk wr w.heap.size (zbw l p n k)/\Below w.heap.size w wr) (fun i _=>s-(intOf i).toNat)
 case atStart=>exact⟨0,by omega,rfl,rowW_blk hk1 l,rowW_below l hb1 (Nat.le_refl _)⟩
 case round =>
  obtain⟨k,hk,rfl,hblk,hbel⟩:=hrel
  by_cases hlt:k<s
  ·have hfz:=hblk.frozen (p+k)
   have hcl:=hblk.cell (p+k) (by rw [qt];omega)
   have HB:Hid (Blk wr w.heap.size (zbw l p n k)):=hblk
   clear hblk
   go_wp2
   go_roundw
   case rel=>exact⟨k+1,by omega,by go_num,by show Blk _ _ _;exact HB.out.set (p+k) _,hbel.setCell (Nat.le_refl _) _⟩
   case measure=>simp [intOf];omega
  ·obtain rfl:k=s:=by omega
   go_wp2
   go_ret2
   exact⟨_,rfl,Nat.le_refl _,hblk,hbel⟩
set_option maxHeartbeats 800000 in
theorem zyX(b off cap:Nat)(l:List Int)(p s:Nat)(w:World)(hb:Byt l)(hc:l.length<=cap)(hm:l.length<=140737488351232)(h1:1<=s)(h2:s<=4)(h:p+s<=l.length)
  (hcell:∀ i,i<l.length->w.cell? ⟨b,off+i,none⟩=some (.int .u8 (l.getD i 0))) :
  Calls Tryz.prog 230 #[.slice (some ⟨b,off,none⟩) l.length cap,.int .i64 p,.int .i64 s] w fun e w'=>e=.returned (.tuple #[.int .i64 (Qj l p s),.nilIface])/\w=w':=by
 go_enter Tryz.func230,Tryz.ntmps230
 go_wp2_with (first | (go_at_call 267;refine(zad _ _ (by omega) (by omega)).mono ?_;rintro e w' ⟨rfl,rfl⟩) | (go_at_call 269;refine(zfA _ _ _ _ _ _ (by omega) (by omega) (by omega) (by omega) (by omega)).mono ?_;rintro e w' ⟨rfl,rfl⟩))
 go_loop [8,21] (fun n i=>∃ k:Nat,k<=s/\i=.int .i64 k/\n=.int .i64 (Qj l p k)) (fun _ i=>s-(intOf i).toNat)
 case atStart=>exact⟨0,by omega,rfl,by simp [Qj,numOf]⟩
 case round =>
  obtain⟨k,hk,rfl,rfl⟩:=hrel
  have hbd:=zsu l hb p k (by omega)
  by_cases hlt:k<s
  ·have hx:w.cell? ⟨b,off+(p+k),none⟩=some (.int .u8 (l.getD (p+k) 0)):=hcell (p+k) (by omega)
   have hy:=hb.getD (p+k)
   have HS:Hid (Qj l p (k+1)=bits .or .i64 (Qj l p k) (wrap64 (l.getD (p+k) 0 * 2 ^ (8 * k)))):=by
    rw [zdH l p k (by omega),zyc _ _ k (by omega) hbd hy];exact rfl
   generalize l.getD (p+k) 0=c at *
   generalize hn:Qj l p k=n at *
   clear hn
   go_wp2
   go_round
   case rel=>exact⟨k+1,by omega,by go_num,by rw [HS.out]⟩
   case measure=>simp [intOf];omega
  ·obtain rfl:k=s:=by omega
   go_wp2
   go_ret2
   exact⟨rfl,rfl⟩
theorem zaP(a:Option Addr)(cap:Nat)(l:List Int)(p s:Int)(w:World)(hb:Bs w a cap l)(h1:1<=s)(h2:s<=4)(h3:0<=p)(h4:p<=l.length-s) :
  Calls Tryz.prog 230 #[.slice a l.length cap,.int .i64 p,.int .i64 s] w fun e w'=>e=.returned (.tuple #[.int .i64 (Qj l p.toNat s.toNat),.nilIface])/\w=w':=by
 obtain⟨b1,b2,b3,b4,b5⟩:=hb
 obtain⟨b,off,rfl,hc⟩:=b5 (by intro h;subst h;simp at h4;omega)
 obtain⟨P,rfl⟩:=Int.eq_ofNat_of_zero_le h3
 obtain⟨S,rfl⟩:=Int.eq_ofNat_of_zero_le (by omega:0<=s)
 rw [Int.toNat_natCast,Int.toNat_natCast]
 exact zyX b off cap l P S w b1 b2 b3 (by omega) (by omega) (by omega) hc
theorem zx8(l:List Int)(p:Nat)(n:Int):∀ k j,j<k->p+k<=l.length->(zbw l p n k).getD (p+j) 0=n / 2 ^ (8 * j) % 256:=by
 intro k
 induction k with
 | zero=>intro j hj;omega
 | succ k ih =>
  intro j hj hk
  have hlen:=qt l p n k
  by_cases h:j=k
  ·subst h
   simp only [zbw,List.getD]
   rw [List.getElem?_set_self (by omega)]
   rfl
  ·have h1:=ih j (by omega) (by omega)
   rw [<- h1]
   simp [zbw,List.getD]
   rw [List.getElem?_set_ne (by omega)]
theorem zu4(n:Int)(h:0<=n)(k:Nat):n % 256 ^ (k+1)=n % 256 ^ k+n / 2 ^ (8 * k) % 256 * 256 ^ k:=by
 obtain⟨N,rfl⟩:=Int.eq_ofNat_of_zero_le h
 have h256:(2:Nat) ^ (8 * k)=256 ^ k:=by rw [Nat.pow_mul]
 have h1:=Nat.mod_mul (x:=N) (a:=256 ^ k) (b:=256)
 have h2:N % 256 ^ (k+1)=N % 256 ^ k+N / 2 ^ (8 * k) % 256 * 256 ^ k:=by
  rw [Nat.pow_succ,h1,h256,Nat.mul_comm (256 ^ k)]
 have h3:((N % 256 ^ (k+1):Nat):Int)=((N % 256 ^ k+N / 2 ^ (8 * k) % 256 * 256 ^ k:Nat):Int):=congrArg Nat.cast h2
 rw [Int.natCast_emod,Int.natCast_pow,Int.natCast_add,Int.natCast_mul,Int.natCast_emod,Int.natCast_emod,Int.natCast_ediv,Int.natCast_pow,Int.natCast_pow] at h3
 exact h3
theorem zst(l:List Int)(p:Nat)(n:Int)(s:Nat)(hn:0<=n)(h:p+s<=l.length):∀ k,k<=s->Qj (zbw l p n s) p k=n % 256 ^ k:=by
 intro k
 induction k with
 | zero=>intro _;simp [Qj,numOf]
 | succ k ih =>
  intro hk
  rw [zdH _ p k (by rw [qt];omega),ih (by omega),zx8 l p n s k (by omega) h,zu4 n hn k]
theorem zyv(s:Nat)(n:Int)(h1:1<=s)(h2:s<=4)(h:n<=zh3 s):n<256 ^ s:=by
 rcases (show s=1\/s=2\/s=3\/s=4 from by omega) with rfl | rfl | rfl | rfl <;> simp [zh3] at h ⊢ <;> omega
theorem zcQ(l:List Int)(p:Nat)(n:Int)(s:Nat)(h1:1<=s)(h2:s<=4)(hn:0<=n)(hm:n<=zh3 s)(h:p+s<=l.length):Qj (zbw l p n s) p s=n:=by
 rw [zst l p n s hn h s (Nat.le_refl _)]
 exact Int.emod_eq_of_lt hn (zyv s n h1 h2 hm)
theorem zJ{l m:List Int}(h:l.length=m.length)(h2:∀ i,i<l.length->l.getD i 0=m.getD i 0):l=m:=by
 apply List.ext_getElem h
 intro i hi hm
 have:=h2 i hi
 simpa [List.getD,hi,hm] using this
theorem zbe(w:World):Bs w none 0 []:=⟨fun z hz=>(by cases hz),Nat.le_refl _,by decide,fun _=>rfl,fun h=>absurd rfl h⟩
def Ends(w:World)(L:List Int)(x:Value)(e:Ending)(w':World):Prop :=
 ∃ a cap,e=.returned (.tuple #[.slice a L.length cap,x])/\Bs w' a cap L/\Below w.heap.size w w'
theorem Qy{w:World}{x:Value}{e:Ending}{w':World}(he:e=.returned (.tuple #[.slice none 0 0,x]))(hw:w=w'):Ends w [] x e w' :=
 ⟨none,0,he,zbe _,by rw [hw];exact Below.refl _ _⟩
theorem zbq{P:Program}(w:World)(dT sT ty:TypeId)(hu:P.underlying dT=some (.slice 5))(hsz:(P.info? 5).map (·.size)=some 1)
  (g off dLen dCap:Nat) (dp sp:Option Addr) (sCap:Nat) (z l:List Int) (hl:l.length<=dLen) (hd:l≠[]->dp=some ⟨g,off,none⟩) (hfit:off+l.length<=z.length) (hg:Blk w g z) (hb:Bs w sp sCap l) :
  (Builtin.copy_ #[dT,sT] ty #[.slice dp dLen dCap,.slice sp l.length sCap]).run P w=.ok (.int .i64 l.length) (rowW w g (splice z off l)):=by
 have hg':w.heap[g]?=some (.cells (z.map (Value.int .u8)).toArray 5 (0,0)):=hg
 by_cases h0:l=[]
 ·subst h0
  have hrun:=run_copy_none (P:=P) w dT sT ty 5 dp sp dLen dCap 0 sCap hu hsz (by simp)
  have hself:rowW w g (splice z off [])=w:=by
   have:splice z off []=z:=by simp [splice]
   rw [this]
   exact setRow_self w g _ 5 (0,0) hg'
  rw [hself]
  simpa [goInt] using hrun
 ·obtain rfl:=hd h0
  obtain⟨b,o2,rfl,hc⟩:=hb.2.2.2.2 h0
  have hrun:=run_copy_row (P:=P) w dT sT ty 5 g off dLen dCap ⟨b,o2,none⟩ l.length sCap _ 5 (l.map (Value.int .u8)) hu hsz hg' (by simp [Nat.min_eq_left hl]) ?_ (by simpa using hfit) (oneCell_u8 l)
  ·simpa [goInt,rowW,splice,List.map_take,List.map_drop] using hrun
  ·intro j v hj
   have hjl:j<l.length:=by
    rcases Nat.lt_or_ge j l.length with h1 | h1
    ·exact h1
    ·rw [List.getElem?_eq_none (by simpa using h1)] at hj;cases hj
   have:=hc j hjl
   simp [hjl] at hj
   subst hj
   rw [addr_add]
   simpa [List.getD,hjl] using this
theorem qv{z l:List Int}{off:Nat}(hz:Byt z)(hl:Byt l):Byt (splice z off l):=by
 intro c hc
 unfold splice at hc
 rcases List.mem_append.1 hc with h | h
 ·exact hz c (List.mem_of_mem_take h)
 ·rcases List.mem_append.1 h with h | h
  ·exact hl c h
  ·exact hz c (List.mem_of_mem_drop h)
theorem zs2{P:Program}{t:TypeId}(hu:P.underlying t=some (.slice 5))(hsz:(P.info? 5).map (·.size)=some 1)(g c d:Nat)(h:c+d=32) :
  ∃ dp,(∀ w',(Instr.slice t (.slice (some ⟨g,0,none⟩) 32 32) (some (.int .i64 c)) none none).run P w'=.ok (.slice dp d d) w')/\(0<d->dp=some ⟨g,c,none⟩):=by
 have he:=elem_u8 hu
 refine⟨if 32=c then some ⟨g,0,none⟩ else some ⟨g,c,none⟩,fun w'=>?_,fun hd=>by rw [if_neg (by omega)]⟩
 rw [run_slice_l (P:=P) (w:=w') t (some ⟨g,0,none⟩) 32 32 (by rw [he];exact hu) .i64 c (by omega) (by omega),he,run_size_u8 w' hsz]
 have hd:d=32-c:=by omega
 subst hd
 simp [Result.andThen,sliced,Addr.add]
 split <;> simp <;> omega
theorem zhE{P:Program}{ops:Array Oper}{o:Oper}{a:Act}{w:World}{K:Act->World->Prop}{Q:Exit->Act->World->Prop}{E:Prop}(hgd:o.guard=none)(d s:Operand)(dT sT:TypeId)
  (ho:o.op=.call { callee:=.builtin .copy,args:=#[d,s],argTypes:=#[dT,sT]}) (v1 v2:Value) (hd:a.eval d=v1) (hs:a.eval s=v2) (v:Value) (w':World)
  (hrun:(Builtin.copy_ #[dT,sT] o.type #[v1,v2]).run P w=.ok v w') (h:K (a.put o.dst v) w') :
  if Region.wanted o (yielded ops a.tmps)=true then Oper.wp P o a w K Q else E:=by
 have hw:Region.wanted o (yielded ops a.tmps)=true:=by simp [Region.wanted,hgd]
 rw [if_pos hw]
 unfold Oper.wp
 simp [execOp,ho,resolve,invoke,builtin,hd,hs,hrun,Result.andThen]
 exact h
def zK(x:Int):Value:=if x=0 then .nilIface else .iface 107 (.int .i64 x)
theorem zf:zK 0=.nilIface:=rfl
theorem zh(x:Int)(h:x≠0):zK x=.iface 107 (.int .i64 x):=if_neg h
def OwnV(w:World)(B:Nat)(v:Value)(L:List Int):Prop:=w.ownsRow B 5 1 v L.length (L.map (Value.int .u8))
theorem OwnV.nil(w:World)(B:Nat):OwnV w B (.slice none 0 0) []:=⟨by simp,.inl ⟨rfl,rfl⟩⟩
theorem OwnV.block{w:World}{B:Nat}{v:Value}{L:List Int}(h:OwnV w B v L):∀ k,v.ownBlock=some k->B<=k:=by
 intro k hk
 rcases h.2 with ⟨rfl,_⟩ | ⟨g,cap,cur,rfl,hB,_⟩
 ·cases hk
 ·simp [Value.ownBlock] at hk
  omega
theorem OwnV.bs{w:World}{B:Nat}{v:Value}{L:List Int}(h:OwnV w B v L)(hb:Byt L)(hl:L.length<=140737488351232):∃ a c,v=.slice a L.length c/\Bs w a c L:=by
 rcases h.2 with ⟨rfl,h0⟩ | ⟨g,cap,cur,rfl,hB,hc,h3,h4,h5,h6⟩
 ·have:L=[]:=List.eq_nil_of_length_eq_zero h0
  subst this
  exact⟨none,0,rfl,zbe _⟩
 ·refine⟨some ⟨g,0,none⟩,cap,rfl,hb,h3,hl,fun e=>(by cases e),fun _=>⟨g,0,rfl,fun i hi=>?_⟩⟩
  rw [cell_of_row _ _ _ _ _ _ hc]
  have e:(cur.toList.take (L.length * 1))[i]?=some (.int .u8 (L.getD i 0)):=by
   rw [h6]
   simp [List.getD,hi]
  rw [List.getElem?_take,if_pos (by omega)] at e
  simpa using e
theorem zrv{w:World}{ad:Addr}{c:Nat}{l:List Int}(hb:Bs w (some ad) c l):∀ j u,(l.map (Value.int .u8))[j]?=some u->w.cell? (ad.add j)=some u:=by
 intro j u hj
 have hjl:j<l.length:=by
  rcases Nat.lt_or_ge j l.length with h1 | h1
  ·exact h1
  ·rw [List.getElem?_eq_none (by simpa using h1)] at hj;cases hj
 obtain⟨b,off,e,hc⟩:=hb.2.2.2.2 (by intro e;rw [e] at hjl;simp at hjl)
 obtain rfl:=Option.some.inj e
 have h2:=hc j hjl
 simp [hjl] at hj
 subst hj
 rw [addr_add]
 simpa [List.getD,hjl] using h2
theorem OwnV.below{w w':World}{B:Nat}{v:Value}{L:List Int}(h:OwnV w B v L)(hb:Below w.heap.size w w'):OwnV w' B v L:=by
 refine⟨h.1,?_⟩
 rcases h.2 with h0 | ⟨g,cap,cur,rfl,hB,hc,h3⟩
 ·exact .inl h0
 ·exact .inr ⟨g,cap,cur,rfl,hB,(hb.block g (Array.getElem?_eq_some_iff.1 hc).1).trans hc,h3⟩
def Own(w:World)(base g cap:Nat)(l:List Int):Prop:=w.ownsRow base 5 1 (.slice (some ⟨g,0,none⟩) l.length cap) l.length (l.map (Value.int .u8))
def ltr(c:Int):Bool:=decide (97<=c/\c<=122)
theorem zey(c:Int)(w:World) :
  Calls Tryz.prog 200 #[.int .u8 c] w fun e w'=>e=.returned (.bool (ltr c))/\w=w':=by
 by_cases h1:97<=c
 ·by_cases h2:c<=122
  ·have hl:ltr c=true:=by simp [ltr,h1,h2]
   rw [hl];clear hl
   go_enter Tryz.func200,Tryz.ntmps200
   go_wp2
   go_ret
   exact⟨rfl,rfl⟩
  ·have hl:ltr c=false:=by simp [ltr];omega
   rw [hl];clear hl
   go_enter Tryz.func200,Tryz.ntmps200
   go_wp2
   go_ret
   exact⟨rfl,rfl⟩
 ·have hl:ltr c=false:=by simp [ltr];omega
  rw [hl];clear hl
  go_enter Tryz.func200,Tryz.ntmps200
  go_wp2
  go_ret
  exact⟨rfl,rfl⟩
theorem zjF(q:Nat)(s:ByteArray)(i:Nat)(w:World)(hs:s.size<=maxLen)(hi:i<s.size)(hq:w.cell? ⟨q,0,none⟩=some (.string s)) :
  Calls Tryz.prog 199 #[.int .i64 i,.pointer (some ⟨q,0,none⟩)] w fun e w'=>e=.returned (.bool (!ltr ((strL s).getD i 0)))/\w=w':=by
 unfold maxLen at hs
 rw [strL_getD s i hi]
 go_enter Tryz.func199,Tryz.ntmps199
 go_wp2_with (go_at_call 200;refine(zey _ _).mono ?_;rintro e w' ⟨rfl,rfl⟩)
 go_ret
 exact⟨rfl,rfl⟩
theorem Bs.at{w:World}{a:Option Addr}{cap:Nat}{l:List Int}(hb:Bs w a cap l)(i:Nat)(hi:i<l.length) :
  ∃ b off,a=some ⟨b,off,none⟩/\w.cell? ⟨b,off+i,none⟩=some (.int .u8 (l.getD i 0)):=by
 obtain⟨b,off,rfl,hc⟩:=hb.2.2.2.2 (by intro h;subst h;simp at hi)
 exact⟨b,off,rfl,hc i hi⟩
theorem zkk(q:Nat)(a:Option Addr)(cap:Nat)(l:List Int)(i:Nat)(w:World)(hb:Bs w a cap l)(hi:i<l.length)(hq:w.cell? ⟨q,0,none⟩=some (.slice a l.length cap)) :
  Calls Tryz.prog 288 #[.int .i64 i,.pointer (some ⟨q,0,none⟩)] w fun e w'=>e=.returned (.bool (!ltr (l.getD i 0)))/\w=w':=by
 have hl:l.length<=140737488351232:=hb.2.2.1
 obtain⟨b,off,rfl,hcell⟩:=hb.at i hi
 clear hb
 generalize l.getD i 0=c at *
 go_enter Tryz.func288,Tryz.ntmps288
 go_wp2_with (go_at_call 200;refine(zey _ _).mono ?_;rintro e w' ⟨rfl,rfl⟩)
 go_ret
 exact⟨rfl,rfl⟩
theorem zkj(q:Nat)(a:Option Addr)(cap:Nat)(l:List Int)(i:Nat)(w:World)(hb:Bs w a cap l)(hi:i<l.length)(hq:w.cell? ⟨q,0,none⟩=some (.slice a l.length cap)) :
  Calls Tryz.prog 289 #[.int .i64 i,.pointer (some ⟨q,0,none⟩)] w fun e w'=>e=.returned (.bool (l.getD i 0 != 0))/\w=w':=by
 have hl:l.length<=140737488351232:=hb.2.2.1
 obtain⟨b,off,rfl,hcell⟩:=hb.at i hi
 clear hb
 generalize l.getD i 0=c at *
 go_enter Tryz.func289,Tryz.ntmps289
 go_wp2
 go_ret
 exact⟨rfl,rfl⟩
theorem zqG(q r:Nat)(a a':Option Addr)(cap cap':Nat)(l m:List Int)(i:Nat)(w:World)(hb:Bs w a cap l)(hb':Bs w a' cap' m)(hi:i<l.length)(hi':i<m.length)
  (hq:w.cell? ⟨q,0,none⟩=some (.slice a l.length cap)) (hr:w.cell? ⟨r,0,none⟩=some (.slice a' m.length cap')) :
  Calls Tryz.prog 323 #[.int .i64 i,.pointer (some ⟨q,0,none⟩),.pointer (some ⟨r,0,none⟩)] w fun e w'=>e=.returned (.bool (l.getD i 0 != m.getD i 0))/\∃ n,w'=w.drewN n:=by
 have hl:l.length<=140737488351232:=hb.2.2.1
 have hm:m.length<=140737488351232:=hb'.2.2.1
 obtain⟨b,off,rfl,hcell⟩:=hb.at i hi
 obtain⟨b',off',rfl,hcell'⟩:=hb'.at i hi'
 clear hb hb'
 generalize l.getD i 0=c at *
 generalize m.getD i 0=d at *
 go_enter Tryz.func323,Tryz.ntmps323
 go_wp2
 go_quiet (fail)
 go_wp2
 go_ret
 exact⟨rfl,_,rfl⟩
theorem Bs.drewN{w:World}{a:Option Addr}{cap:Nat}{l:List Int}(hb:Bs w a cap l)(n:Nat):Bs (w.drewN n) a cap l:=hb
def First(f:Nat->Bool)(n i:Nat):Prop:=i<=n/\(∀ j,j<i->f j=false)/\(i<n->f i=true)
theorem First.unique{f:Nat->Bool}{n i j:Nat}(hi:First f n i)(hj:First f n j):i=j:=by
 rcases Nat.lt_trichotomy i j with h | h | h
 ·have h1:=hj.2.1 i h
  have h2:=hi.2.2 (by have:=hj.1;omega)
  rw [h1] at h2;cases h2
 ·exact h
 ·have h1:=hi.2.1 j h
  have h2:=hj.2.2 (by have:=hi.1;omega)
  rw [h1] at h2;cases h2
theorem First.step{f:Nat->Bool}{k:Nat}(h:∀ j,j<k->f j=false)(hk:f k=false):∀ j,j<k+1->f j=false:=by
 intro j hj
 rcases Nat.lt_or_ge j k with h1 | h1
 ·exact h j h1
 ·obtain rfl:j=k:=by omega
  exact hk
set_option maxHeartbeats 400000 in
theorem ziP(q:Nat)(s:ByteArray)(w:World)(hs:s.size<=140737488351232)(hq:w.cell? ⟨q,0,none⟩=some (.string s)) :
  Calls Tryz.prog 198 #[.int .i64 (s.size:Nat),.func (.func 199) #[] #[.pointer (some ⟨q,0,none⟩)]] w fun e w'=>∃ i:Nat,e=.returned (.int .i64 i)/\First (fun j=>(!ltr ((strL s).getD j 0))) s.size i/\w=w':=by
 skip
 go_enter Tryz.func198,Tryz.ntmps198
 go_wp2
 go_loop [5] (fun i=>∃ k:Nat,k<=s.size/\i=.int .i64 k/\∀ j,j<k->(!ltr ((strL s).getD j 0))=false) (fun i=>s.size-(intOf i).toNat)
 case atStart=>exact⟨0,by omega,rfl,fun j hj=>absurd hj (Nat.not_lt_zero j)⟩
 case round =>
  obtain⟨k,hk,rfl,hall⟩:=hrel
  have HA:Hid (∀ j,j<k->(!ltr ((strL s).getD j 0))=false):=hall
  clear hall
  by_cases hlt:k<s.size
  ·have hcall:=zjF q s k w (by unfold maxLen;omega) hlt hq
   have HC:=zb hcall
   clear hcall
   cases hb:(!ltr ((strL s).getD k 0))
   ·have HB:=zb hb
    rw [hb] at HC
    clear hb
    go_wp2_with (go_at_call 199;refine(za HC).mono ?_;rintro e w' ⟨rfl,rfl⟩)
    go_round
    case rel=>exact⟨k+1,by omega,by go_num,First.step HA.out (za HB)⟩
    case measure=>simp [intOf];omega
   ·have HB:=zb hb
    rw [hb] at HC
    clear hb
    go_wp2_with (go_at_call 199;refine(za HC).mono ?_;rintro e w' ⟨rfl,rfl⟩)
    go_ret
    exact⟨k,rfl,⟨by omega,HA.out,fun _=>za HB⟩,rfl⟩
  ·go_wp2
   go_ret
   exact⟨k,rfl,⟨by omega,HA.out,fun h=>absurd h hlt⟩,rfl⟩
set_option maxHeartbeats 400000 in
theorem zgI(q:Nat)(a:Option Addr)(cap:Nat)(l:List Int)(w:World)(hbs:Bs w a cap l)(hq:w.cell? ⟨q,0,none⟩=some (.slice a l.length cap)) :
  Calls Tryz.prog 198 #[.int .i64 (l.length:Nat),.func (.func 288) #[] #[.pointer (some ⟨q,0,none⟩)]] w fun e w'=>∃ i:Nat,e=.returned (.int .i64 i)/\First (fun j=>(!ltr (l.getD j 0))) l.length i/\w=w':=by
 have hl:l.length<=140737488351232:=hbs.2.2.1
 go_enter Tryz.func198,Tryz.ntmps198
 go_wp2
 go_loop [5] (fun i=>∃ k:Nat,k<=l.length/\i=.int .i64 k/\∀ j,j<k->(!ltr (l.getD j 0))=false) (fun i=>l.length-(intOf i).toNat)
 case atStart=>exact⟨0,by omega,rfl,fun j hj=>absurd hj (Nat.not_lt_zero j)⟩
 case round =>
  obtain⟨k,hk,rfl,hall⟩:=hrel
  have HA:Hid (∀ j,j<k->(!ltr (l.getD j 0))=false):=hall
  clear hall
  by_cases hlt:k<l.length
  ·have hcall:=zkk q a cap l k w hbs hlt hq
   have HC:=zb hcall
   clear hcall
   cases hb:(!ltr (l.getD k 0))
   ·have HB:=zb hb
    rw [hb] at HC
    clear hb
    go_wp2_with (go_at_call 288;refine(za HC).mono ?_;rintro e w' ⟨rfl,rfl⟩)
    go_round
    case rel=>exact⟨k+1,by omega,by go_num,First.step HA.out (za HB)⟩
    case measure=>simp [intOf];omega
   ·have HB:=zb hb
    rw [hb] at HC
    clear hb
    go_wp2_with (go_at_call 288;refine(za HC).mono ?_;rintro e w' ⟨rfl,rfl⟩)
    go_ret
    exact⟨k,rfl,⟨by omega,HA.out,fun _=>za HB⟩,rfl⟩
  ·go_wp2
   go_ret
   exact⟨k,rfl,⟨by omega,HA.out,fun h=>absurd h hlt⟩,rfl⟩
set_option maxHeartbeats 400000 in
theorem zgH(q:Nat)(a:Option Addr)(cap:Nat)(l:List Int)(w:World)(hbs:Bs w a cap l)(hq:w.cell? ⟨q,0,none⟩=some (.slice a l.length cap)) :
  Calls Tryz.prog 198 #[.int .i64 (l.length:Nat),.func (.func 289) #[] #[.pointer (some ⟨q,0,none⟩)]] w fun e w'=>∃ i:Nat,e=.returned (.int .i64 i)/\First (fun j=>(l.getD j 0 != 0)) l.length i/\w=w':=by
 have hl:l.length<=140737488351232:=hbs.2.2.1
 go_enter Tryz.func198,Tryz.ntmps198
 go_wp2
 go_loop [5] (fun i=>∃ k:Nat,k<=l.length/\i=.int .i64 k/\∀ j,j<k->(l.getD j 0 != 0)=false) (fun i=>l.length-(intOf i).toNat)
 case atStart=>exact⟨0,by omega,rfl,fun j hj=>absurd hj (Nat.not_lt_zero j)⟩
 case round =>
  obtain⟨k,hk,rfl,hall⟩:=hrel
  have HA:Hid (∀ j,j<k->(l.getD j 0 != 0)=false):=hall
  clear hall
  by_cases hlt:k<l.length
  ·have hcall:=zkj q a cap l k w hbs hlt hq
   have HC:=zb hcall
   clear hcall
   cases hb:(l.getD k 0 != 0)
   ·have HB:=zb hb
    rw [hb] at HC
    clear hb
    go_wp2_with (go_at_call 289;refine(za HC).mono ?_;rintro e w' ⟨rfl,rfl⟩)
    go_round
    case rel=>exact⟨k+1,by omega,by go_num,First.step HA.out (za HB)⟩
    case measure=>simp [intOf];omega
   ·have HB:=zb hb
    rw [hb] at HC
    clear hb
    go_wp2_with (go_at_call 289;refine(za HC).mono ?_;rintro e w' ⟨rfl,rfl⟩)
    go_ret
    exact⟨k,rfl,⟨by omega,HA.out,fun _=>za HB⟩,rfl⟩
  ·go_wp2
   go_ret
   exact⟨k,rfl,⟨by omega,HA.out,fun h=>absurd h hlt⟩,rfl⟩
def zej(f:Nat->Bool):Nat->Nat->Nat
 | 0,i=>i
 | k+1,i=>if f i then i else zej f k (i+1)
def zil(f:Nat->Bool)(n:Nat):Nat:=zej f n 0
theorem zim(f:Nat->Bool)(n:Nat):∀ k i,i+k=n->(∀ j,j<i->f j=false)->First f n (zej f k i):=by
 intro k
 induction k with
 | zero=>intro i hi h;exact⟨by simp [zej];omega,h,fun h'=>by simp [zej] at h';omega⟩
 | succ k ih =>
  intro i hi h
  unfold zej
  by_cases hf:f i=true
  ·rw [if_pos hf];exact⟨by omega,h,fun _=>hf⟩
  ·rw [if_neg hf]
   exact ih (i+1) (by omega) (First.step h (by simpa using hf))
theorem zB(f:Nat->Bool)(n:Nat):First f n (zil f n):=zim f n n 0 (by omega) (fun j hj=>absurd hj (Nat.not_lt_zero j))
set_option maxHeartbeats 400000 in
theorem zht(q r:Nat)(a a':Option Addr)(cap cap' N:Nat)(l m:List Int)(w:World)(hbs:Bs w a cap l)(hbs':Bs w a' cap' m)(hN1:N<=l.length)(hN2:N<=m.length)
  (hq:w.cell? ⟨q,0,none⟩=some (.slice a l.length cap)) (hr:w.cell? ⟨r,0,none⟩=some (.slice a' m.length cap')) :
  Calls Tryz.prog 198 #[.int .i64 N,.func (.func 323) #[] #[.pointer (some ⟨q,0,none⟩),.pointer (some ⟨r,0,none⟩)]] w fun e w'=>∃ i:Nat,e=.returned (.int .i64 i)/\First (fun j=>(l.getD j 0 != m.getD j 0)) N i/\∃ n,w'=w.drewN n:=by
 have hl:l.length<=140737488351232:=hbs.2.2.1
 go_enter Tryz.func198,Tryz.ntmps198
 go_wp2
 go_loopw [5] (fun i wr=>∃ k n:Nat,k<=N/\i=.int .i64 k/\wr=w.drewN n/\∀ j,j<k->(l.getD j 0 != m.getD j 0)=false) (fun i _=>N-(intOf i).toNat)
 case atStart=>exact⟨0,0,by omega,rfl,rfl,fun j hj=>absurd hj (Nat.not_lt_zero j)⟩
 case round =>
  obtain⟨k,n,hk,rfl,rfl,hall⟩:=hrel
  have HA:Hid (∀ j,j<k->(l.getD j 0 != m.getD j 0)=false):=hall
  clear hall
  by_cases hlt:k<N
  ·have hcall:=zqG q r a a' cap cap' l m k (w.drewN n) (hbs.drewN n) (hbs'.drewN n) (by omega) (by omega) hq hr
   have HC:=zb hcall
   clear hcall
   cases hb:(l.getD k 0 != m.getD k 0)
   ·have HB:=zb hb
    rw [hb] at HC
    clear hb
    go_wp2_with (go_at_call 323;refine(za HC).mono ?_;rintro e w' ⟨rfl,n',rfl⟩)
    go_roundw
    case rel=>exact⟨k+1,_,by omega,by go_num,rfl,First.step HA.out (za HB)⟩
    case measure=>simp [intOf];omega
   ·have HB:=zb hb
    rw [hb] at HC
    clear hb
    go_wp2_with (go_at_call 323;refine(za HC).mono ?_;rintro e w' ⟨rfl,n',rfl⟩)
    go_ret
    exact⟨k,rfl,⟨by omega,HA.out,fun _=>za HB⟩,_,rfl⟩
  ·go_wp2
   go_ret
   exact⟨k,rfl,⟨by omega,HA.out,fun h=>absurd h hlt⟩,_,rfl⟩
theorem zlp(s:ByteArray)(w:World)(hs:s.size<=140737488351232)(h:¬ (1<=s.size/\s.size<=8)) :
  Calls Tryz.prog 141 #[.string s] w fun e w'=>e=.returned (.tuple #[.slice none 0 0,.iface 107 (.int .i64 2)])/\Below w.heap.size w w':=by
 by_cases h1:1<=s.size
 ·have h2:¬ s.size<=8:=by omega
  clear h
  go_enter Tryz.func141,Tryz.ntmps141
  go_wp2
  go_ret2
  exact⟨rfl,(Below.refl _ _).alloc (Nat.le_refl _) _⟩
 ·clear h
  go_enter Tryz.func141,Tryz.ntmps141
  go_wp2
  go_ret2
  exact⟨rfl,(Below.refl _ _).alloc (Nat.le_refl _) _⟩
theorem zbO(q:Nat)(s:ByteArray)(w:World)(hs:s.size<=140737488351232)(hq:w.cell? ⟨q,0,none⟩=some (.string s))(i:Nat)(hi:First (fun j=>(!ltr ((strL s).getD j 0))) s.size i) :
  Calls Tryz.prog 198 #[.int .i64 s.size,.func (.func 199) #[] #[.pointer (some ⟨q,0,none⟩)]] w fun e w'=>e=.returned (.int .i64 i)/\w'=w :=
 (ziP q s w hs hq).mono fun e w' ⟨k,he,hk,hw⟩=>⟨by rw [he,hk.unique hi],hw.symm⟩
set_option maxRecDepth 100000 in
set_option maxHeartbeats 400000 in
theorem zoF(s:ByteArray)(w:World)(h1:1<=s.size)(h2:s.size<=8)(i:Nat)(hi:First (fun j=>(!ltr ((strL s).getD j 0))) s.size i)(hlt:i<s.size) :
  Calls Tryz.prog 141 #[.string s] w fun e w'=>e=.returned (.tuple #[.slice none 0 0,.iface 107 (.int .i64 2)])/\Below w.heap.size w w':=by
 have HI:=zb hi
 clear hi
 go_enter Tryz.func141,Tryz.ntmps141
 go_wp2
 go_quiet ((go_at_call 198;exact Calls.quiet_of_same (zbO _ s _ (by omega) (by simp) i (za HI))))
 go_wp2
 go_ret2
 exact⟨rfl,below_drewN ((Below.refl _ _).alloc (Nat.le_refl _) _) _⟩
def zI(s:ByteArray):List Int:=strL s++(zerosB 8).drop s.size
set_option maxRecDepth 100000 in
set_option maxHeartbeats 400000 in
theorem zfC(s:ByteArray)(w:World)(h1:1<=s.size)(h2:s.size<=8)(hi:First (fun j=>(!ltr ((strL s).getD j 0))) s.size s.size) :
  Calls Tryz.prog 141 #[.string s] w fun e w'=>∃ g,e=.returned (.tuple #[.slice (some ⟨g,0,none⟩) 8 8,.nilIface])/\w.heap.size<=g/\Blk w' g (zI s)/\Below w.heap.size w w':=by
 have HI:=zb hi
 clear hi
 obtain⟨i0,hi,hz0,hz1,hz2⟩:=info_parts qG
 have hcopy:∀ w1 g,Blk w1 g (zerosB 8)->Sem.run Tryz.prog (Builtin.copy_ #[29,9] 3 #[.slice (some ⟨g,0,none⟩) 8 8,.string s]) w1=.ok (.int .i64 s.size) (rowW w1 g (zI s)) :=
  fun w1 g h5=>run_copy_str w1 _ _ _ Tryz.underlying29 zx g 8 8 s _ (length_zerosB _) h5 h2
 go_enter Tryz.func141,Tryz.ntmps141
 go_wp2
 go_quiet ((go_at_call 198;exact Calls.quiet_of_same (zbO _ s _ (by omega) (by simp) s.size (za HI))))
 go_wp2_with (at_make;refine wpList_make_u8 rfl _ _ 29 rfl i0 Tryz.underlying29 hi hz0 hz1 hz2 _ _ _ _ 8 rfl rfl rfl rfl (by omega) ?_;intro w1 hk1 hs1 hb1;have hq1:w1.cell? ⟨w.heap.size,0,none⟩=some (.string s):=(by rw [hb1.cell (by simp)];simp);have hk2:Blk w1 (w.heap.size+1) (zerosB 8):=(by simpa using hk1))
 go_ret2
 have hb2:Below w.heap.size w w1:=(below_drewN ((Below.refl _ _).alloc (Nat.le_refl _) _) _).trans (hb1.mono (by simp))
 exact⟨_,rfl,by omega,rowW_blk hk2 _,rowW_below _ hb2 (by omega)⟩
theorem zH(s:ByteArray)(h:s.size<=8):(zI s).length=8:=by simp [zI,length_strL,length_zerosB];omega
theorem zdU(s:ByteArray):Byt (zI s):=by
 intro z hz
 rcases List.mem_append.1 hz with h | h
 ·exact byt_strL s z h
 ·exact byt_zerosB 8 z (List.mem_of_mem_drop h)
theorem zlX(a:Option Addr)(len cap:Nat)(w:World)(hl:len<=140737488351232)(h:¬ len=8) :
  Calls Tryz.prog 237 #[.slice a len cap] w fun e w'=>e=.returned (.tuple #[.string ByteArray.empty,.iface 107 (.int .i64 3)])/\Below w.heap.size w w':=by
 have hne:((len:Int) != 8)=true:=by simp;omega
 go_enter Tryz.func237,Tryz.ntmps237
 go_wp2
 go_ret2
 exact⟨rfl,(Below.refl _ _).alloc (Nat.le_refl _) _⟩
theorem Zx(q:Nat)(a:Option Addr)(cap n:Nat)(l:List Int)(w:World)(hn:l.length=n)(hbs:Bs w a cap l)(hq:w.cell? ⟨q,0,none⟩=some (.slice a n cap))(i:Nat)(hi:First (fun j=>(!ltr (l.getD j 0))) l.length i) :
  Calls Tryz.prog 198 #[.int .i64 n,.func (.func 288) #[] #[.pointer (some ⟨q,0,none⟩)]] w fun e w'=>e=.returned (.int .i64 i)/\w=w':=by
 subst hn
 exact(zgI q a cap l w hbs hq).mono fun e w' ⟨k,he,hk,hw⟩=>⟨by rw [he,hk.unique hi],hw⟩
theorem Zw(q:Nat)(a:Option Addr)(cap n:Nat)(l:List Int)(w:World)(hn:l.length=n)(hbs:Bs w a cap l)(hq:w.cell? ⟨q,0,none⟩=some (.slice a n cap))(i:Nat)(hi:First (fun j=>(l.getD j 0 != 0)) l.length i) :
  Calls Tryz.prog 198 #[.int .i64 n,.func (.func 289) #[] #[.pointer (some ⟨q,0,none⟩)]] w fun e w'=>e=.returned (.int .i64 i)/\w=w':=by
 subst hn
 exact(zgH q a cap l w hbs hq).mono fun e w' ⟨k,he,hk,hw⟩=>⟨by rw [he,hk.unique hi],hw⟩
set_option maxRecDepth 100000 in
set_option maxHeartbeats 400000 in
theorem zkh(a:Option Addr)(cap:Nat)(l:List Int)(w:World)(hbs:Bs w a cap l)(h8:l.length=8)(i z:Nat)(hi:First (fun j=>(!ltr (l.getD j 0))) l.length i)(hz:First (fun j=>((l.drop i).getD j 0 != 0)) (l.drop i).length z)(h0:i=0) :
  Calls Tryz.prog 237 #[.slice a l.length cap] w fun e w'=>e=.returned (.tuple #[.string ByteArray.empty,.iface 107 (.int .i64 2)])/\Below w.heap.size w w':=by
 have hi8:i<=l.length:=hi.1
 have hl:l.length<=140737488351232:=by omega
 have ht1:((l.length:Int) != 8)=false:=by simp;omega
 obtain⟨a2,hsl,hbs2⟩:=slice_lo Tryz.underlying29 zx hbs i (by omega)
 have ht2:((i:Int) == 0)=true:=by simp [h0]
 have H0:=zb h0
 clear h0
 have HI:=zb hi
 have HZ:=zb hz
 have HL:Hid ((l.drop i).length=l.length-i):=zb (by simp)
 clear hi hz h8
 go_enter Tryz.func237,Tryz.ntmps237
 go_wp2_with fail
 refine(Zx _ a cap l.length l _ rfl (hbs.below ((Below.refl _ _).alloc (Nat.le_refl _) _)) (by simp) i (za HI)).mono ?_
 rintro e w1 ⟨rfl,rfl⟩
 go_wp2_with fail
 refine(Zw _ a2 (cap-i) (l.length-i) (l.drop i) _ (za HL) (hbs2.below (((Below.refl _ _).alloc (Nat.le_refl _) _).alloc (by simp) _)) (by simp) z (za HZ)).mono ?_
 rintro e w1 ⟨rfl,rfl⟩
 go_wp2
 go_ret2
 exact⟨rfl,(((Below.refl _ _).alloc (Nat.le_refl _) _).alloc (by simp) _)⟩
set_option maxRecDepth 100000 in
set_option maxHeartbeats 400000 in
theorem zki(a:Option Addr)(cap:Nat)(l:List Int)(w:World)(hbs:Bs w a cap l)(h8:l.length=8)(i z:Nat)(hi:First (fun j=>(!ltr (l.getD j 0))) l.length i)(hz:First (fun j=>((l.drop i).getD j 0 != 0)) (l.drop i).length z)(h0:¬ i=0)(hlt:z<l.length-i) :
  Calls Tryz.prog 237 #[.slice a l.length cap] w fun e w'=>e=.returned (.tuple #[.string ByteArray.empty,.iface 107 (.int .i64 2)])/\Below w.heap.size w w':=by
 have hi8:i<=l.length:=hi.1
 have hl:l.length<=140737488351232:=by omega
 have ht1:((l.length:Int) != 8)=false:=by simp;omega
 obtain⟨a2,hsl,hbs2⟩:=slice_lo Tryz.underlying29 zx hbs i (by omega)
 have ht2:((i:Int) == 0)=false:=by simp [h0]
 have H0:=zb h0
 clear h0
 have HI:=zb hi
 have HZ:=zb hz
 have HL:Hid ((l.drop i).length=l.length-i):=zb (by simp)
 clear hi hz h8
 go_enter Tryz.func237,Tryz.ntmps237
 go_wp2_with fail
 refine(Zx _ a cap l.length l _ rfl (hbs.below ((Below.refl _ _).alloc (Nat.le_refl _) _)) (by simp) i (za HI)).mono ?_
 rintro e w1 ⟨rfl,rfl⟩
 go_wp2_with fail
 refine(Zw _ a2 (cap-i) (l.length-i) (l.drop i) _ (za HL) (hbs2.below (((Below.refl _ _).alloc (Nat.le_refl _) _).alloc (by simp) _)) (by simp) z (za HZ)).mono ?_
 rintro e w1 ⟨rfl,rfl⟩
 go_wp2
 go_ret2
 exact⟨rfl,(((Below.refl _ _).alloc (Nat.le_refl _) _).alloc (by simp) _)⟩
set_option maxRecDepth 100000 in
set_option maxHeartbeats 400000 in
theorem zf3(a:Option Addr)(cap:Nat)(l:List Int)(w:World)(hbs:Bs w a cap l)(h8:l.length=8)(i z:Nat)(hi:First (fun j=>(!ltr (l.getD j 0))) l.length i)(hz:First (fun j=>((l.drop i).getD j 0 != 0)) (l.drop i).length z)(h0:¬ i=0)(hge:l.length-i<=z) :
  Calls Tryz.prog 237 #[.slice a l.length cap] w fun e w'=>e=.returned (.tuple #[.string (strOf (l.take i)),.nilIface])/\Below w.heap.size w w':=by
 have hi8:i<=l.length:=hi.1
 have hl:l.length<=140737488351232:=by omega
 have ht1:((l.length:Int) != 8)=false:=by simp;omega
 obtain⟨a2,hsl,hbs2⟩:=slice_lo Tryz.underlying29 zx hbs i (by omega)
 have ht2:((i:Int) == 0)=false:=by simp [h0]
 obtain⟨a3,hsh,hbs3⟩:=slice_hi Tryz.underlying29 zx hbs i (by omega)
 have hcv:=fun o1 o2=>conv_str (P:=Tryz.prog) (t:=29) (e:=9) Tryz.underlying29 Tryz.underlying5 Tryz.underlying9 (hbs3.below (w':=(w.alloc o1).alloc o2) (((Below.refl _ _).alloc (Nat.le_refl _) _).alloc (by simp) _))
 rw [show(l.take i).length=i from by simp;omega] at hcv
 have H0:=zb h0
 clear h0
 have HI:=zb hi
 have HZ:=zb hz
 have HL:Hid ((l.drop i).length=l.length-i):=zb (by simp)
 clear hi hz h8
 go_enter Tryz.func237,Tryz.ntmps237
 go_wp2_with fail
 refine(Zx _ a cap l.length l _ rfl (hbs.below ((Below.refl _ _).alloc (Nat.le_refl _) _)) (by simp) i (za HI)).mono ?_
 rintro e w1 ⟨rfl,rfl⟩
 go_wp2_with fail
 refine(Zw _ a2 (cap-i) (l.length-i) (l.drop i) _ (za HL) (hbs2.below (((Below.refl _ _).alloc (Nat.le_refl _) _).alloc (by simp) _)) (by simp) z (za HZ)).mono ?_
 rintro e w1 ⟨rfl,rfl⟩
 go_wp2
 go_ret2
 exact⟨rfl,(((Below.refl _ _).alloc (Nat.le_refl _) _).alloc (by simp) _)⟩
def ZO(s:ByteArray):Prop:=1<=s.size/\s.size<=8/\First (fun j=>(!ltr ((strL s).getD j 0))) s.size s.size
theorem ZG(s:ByteArray)(w:World)(hs:s.size<=140737488351232)(h:¬ ZO s) :
  Calls Tryz.prog 141 #[.string s] w fun e w'=>e=.returned (.tuple #[.slice none 0 0,.iface 107 (.int .i64 2)])/\Below w.heap.size w w':=by
 by_cases h1:1<=s.size/\s.size<=8
 ·have hf:=zB (fun j=>(!ltr ((strL s).getD j 0))) s.size
  by_cases h2:zil (fun j=>(!ltr ((strL s).getD j 0))) s.size<s.size
  ·exact zoF s w h1.1 h1.2 _ hf h2
  ·have h3:zil (fun j=>(!ltr ((strL s).getD j 0))) s.size=s.size:=by have:=hf.1;omega
   rw [h3] at hf
   exact absurd ⟨h1.1,h1.2,hf⟩ h
 ·exact zlp s w hs h1
theorem zh1(s:ByteArray)(j:Nat)(h:j<s.size):(zI s).getD j 0=(strL s).getD j 0:=by
 have h':j<(strL s).length:=by rw [length_strL];exact h
 simp [zI,List.getD,List.getElem?_append_left h']
theorem zg4(s:ByteArray):(zI s).drop s.size=(zerosB 8).drop s.size:=by
 unfold zI
 rw [List.drop_append_of_le_length (by rw [length_strL];exact Nat.le_refl _)]
 rw [List.drop_eq_nil_of_le (by rw [length_strL];exact Nat.le_refl _)]
 simp
theorem zaU(n k j:Nat):((zerosB n).drop k).getD j 0=0:=by
 by_cases h:j<n-k
 ·simp [zerosB,List.getD,h]
 ·simp [zerosB,List.getD]
  rw [List.getElem?_eq_none (by simp;omega)]
  rfl
theorem zh2(s:ByteArray)(j:Nat)(h:s.size<=j):(zI s).getD j 0=0:=by
 have h1:(zI s).getD j 0=((zI s).drop s.size).getD (j-s.size) 0:=by
  simp [List.getD]
  rw [show s.size+(j-s.size)=j from by omega]
 rw [h1,zg4,zaU]
theorem zbz(s:ByteArray)(h:ZO s):First (fun j=>(!ltr ((zI s).getD j 0))) (zI s).length s.size:=by
 rw [zH s h.2.1]
 refine⟨h.2.1,fun j hj=>?_,fun _=>?_⟩
 ·have:=h.2.2.2.1 j hj
  show(!ltr ((zI s).getD j 0))=false
  rw [zh1 s j hj];exact this
 ·show(!ltr ((zI s).getD s.size 0))=true
  rw [zh2 s s.size (Nat.le_refl _)];rfl
theorem zby(s:ByteArray)(h:s.size<=8):First (fun j=>(((zI s).drop s.size).getD j 0 != 0)) ((zI s).drop s.size).length (8-s.size):=by
 have hlen:((zI s).drop s.size).length=8-s.size:=by simp [zH s h]
 rw [hlen]
 refine⟨Nat.le_refl _,fun j hj=>?_,fun hh=>absurd hh (Nat.lt_irrefl _)⟩
 show(((zI s).drop s.size).getD j 0 != 0)=false
 rw [zg4,zaU];rfl
theorem zec(s:ByteArray):strOf ((zI s).take s.size)=s:=by
 unfold zI
 rw [List.take_append_of_le_length (by rw [length_strL];exact Nat.le_refl _)]
 rw [List.take_of_length_le (by rw [length_strL];exact Nat.le_refl _)]
 exact strOf_strL s
set_option maxHeartbeats 400000 in
theorem zjP(a a':Option Addr)(cap cap':Nat)(l m:List Int)(w:World)(hbs:Bs w a cap l)(hbs':Bs w a' cap' m) :
  Calls Tryz.prog 290 #[.slice a l.length cap,.slice a' m.length cap'] w fun e w'=>∃ i:Nat,e=.returned (.int .i64 i)/\First (fun j=>(l.getD j 0 != m.getD j 0)) (min l.length m.length) i/\Below w.heap.size w w':=by
 by_cases hlt:m.length<l.length
 ·rw [Nat.min_eq_right (Nat.le_of_lt hlt)]
  go_enter Tryz.func290,Tryz.ntmps290
  go_wp2_with fail
  refine(zht _ _ a a' cap cap' m.length l m _ (hbs.below (((Below.refl _ _).alloc (Nat.le_refl _) _).alloc (by simp) _)) (hbs'.below (((Below.refl _ _).alloc (Nat.le_refl _) _).alloc (by simp) _)) (by omega) (by omega) (by simp) (by simp)).mono ?_
  rintro e w1 ⟨i,rfl,hf,n,rfl⟩
  have HF:=zb hf
  clear hf
  go_wp2
  go_ret
  exact⟨i,rfl,za HF,below_drewN (((Below.refl _ _).alloc (Nat.le_refl _) _).alloc (by simp) _) _⟩
 ·rw [Nat.min_eq_left (by omega)]
  go_enter Tryz.func290,Tryz.ntmps290
  go_wp2_with fail
  refine(zht _ _ a a' cap cap' l.length l m _ (hbs.below (((Below.refl _ _).alloc (Nat.le_refl _) _).alloc (by simp) _)) (hbs'.below (((Below.refl _ _).alloc (Nat.le_refl _) _).alloc (by simp) _)) (by omega) (by omega) (by simp) (by simp)).mono ?_
  rintro e w1 ⟨i,rfl,hf,n,rfl⟩
  have HF:=zb hf
  clear hf
  go_wp2
  go_ret
  exact⟨i,rfl,za HF,below_drewN (((Below.refl _ _).alloc (Nat.le_refl _) _).alloc (by simp) _) _⟩
end Go.Proofs.YtchmlnmhbfaclaaGreatDoor
