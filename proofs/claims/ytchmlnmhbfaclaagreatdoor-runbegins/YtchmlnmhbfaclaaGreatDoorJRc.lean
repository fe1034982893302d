/-
  Parts of the proofs, joined by program.
-/
import Derived.Test.YtchmlnmhbfaclaaGreatDoorJRb
import Derived.BigQuiet
import Derived.Lib.ItoaLen
namespace Go.Proofs.YtchmlnmhbfaclaaGreatDoor
open Go.RowKit Go.Shelf
set_option linter.unusedVariables false
set_option linter.unusedSimpArgs false
theorem zvn:Builder.Extra Tryz.prog zkJ:={ sizeBuilder:=by kernel_rfl,liesBuilder:=by kernel_rfl,t5:=Tryz.underlying5,a5:=Tryz.isAgg5,z5:=Tryz.sizeOf5,v5:=Tryz.zeroValue5,infoByte:=by kernel_rfl,cellsByte:=by kernel_rfl,sizeByte:=by kernel_rfl,neB5:=by decide }
set_option maxRecDepth 100000 in
theorem zgo{w:World}{B bk:Nat}(n:Nat)(h:Bu w B bk (.slice none 0 0) [])(hB:B<=w.heap.size)(hn:n<=1000000):Calls Tryz.prog 211 #[.pointer (some ⟨bk,0,none⟩),.int .i64 n] w fun e w'=>e=.returned (.tuple #[])/\∃ v,Bu w' B bk v []/\Below B w w':=by
 have HC:=zb (zbG h)
 have HLE:=zb (fun k hk=>h.le k hk)
 have hge:=h.ge
 clear h
 go_enter Tryz.func211,Tryz.ntmps211
 go_wp2_with fail
 refine(za HC).mono ?_
 rintro e w1 ⟨rfl,hb1,ho1,ht1⟩
 have hbl:=ht1.below (za HLE) hB
 have hs1:=hbl.size
 have c1:w1.cell? ⟨bk,1,none⟩=some (.slice none 0 0):=by rw [Go.Lib.cell_of_heap hb1];rfl
 have HB1:=zb hbl
 have HK:=zb hb1
 clear HC HLE ho1 ht1 hbl hb1
 by_cases h0:n=0
 ·subst h0
  go_wp2_with fail
  go_quiet (fail)
  go_wp2
  go_end0
  exact⟨rfl,.slice none 0 0,⟨hge,⟨_,.inr rfl,za HK⟩,OwnV.nil _ _,fun e=>by cases e⟩,below_drewN (za HB1) _⟩
 ·have hn0:(0:Int)<(n:Int):=by omega
  go_wp2_with fail
  go_quiet (fail)
  have HG:=zb (Any.Builder_grow_fresh zDq zvn B bk n (w1.drewN nq) hge (za HK) (by have:(w1.drewN nq).heap.size=w1.heap.size:=rfl;omega) (by omega))
  go_wp2_with fail
  refine(za HG).mono ?_
  rintro e w2 ⟨rfl,hat,hb2⟩
  obtain⟨g1,v,g2,g3,g4⟩:=hat
  have HR:Hid (Bu w2 B bk v []/\Below B w w2):=zb ⟨⟨g1,⟨_,.inr rfl,g2⟩,g3,g4⟩,(below_drewN (za HB1) nq).trans hb2⟩
  clear g2 g3 g4 hb2 HG
  go_wp2
  go_end0
  exact⟨rfl,v,za HR⟩
theorem zxI(g off n:Nat)(hn:5<=n)(w:World):(Instr.slice 64 (.slice (some ⟨g,off,none⟩) 5 n) (some (.int .i64 1)) none none).run Tryz.prog w=.ok (.slice (some ⟨g,off+1,none⟩) 4 (n-1)) w:=by
 have hsz:(sizeOf 9).run Tryz.prog w=.ok 1 w:=by
  have hsz:=zjg
  cases hq:Tryz.prog.info? 9 with
  | none=>simp [hq] at hsz
  | some i =>
   have:i.size=1:=by simpa [hq] using hsz
   simp [sizeOf,typeInfo,hq,this]
 have he:Tryz.prog.elem 64=9:=by simp [Program.elem,Tryz.underlying64]
 have h:=run_slice_l (P:=Tryz.prog) (w:=w) 64 (some ⟨g,off,none⟩) 5 n (by rw [he];exact Tryz.underlying64) .i64 (1:Nat) (by omega) (by omega)
 rw [he,hsz] at h
 refine Eq.trans h ?_
 simp [Result.andThen,sliced,Addr.add]
 intro h1
 omega
def stC(s:ByteArray):List Value:=[.string s]
theorem zxF(s:ByteArray):(stC s).length=1:=rfl
theorem zfp(s:ByteArray):∀ u∈stC s,u.oneCell'=true:=fun u hu=>by rw [List.mem_singleton.1 hu];rfl
def jn5(x0 x1 x2 x3 x4:ByteArray):List Int:=strL x0++(strL ⟨#[32]⟩++(strL x1++(strL ⟨#[32]⟩++(strL x2++(strL ⟨#[32]⟩++(strL x3++(strL ⟨#[32]⟩++strL x4)))))))
theorem zyL(x0 x1 x2 x3 x4:ByteArray):Byt (jn5 x0 x1 x2 x3 x4):=fun y hy=>by
 unfold jn5 at hy
 simp only [List.mem_append] at hy
 rcases hy with hy | hy | hy | hy | hy | hy | hy | hy | hy
 all_goals exact byt_strL _ y hy
set_option maxRecDepth 100000 in
set_option maxHeartbeats 4000000 in
theorem zr6{w:World}(b0 off c:Nat)(x0 x1 x2 x3 x4:ByteArray)(hcap:5<=c)(hc0:w.cell? ⟨b0,off,none⟩=some (.string x0))(hc1:w.cell? ⟨b0,off+1,none⟩=some (.string x1))(hc2:w.cell? ⟨b0,off+2,none⟩=some (.string x2))(hc3:w.cell? ⟨b0,off+3,none⟩=some (.string x3))(hc4:w.cell? ⟨b0,off+4,none⟩=some (.string x4))(s0:x0.size<=100)(s1:x1.size<=100)(s2:x2.size<=100)(s3:x3.size<=100)(s4:x4.size<=100) :
  Calls Tryz.prog 162 #[.slice (some ⟨b0,off,none⟩) 5 c,.string ⟨#[32]⟩] w fun e w'=>e=.returned (.string (strOf (jn5 x0 x1 x2 x3 x4)))/\Below w.heap.size w w':=by
 have HCL:=zb (fun(W:World) (hW:Below w.heap.size w W)=>And.intro (cell_below hc0 hW) (And.intro (cell_below hc1 hW) (And.intro (cell_below hc2 hW) (And.intro (cell_below hc3 hW) (cell_below hc4 hW)))))
 have hsl:∀ W:World,(Instr.slice 64 (.slice (some ⟨b0,off,none⟩) 5 c) (some (.int .i64 1)) none none).run Tryz.prog W=.ok (.slice (some ⟨b0,off+1,none⟩) 4 (c-1)) W:=fun W=>zxI b0 off c hcap W
 have HBU:=zb (Bu.new (B:=w.heap.size) w (Nat.le_refl _))
 have hba:Below w.heap.size w (w.alloc (.cells #[.pointer none,.slice none 0 0] 45)):=(Below.refl _ _).alloc (Nat.le_refl _) _
 have hsa:=hba.size
 have HG:=zb (zgo (4+x0.size+x1.size+x2.size+x3.size+x4.size) (za HBU) hsa (by omega))
 rw [show(((4+x0.size+x1.size+x2.size+x3.size+x4.size:Nat)):Int)=4+(x0.size:Int)+(x1.size:Int)+(x2.size:Int)+(x3.size:Int)+(x4.size:Int) by omega] at HG
 have HJB:=zb (zyL x0 x1 x2 x3 x4)
 have HBA:=zb hba
 clear hba HBU
 go_enter Tryz.func162,Tryz.ntmps162
 go_wp2_with fail
 refine wp_loop_rounds 6 ?_
 rw [rounds_succ]
 go_wp2_with fail
 rw [rounds_succ]
 go_wp2_with fail
 rw [rounds_succ]
 go_wp2_with fail
 rw [rounds_succ]
 go_wp2_with fail
 rw [rounds_succ]
 go_wp2_with fail
 rw [rounds_succ]
 go_wp2_with fail
 refine(za HG).mono ?_
 rintro e wa ⟨rfl,va,hbu,hb⟩
 have hB:=(za HBA).trans hb
 obtain⟨d0,d1,d2,d3,d4⟩:=za HCL wa hB
 have HB:=zb hB
 have HBU:=zb hbu
 clear hb hB hbu HG HBA hc0 hc1 hc2 hc3 hc4
 have HW0:=zb (qb (za HBU) (za HB).size x0 (by have h32:(({ data:=#[32]}:ByteArray)).size=1:=rfl;simp [List.length_append,length_strL,h32];omega))
 have HLE:=zb (fun k hk=>(za HBU).le k hk)
 have hsz:=(za HB).size
 clear HBU
 go_wp2_with fail
 refine(za HW0).mono ?_
 rintro e w0 ⟨rfl,v0,hbu,ht⟩
 have hB:=(za HB).trans (ht.below (za HLE) hsz)
 clear d0 d1 d2 d3 d4
 obtain⟨d0,d1,d2,d3,d4⟩:=za HCL w0 hB
 clear HB
 have HB:=zb hB
 have HBU:=zb hbu
 clear hB hbu ht HLE hsz HW0
 go_wp2_with fail
 refine wp_loop_rounds 5 ?_
 rw [rounds_succ]
 have HW1:=zb (qb (za HBU) (za HB).size (⟨#[32]⟩:ByteArray) (by have h32:(({ data:=#[32]}:ByteArray)).size=1:=rfl;simp [List.length_append,length_strL,h32];omega))
 have HLE:=zb (fun k hk=>(za HBU).le k hk)
 have hsz:=(za HB).size
 clear HBU
 go_wp2_with fail
 refine(za HW1).mono ?_
 rintro e w1 ⟨rfl,v1,hbu,ht⟩
 have hB:=(za HB).trans (ht.below (za HLE) hsz)
 clear d0 d1 d2 d3 d4
 obtain⟨d0,d1,d2,d3,d4⟩:=za HCL w1 hB
 clear HB
 have HB:=zb hB
 have HBU:=zb hbu
 clear hB hbu ht HLE hsz HW1
 have HW2:=zb (qb (za HBU) (za HB).size x1 (by have h32:(({ data:=#[32]}:ByteArray)).size=1:=rfl;simp [List.length_append,length_strL,h32];omega))
 have HLE:=zb (fun k hk=>(za HBU).le k hk)
 have hsz:=(za HB).size
 clear HBU
 go_wp2_with fail
 refine(za HW2).mono ?_
 rintro e w2 ⟨rfl,v2,hbu,ht⟩
 have hB:=(za HB).trans (ht.below (za HLE) hsz)
 clear d0 d1 d2 d3 d4
 obtain⟨d0,d1,d2,d3,d4⟩:=za HCL w2 hB
 clear HB
 have HB:=zb hB
 have HBU:=zb hbu
 clear hB hbu ht HLE hsz HW2
 go_wp2_with fail
 rw [rounds_succ]
 have HW3:=zb (qb (za HBU) (za HB).size (⟨#[32]⟩:ByteArray) (by have h32:(({ data:=#[32]}:ByteArray)).size=1:=rfl;simp [List.length_append,length_strL,h32];omega))
 have HLE:=zb (fun k hk=>(za HBU).le k hk)
 have hsz:=(za HB).size
 clear HBU
 go_wp2_with fail
 refine(za HW3).mono ?_
 rintro e w3 ⟨rfl,v3,hbu,ht⟩
 have hB:=(za HB).trans (ht.below (za HLE) hsz)
 clear d0 d1 d2 d3 d4
 obtain⟨d0,d1,d2,d3,d4⟩:=za HCL w3 hB
 clear HB
 have HB:=zb hB
 have HBU:=zb hbu
 clear hB hbu ht HLE hsz HW3
 have HW4:=zb (qb (za HBU) (za HB).size x2 (by have h32:(({ data:=#[32]}:ByteArray)).size=1:=rfl;simp [List.length_append,length_strL,h32];omega))
 have HLE:=zb (fun k hk=>(za HBU).le k hk)
 have hsz:=(za HB).size
 clear HBU
 go_wp2_with fail
 refine(za HW4).mono ?_
 rintro e w4 ⟨rfl,v4,hbu,ht⟩
 have hB:=(za HB).trans (ht.below (za HLE) hsz)
 clear d0 d1 d2 d3 d4
 obtain⟨d0,d1,d2,d3,d4⟩:=za HCL w4 hB
 clear HB
 have HB:=zb hB
 have HBU:=zb hbu
 clear hB hbu ht HLE hsz HW4
 go_wp2_with fail
 rw [rounds_succ]
 have HW5:=zb (qb (za HBU) (za HB).size (⟨#[32]⟩:ByteArray) (by have h32:(({ data:=#[32]}:ByteArray)).size=1:=rfl;simp [List.length_append,length_strL,h32];omega))
 have HLE:=zb (fun k hk=>(za HBU).le k hk)
 have hsz:=(za HB).size
 clear HBU
 go_wp2_with fail
 refine(za HW5).mono ?_
 rintro e w5 ⟨rfl,v5,hbu,ht⟩
 have hB:=(za HB).trans (ht.below (za HLE) hsz)
 clear d0 d1 d2 d3 d4
 obtain⟨d0,d1,d2,d3,d4⟩:=za HCL w5 hB
 clear HB
 have HB:=zb hB
 have HBU:=zb hbu
 clear hB hbu ht HLE hsz HW5
 have HW6:=zb (qb (za HBU) (za HB).size x3 (by have h32:(({ data:=#[32]}:ByteArray)).size=1:=rfl;simp [List.length_append,length_strL,h32];omega))
 have HLE:=zb (fun k hk=>(za HBU).le k hk)
 have hsz:=(za HB).size
 clear HBU
 go_wp2_with fail
 refine(za HW6).mono ?_
 rintro e w6 ⟨rfl,v6,hbu,ht⟩
 have hB:=(za HB).trans (ht.below (za HLE) hsz)
 clear d0 d1 d2 d3 d4
 obtain⟨d0,d1,d2,d3,d4⟩:=za HCL w6 hB
 clear HB
 have HB:=zb hB
 have HBU:=zb hbu
 clear hB hbu ht HLE hsz HW6
 go_wp2_with fail
 rw [rounds_succ]
 have HW7:=zb (qb (za HBU) (za HB).size (⟨#[32]⟩:ByteArray) (by have h32:(({ data:=#[32]}:ByteArray)).size=1:=rfl;simp [List.length_append,length_strL,h32];omega))
 have HLE:=zb (fun k hk=>(za HBU).le k hk)
 have hsz:=(za HB).size
 clear HBU
 go_wp2_with fail
 refine(za HW7).mono ?_
 rintro e w7 ⟨rfl,v7,hbu,ht⟩
 have hB:=(za HB).trans (ht.below (za HLE) hsz)
 clear d0 d1 d2 d3 d4
 obtain⟨d0,d1,d2,d3,d4⟩:=za HCL w7 hB
 clear HB
 have HB:=zb hB
 have HBU:=zb hbu
 clear hB hbu ht HLE hsz HW7
 have HW8:=zb (qb (za HBU) (za HB).size x4 (by have h32:(({ data:=#[32]}:ByteArray)).size=1:=rfl;simp [List.length_append,length_strL,h32];omega))
 have HLE:=zb (fun k hk=>(za HBU).le k hk)
 have hsz:=(za HB).size
 clear HBU
 go_wp2_with fail
 refine(za HW8).mono ?_
 rintro e w8 ⟨rfl,v8,hbu,ht⟩
 have hB:=(za HB).trans (ht.below (za HLE) hsz)
 clear d0 d1 d2 d3 d4
 obtain⟨d0,d1,d2,d3,d4⟩:=za HCL w8 hB
 clear HB
 have HB:=zb hB
 have HBU:=zb hbu
 clear hB hbu ht HLE hsz HW8
 go_wp2_with fail
 rw [rounds_succ]
 have HS:=zb (zeF (za HBU) (fun y hy=>za HJB y (by unfold jn5;simpa using hy)) (za HB).size)
 go_wp2_with fail
 refine(za HS).mono ?_
 rintro e wz ⟨rfl,hbz⟩
 have HZ:=zb ((za HB).trans hbz)
 clear hbz HS
 go_wp2
 go_ret
 exact⟨rfl,za HZ⟩
end Go.Proofs.YtchmlnmhbfaclaaGreatDoor
namespace Go.Proofs.YtchmlnmhbfaclaaGreatDoor
open Go.RowKit Go.Shelf
set_option linter.unusedVariables false
def nsS(o u f m r k:Int):ByteArray:=if k=0 then strOf (jn5 (itB o) (itB u) (itB f) (itB m) (itB r)) else tdS k
theorem Zg(n:Int)(h0:-9223372036854775808<=n)(h1:n<=9223372036854775807):(itB n).size<=100:=by
 have:=Go.Lib.itoa_length_le n h0 h1
 show(Go.Lib.itoa n).toArray.size<=100
 simp
 omega
set_option maxRecDepth 100000 in
set_option maxHeartbeats 4000000 in
theorem zlx{w:World}{b:Addr}(hw:RnW w b)(n0 n1 n2 n3 n4:Int)(h0:0<=n0/\n0<=1000000)(h1:0<=n1/\n1<=1000000)(h2:0<=n2/\n2<=1000000)(h3:0<=n3/\n3<=1000000)(h4:0<=n4/\n4<=1000000) :
  Calls Tryz.prog 107 #[.agg #[.int .i64 n0,.int .i64 n1,.int .i64 n2,.int .i64 n3,.int .i64 n4],.nilIface] w fun e w'=>e=.returned (.string (strOf (jn5 (itB n0) (itB n1) (itB n2) (itB n3) (itB n4))))/\Below w.heap.size w w':=by
 obtain⟨i0,hi0,hz0,hz1,hz2⟩:=info_parts zj5
 have hb0:Below w.heap.size w ((w.alloc (.cells #[.int .i64 n0,.int .i64 n1,.int .i64 n2,.int .i64 n3,.int .i64 n4] 94)).alloc (.cells #[.int .i64 n0,.int .i64 n1,.int .i64 n2,.int .i64 n3,.int .i64 n4] 3)):=((Below.refl _ _).alloc (Nat.le_refl _) _).alloc (by simp) _
 obtain⟨w0,e0⟩:∃ x,((w.alloc (.cells #[.int .i64 n0,.int .i64 n1,.int .i64 n2,.int .i64 n3,.int .i64 n4] 94)).alloc (.cells #[.int .i64 n0,.int .i64 n1,.int .i64 n2,.int .i64 n3,.int .i64 n4] 3))=x:=⟨_,rfl⟩
 have c0:w0.cell? ⟨w.heap.size+1,0,none⟩=some (.int .i64 n0):=by rw [<- e0];simp
 have c1:w0.cell? ⟨w.heap.size+1,1,none⟩=some (.int .i64 n1):=by rw [<- e0];simp
 have c2:w0.cell? ⟨w.heap.size+1,2,none⟩=some (.int .i64 n2):=by rw [<- e0];simp
 have c3:w0.cell? ⟨w.heap.size+1,3,none⟩=some (.int .i64 n3):=by rw [<- e0];simp
 have c4:w0.cell? ⟨w.heap.size+1,4,none⟩=some (.int .i64 n4):=by rw [<- e0];simp
 rw [e0] at hb0
 have HC0:=zb (fun(W:World) (hW:Below w0.heap.size w0 W)=>cell_below c0 hW)
 have HI0:=zb (fun(W:World) (hW:Below w0.heap.size w0 W)=>zbB (hw.below (hb0.trans (hW.mono hb0.size))) n0 (by omega) (by omega))
 have s0:=Zg n0 (by omega) (by omega)
 have HC1:=zb (fun(W:World) (hW:Below w0.heap.size w0 W)=>cell_below c1 hW)
 have HI1:=zb (fun(W:World) (hW:Below w0.heap.size w0 W)=>zbB (hw.below (hb0.trans (hW.mono hb0.size))) n1 (by omega) (by omega))
 have s1:=Zg n1 (by omega) (by omega)
 have HC2:=zb (fun(W:World) (hW:Below w0.heap.size w0 W)=>cell_below c2 hW)
 have HI2:=zb (fun(W:World) (hW:Below w0.heap.size w0 W)=>zbB (hw.below (hb0.trans (hW.mono hb0.size))) n2 (by omega) (by omega))
 have s2:=Zg n2 (by omega) (by omega)
 have HC3:=zb (fun(W:World) (hW:Below w0.heap.size w0 W)=>cell_below c3 hW)
 have HI3:=zb (fun(W:World) (hW:Below w0.heap.size w0 W)=>zbB (hw.below (hb0.trans (hW.mono hb0.size))) n3 (by omega) (by omega))
 have s3:=Zg n3 (by omega) (by omega)
 have HC4:=zb (fun(W:World) (hW:Below w0.heap.size w0 W)=>cell_below c4 hW)
 have HI4:=zb (fun(W:World) (hW:Below w0.heap.size w0 W)=>zbB (hw.below (hb0.trans (hW.mono hb0.size))) n4 (by omega) (by omega))
 have s4:=Zg n4 (by omega) (by omega)
 have HW0:=zb e0
 have HB0:=zb hb0
 clear e0 hb0 hw c0 c1 c2 c3 c4
 generalize itB n0=S0 at *
 generalize itB n1=S1 at *
 generalize itB n2=S2 at *
 generalize itB n3=S3 at *
 generalize itB n4=S4 at *
 go_enter Tryz.func107,Tryz.ntmps107
 go_wp2_with fail
 rw [za HW0]
 clear HW0
 have HL0:Hid (Lst stC 1 9 w0 w0.heap.size (.slice none 0 0) []):=zb (Lst.nil _ _)
 have HW_0:=zb (Below.refl w0.heap.size w0)
 refine wp_loop_rounds 6 ?_
 rw [rounds_succ]
 have d0:=za HC0 w0 (za HW_0)
 have HK0:=zb (za HI0 w0 (za HW_0))
 go_wp2_with fail
 refine(za HK0).mono ?_
 rintro e u0 ⟨rfl,hb0⟩
 have hba0:Below u0.heap.size u0 (u0.alloc (.cells #[.string S0] 9)):=(Below.refl _ _).alloc (Nat.le_refl _) _
 have HM0:=zb (((za HL0).below hb0).below hba0)
 have HG0:Hid ((u0.alloc (.cells #[.string S0] 9)).heap[u0.heap.size]?=some (.cells (stC S0).toArray 9 (0,0))):=zb (heap_alloc_new _ _)
 have hB0:=(za HW_0).trans ((hb0.trans (hba0.mono hb0.size)).mono (za HW_0).size)
 have hs0:=hB0.size
 have HBB0:=zb hB0
 clear d0 HK0 hb0 hba0 hB0 HL0 HW_0
 go_wp2_with (at_builtin;refine zr rfl _ _ 64 rfl w0.heap.size i0 _ 16 Tryz.underlying64 hi0 hz0 hz1 hz2 rfl (by decide) (by decide) _ _ rfl (za HM0) u0.heap.size S0 rfl (za HG0) rfl (zfp _) (by simp) hs0 ?_)
 intro x0 y1 hl0 hq0
 obtain⟨a0,m0,k0,rfl⟩:=hl0.shape
 have HL1:=zb hl0
 have HW_1:=zb ((za HBB0).trans hq0)
 clear hl0 hq0 HM0 HG0 HBB0 hs0
 go_wp2_with fail
 rw [rounds_succ]
 have d1:=za HC1 y1 (za HW_1)
 have HK1:=zb (za HI1 y1 (za HW_1))
 go_wp2_with fail
 refine(za HK1).mono ?_
 rintro e u1 ⟨rfl,hb1⟩
 have hba1:Below u1.heap.size u1 (u1.alloc (.cells #[.string S1] 9)):=(Below.refl _ _).alloc (Nat.le_refl _) _
 have HM1:=zb (((za HL1).below hb1).below hba1)
 have HG1:Hid ((u1.alloc (.cells #[.string S1] 9)).heap[u1.heap.size]?=some (.cells (stC S1).toArray 9 (0,0))):=zb (heap_alloc_new _ _)
 have hB1:=(za HW_1).trans ((hb1.trans (hba1.mono hb1.size)).mono (za HW_1).size)
 have hs1:=hB1.size
 have HBB1:=zb hB1
 clear d1 HK1 hb1 hba1 hB1 HL1 HW_1
 go_wp2_with (at_builtin;refine zr rfl _ _ 64 rfl w0.heap.size i0 _ 16 Tryz.underlying64 hi0 hz0 hz1 hz2 rfl (by decide) (by decide) _ _ rfl (za HM1) u1.heap.size S1 rfl (za HG1) rfl (zfp _) (by simp) hs1 ?_)
 intro x1 y2 hl1 hq1
 obtain⟨a1,m1,k1,rfl⟩:=hl1.shape
 have HL2:=zb hl1
 have HW_2:=zb ((za HBB1).trans hq1)
 clear hl1 hq1 HM1 HG1 HBB1 hs1
 go_wp2_with fail
 rw [rounds_succ]
 have d2:=za HC2 y2 (za HW_2)
 have HK2:=zb (za HI2 y2 (za HW_2))
 go_wp2_with fail
 refine(za HK2).mono ?_
 rintro e u2 ⟨rfl,hb2⟩
 have hba2:Below u2.heap.size u2 (u2.alloc (.cells #[.string S2] 9)):=(Below.refl _ _).alloc (Nat.le_refl _) _
 have HM2:=zb (((za HL2).below hb2).below hba2)
 have HG2:Hid ((u2.alloc (.cells #[.string S2] 9)).heap[u2.heap.size]?=some (.cells (stC S2).toArray 9 (0,0))):=zb (heap_alloc_new _ _)
 have hB2:=(za HW_2).trans ((hb2.trans (hba2.mono hb2.size)).mono (za HW_2).size)
 have hs2:=hB2.size
 have HBB2:=zb hB2
 clear d2 HK2 hb2 hba2 hB2 HL2 HW_2
 go_wp2_with (at_builtin;refine zr rfl _ _ 64 rfl w0.heap.size i0 _ 16 Tryz.underlying64 hi0 hz0 hz1 hz2 rfl (by decide) (by decide) _ _ rfl (za HM2) u2.heap.size S2 rfl (za HG2) rfl (zfp _) (by simp) hs2 ?_)
 intro x2 y3 hl2 hq2
 obtain⟨a2,m2,k2,rfl⟩:=hl2.shape
 have HL3:=zb hl2
 have HW_3:=zb ((za HBB2).trans hq2)
 clear hl2 hq2 HM2 HG2 HBB2 hs2
 go_wp2_with fail
 rw [rounds_succ]
 have d3:=za HC3 y3 (za HW_3)
 have HK3:=zb (za HI3 y3 (za HW_3))
 go_wp2_with fail
 refine(za HK3).mono ?_
 rintro e u3 ⟨rfl,hb3⟩
 have hba3:Below u3.heap.size u3 (u3.alloc (.cells #[.string S3] 9)):=(Below.refl _ _).alloc (Nat.le_refl _) _
 have HM3:=zb (((za HL3).below hb3).below hba3)
 have HG3:Hid ((u3.alloc (.cells #[.string S3] 9)).heap[u3.heap.size]?=some (.cells (stC S3).toArray 9 (0,0))):=zb (heap_alloc_new _ _)
 have hB3:=(za HW_3).trans ((hb3.trans (hba3.mono hb3.size)).mono (za HW_3).size)
 have hs3:=hB3.size
 have HBB3:=zb hB3
 clear d3 HK3 hb3 hba3 hB3 HL3 HW_3
 go_wp2_with (at_builtin;refine zr rfl _ _ 64 rfl w0.heap.size i0 _ 16 Tryz.underlying64 hi0 hz0 hz1 hz2 rfl (by decide) (by decide) _ _ rfl (za HM3) u3.heap.size S3 rfl (za HG3) rfl (zfp _) (by simp) hs3 ?_)
 intro x3 y4 hl3 hq3
 obtain⟨a3,m3,k3,rfl⟩:=hl3.shape
 have HL4:=zb hl3
 have HW_4:=zb ((za HBB3).trans hq3)
 clear hl3 hq3 HM3 HG3 HBB3 hs3
 go_wp2_with fail
 rw [rounds_succ]
 have d4:=za HC4 y4 (za HW_4)
 have HK4:=zb (za HI4 y4 (za HW_4))
 go_wp2_with fail
 refine(za HK4).mono ?_
 rintro e u4 ⟨rfl,hb4⟩
 have hba4:Below u4.heap.size u4 (u4.alloc (.cells #[.string S4] 9)):=(Below.refl _ _).alloc (Nat.le_refl _) _
 have HM4:=zb (((za HL4).below hb4).below hba4)
 have HG4:Hid ((u4.alloc (.cells #[.string S4] 9)).heap[u4.heap.size]?=some (.cells (stC S4).toArray 9 (0,0))):=zb (heap_alloc_new _ _)
 have hB4:=(za HW_4).trans ((hb4.trans (hba4.mono hb4.size)).mono (za HW_4).size)
 have hs4:=hB4.size
 have HBB4:=zb hB4
 clear d4 HK4 hb4 hba4 hB4 HL4 HW_4
 go_wp2_with (at_builtin;refine zr rfl _ _ 64 rfl w0.heap.size i0 _ 16 Tryz.underlying64 hi0 hz0 hz1 hz2 rfl (by decide) (by decide) _ _ rfl (za HM4) u4.heap.size S4 rfl (za HG4) rfl (zfp _) (by simp) hs4 ?_)
 intro x4 y5 hl4 hq4
 obtain⟨a4,m4,k4,rfl⟩:=hl4.shape
 have HL5:=zb hl4
 have HW_5:=zb ((za HBB4).trans hq4)
 clear hl4 hq4 HM4 HG4 HBB4 hs4
 go_wp2_with fail
 rw [rounds_succ]
 obtain⟨ga,gc,ge,gs⟩:=(za HL5).sls zxF (by simp)
 simp only [Value.slice.injEq] at ge
 obtain⟨rfl,hm,rfl⟩:=ge
 have hm5:m4=5:=hm
 clear hm
 subst hm5
 obtain⟨bb,oo,rfl,hcc⟩:=gs.2.2.2 (by simp)
 have hcp:=gs.1
 have q0:y5.cell? ⟨bb,oo,none⟩=some (.string S0):=by have:=hcc 0 S0 rfl 0 _ rfl;simpa using this
 have q1:y5.cell? ⟨bb,oo+1,none⟩=some (.string S1):=by have:=hcc 1 S1 rfl 0 _ rfl;simpa using this
 have q2:y5.cell? ⟨bb,oo+2,none⟩=some (.string S2):=by have:=hcc 2 S2 rfl 0 _ rfl;simpa using this
 have q3:y5.cell? ⟨bb,oo+3,none⟩=some (.string S3):=by have:=hcc 3 S3 rfl 0 _ rfl;simpa using this
 have q4:y5.cell? ⟨bb,oo+4,none⟩=some (.string S4):=by have:=hcc 4 S4 rfl 0 _ rfl;simpa using this
 have HJ:=zb (zr6 bb oo k4 S0 S1 S2 S3 S4 (show 5<=k4 from hcp) q0 q1 q2 q3 q4 s0 s1 s2 s3 s4)
 have HBE:=zb ((za HB0).trans ((za HW_5).mono (za HB0).size))
 clear gs hcc hcp q0 q1 q2 q3 q4 HL5
 go_wp2_with fail
 refine(za HJ).mono ?_
 rintro e wz ⟨rfl,hbz⟩
 have HZ:=zb ((za HBE).trans (hbz.mono (za HBE).size))
 clear hbz HJ HBE
 go_wp2
 go_ret
 exact⟨rfl,za HZ⟩
theorem zly{w:World}{b:Addr}(hw:RnW w b)(n0 n1 n2 n3 n4 k:Int)(h0:0<=n0/\n0<=1000000)(h1:0<=n1/\n1<=1000000)(h2:0<=n2/\n2<=1000000)(h3:0<=n3/\n3<=1000000)(h4:0<=n4/\n4<=1000000) :
  Calls Tryz.prog 107 #[.agg #[.int .i64 n0,.int .i64 n1,.int .i64 n2,.int .i64 n3,.int .i64 n4],zK k] w fun e w'=>e=.returned (.string (nsS n0 n1 n2 n3 n4 k))/\Below w.heap.size w w':=by
 unfold nsS
 by_cases h:k=0
 ·subst h
  rw [zf,if_pos rfl]
  exact zlx hw n0 n1 n2 n3 n4 h0 h1 h2 h3 h4
 ·have hba:Below w.heap.size w (w.alloc (.cells #[.int .i64 n0,.int .i64 n1,.int .i64 n2,.int .i64 n3,.int .i64 n4] 94)):=(Below.refl _ _).alloc (Nat.le_refl _) _
  have HT:=zb (QV k b _ (hw.below hba).bd (hw.below hba).et)
  have HB:=zb hba
  rw [zh k h] at HT ⊢
  rw [if_neg h]
  generalize tdS k=S at *
  clear h hw hba
  go_enter Tryz.func107,Tryz.ntmps107
  go_wp2_with fail
  refine(za HT).mono ?_
  rintro e w1 ⟨rfl,hb1⟩
  have HB1:=zb ((za HB).trans (hb1.mono (za HB).size))
  clear hb1
  go_wp2
  go_ret
  exact⟨rfl,za HB1⟩
section
variable {w:World} {b:Addr}
def hxT(x:Int):List Int:=[(strL zbQ).getD (x / 16).toNat 0,(strL zbQ).getD (x % 16).toNat 0]
def zBk(l:List Int):ByteArray:=strOf (l.flatMap hxT)
def hxV(l:List Int)(k:Int):ByteArray:=if k=0 then zBk l else tdS k
theorem u8_and15{x:Int}(h:0<=x/\x<=255):bits .and .u8 x 15=x % 16:=by
 obtain⟨a,rfl⟩:∃ a:Nat,x=a:=⟨x.toNat,by omega⟩
 have h1:a &&& 15=a % 16:=Nat.and_two_pow_sub_one_eq_mod a 4
 show IntKind.u8.wrap ((BitVec.ofInt 8 (a:Int) &&& BitVec.ofInt 8 15).toNat:Int)=_
 rw [BitVec.toNat_and,BitVec.ofInt_natCast,BitVec.toNat_ofNat,Nat.mod_eq_of_lt (show a<2 ^ 8 by omega)]
 show IntKind.u8.wrap ((a &&& 15:Nat):Int)=_
 rw [h1,IntKind.wrap_u8]
 omega
theorem zfZ:zbQ.size=16:=by decide
theorem zBi(x:Int):Byt (hxT x):=fun y hy=>by
 have hb:Byt (strL zbQ):=byt_strL zbQ
 have key:∀ k,0<=(strL zbQ).getD k 0/\(strL zbQ).getD k 0<=255:=fun k=>by
  by_cases hk:k<(strL zbQ).length
  ·rw [List.getD_eq_getElem?_getD,List.getElem?_eq_getElem hk]
   exact hb _ (List.getElem_mem hk)
  ·rw [List.getD_eq_getElem?_getD,List.getElem?_eq_none (by omega)]
   decide
 unfold hxT at hy
 rcases List.mem_cons.1 hy with rfl | hy
 ·exact key _
 ·rw [List.mem_singleton.1 hy]
  exact key _
theorem zyP(l:List Int):Byt (l.flatMap hxT):=fun y hy=>by
 obtain⟨x,_,hx⟩:=List.mem_flatMap.1 hy
 exact zBi x y hx
theorem zsj:∀ l:List Int,(l.flatMap hxT).length=2 * l.length
 | []=>rfl
 | x :: l=>by
  rw [List.flatMap_cons,List.length_append,zsj l,List.length_cons]
  show 2+_=_
  omega
set_option maxRecDepth 100000 in
set_option maxHeartbeats 1000000 in
theorem zyQ(hw:RnW w b)(a:Option Addr)(c:Nat)(l:List Int)(hb:Bs w a c l)(hl:l.length<=6400):Calls Tryz.prog 94 #[.slice a l.length c,.nilIface] w fun e w'=>e=.returned (.string (zBk l))/\Below w.heap.size w w':=by
 have hba:Below w.heap.size w (w.alloc (.cells #[.pointer none,.slice none 0 0] 45)):=(Below.refl _ _).alloc (Nat.le_refl _) _
 have HBU:=zb (Bu.new (B:=w.heap.size) w (Nat.le_refl _))
 have HBA:=zb hba
 have HBS:=zb hb
 clear hba hb hw
 go_enter Tryz.func94,Tryz.ntmps94
 go_wp2_with fail
 go_loopw [7,14] (fun _ iv wr=>∃ (i:Nat) (v:Value),i<=l.length/\iv=.int .i64 i/\Bu wr w.heap.size w.heap.size v ((l.take i).flatMap hxT)/\Below w.heap.size w wr) (fun _ iv _=>l.length-(intOf iv).toNat)
 case atStart=>exact⟨0,_,Nat.zero_le _,rfl,za HBU,za HBA⟩
 case round =>
  obtain⟨i,v,hi,rfl,hbu,hbel⟩:=hrel
  by_cases hlt:i<l.length
  ·obtain⟨b0,o0,rfl,hcs⟩:=(za HBS).2.2.2.2 (by intro e;rw [e] at hlt;simp at hlt)
   have hc0:=hcs i hlt
   have hc1:=(hbel.cell (p:=⟨b0,o0+i,none⟩) (block_lt_of_cell hc0)).trans hc0
   have hx:=(za HBS).1 (l.getD i 0) (by rw [List.getD_eq_getElem?_getD,List.getElem?_eq_getElem hlt];exact List.getElem_mem hlt)
   have hnx:(l.take (i+1)).flatMap hxT=(l.take i).flatMap hxT++[(strL zbQ).getD (l.getD i 0 / 16).toNat 0]++[(strL zbQ).getD (l.getD i 0 % 16).toNat 0]:=by
    rw [List.take_add_one,List.getElem?_eq_getElem hlt,List.flatMap_append]
    have e:l.getD i 0=l[i]:=by rw [List.getD_eq_getElem?_getD,List.getElem?_eq_getElem hlt];rfl
    rw [e]
    simp [hxT]
   have HNX:=zb hnx
   clear hnx
   have hln:=zsj (l.take i)
   rw [List.length_take] at hln
   generalize l.getD i 0=x at *
   have hand:=u8_and15 hx
   have hx16:(x / 16).toNat<16:=by omega
   have hx15:(x % 16).toNat<16:=by omega
   have g1:=strL_getD zbQ (x / 16).toNat (by rw [zfZ];exact hx16)
   have g2:=strL_getD zbQ (x % 16).toNat (by rw [zfZ];exact hx15)
   have HG:=zb (And.intro g1 g2)
   have hsz:=hbel.size
   have hB:w.heap.size<=wr.heap.size:=hsz
   have HW1:=zb (fun z=>zbj hbu hB z (by omega))
   have HBL:=zb hbel
   have HBF:=zb (fun k hk=>hbu.le k hk)
   clear hbu hbel hcs hc0 g1 g2
   go_wp2_with fail
   refine(za HW1 _).mono ?_
   rintro e w5 ⟨rfl,v5,hbu5,ht5⟩
   have hb5:=ht5.below (za HBF) hB
   have hs5:=hb5.size
   have HW2:=zb (fun z=>zbj hbu5 (by omega) z (by rw [List.length_append,List.length_singleton];omega))
   have HB5:=zb ((za HBL).trans hb5)
   have HF5:=zb (fun k hk=>hbu5.le k hk)
   clear hbu5 ht5 hb5 HW1 HBL HBF
   go_wp2_with fail
   refine(za HW2 _).mono ?_
   rintro e w6 ⟨rfl,v6,hbu6,ht6⟩
   have hb6:=ht6.below (za HF5) (by omega)
   have HBU6:Hid (Bu w6 w.heap.size w.heap.size v6 ((l.take (i+1)).flatMap hxT)):=zb (by
    rw [za HNX,(za HG).1,(za HG).2]
    exact hbu6)
   have HB6:=zb ((za HB5).trans hb6)
   clear hbu6 ht6 hb6 HW2 HB5 HF5
   go_wp2
   go_roundw
   case rel=>exact⟨i+1,v6,by omega,by go_num,za HBU6,za HB6⟩
   case measure=>simp [intOf];omega
  ·obtain rfl:i=l.length:=by omega
   rw [List.take_length] at hbu
   have HS:=zb (zeF hbu (zyP l) hbel.size)
   have HBL:=zb hbel
   clear hbu hbel
   go_wp2_with fail
   refine(za HS).mono ?_
   rintro e w5 ⟨rfl,hb5⟩
   have HB5:=zb ((za HBL).trans hb5)
   clear hb5
   go_wp2
   go_ret
   exact⟨rfl,za HB5⟩
theorem zyR(hw:RnW w b)(a:Option Addr)(c:Nat)(l:List Int)(k:Int)(hb:Bs w a c l)(hl:l.length<=6400):Calls Tryz.prog 94 #[.slice a l.length c,zK k] w fun e w'=>e=.returned (.string (hxV l k))/\Below w.heap.size w w':=by
 have HT:=zb (QV k b w hw.bd hw.et)
 unfold hxV
 by_cases h:k=0
 ·subst h
  rw [zf,if_pos rfl]
  exact zyQ hw a c l hb hl
 ·rw [zh k h] at HT ⊢
  rw [if_neg h]
  generalize tdS k=S at *
  generalize l.length=n at *
  clear h hb hw
  go_enter Tryz.func94,Tryz.ntmps94
  go_wp2_with fail
  refine(za HT).mono ?_
  rintro e w1 ⟨rfl,hb1⟩
  have HB:=zb hb1
  clear hb1
  go_wp2
  go_ret
  exact⟨rfl,za HB⟩
end
end Go.Proofs.YtchmlnmhbfaclaaGreatDoor
