/-
  The law's own digits, and its HEX. (Part of the proof of RunKeeps.)
-/
import Derived.Test.YtchmlnmhbfaclaaGreatDoorJRk
namespace Go.Proofs.YtchmlnmhbfaclaaGreatDoor
open Go.RowKit
set_option linter.unusedVariables false
theorem zw6(W:World):∀ k:Nat,k<10->Sem.run Tryz.prog (Instr.slice 9 (.string { data:=#[48,49,50,51,52,53,54,55,56,57]}) (some (.int .i64 k)) (some (.int .i64 ((k:Int)+1))) none) W=.ok (.string (tx [UInt8.ofNat (48+k)])) W
 | 0,_=>by kernel_rfl
 | 1,_=>by kernel_rfl
 | 2,_=>by kernel_rfl
 | 3,_=>by kernel_rfl
 | 4,_=>by kernel_rfl
 | 5,_=>by kernel_rfl
 | 6,_=>by kernel_rfl
 | 7,_=>by kernel_rfl
 | 8,_=>by kernel_rfl
 | 9,_=>by kernel_rfl
 | k+10,h=>by omega
theorem zwR(W:World):∀ k:Nat,k<16->Sem.run Tryz.prog (Instr.slice 9 (.string { data:=#[48,49,50,51,52,53,54,55,56,57,97,98,99,100,101,102]}) (some (.int .i64 k)) (some (.int .i64 ((k:Int)+1))) none) W=.ok (.string (tx [zbQ.data.toList.getD k 0])) W
 | 0,_=>by kernel_rfl
 | 1,_=>by kernel_rfl
 | 2,_=>by kernel_rfl
 | 3,_=>by kernel_rfl
 | 4,_=>by kernel_rfl
 | 5,_=>by kernel_rfl
 | 6,_=>by kernel_rfl
 | 7,_=>by kernel_rfl
 | 8,_=>by kernel_rfl
 | 9,_=>by kernel_rfl
 | 10,_=>by kernel_rfl
 | 11,_=>by kernel_rfl
 | 12,_=>by kernel_rfl
 | 13,_=>by kernel_rfl
 | 14,_=>by kernel_rfl
 | 15,_=>by kernel_rfl
 | k+16,h=>by omega
set_option maxRecDepth 100000 in
set_option maxHeartbeats 1000000 in
theorem zhk(n:Nat)(hn:n<10)(w:World):Calls Tryz.prog 10 #[.int .i64 n] w fun e w'=>e=.returned (.string (tx [UInt8.ofNat (48+n)]))/\w=w':=by
 have hc:=zw6 w n hn
 have g0:¬ (n:Int)<0:=by omega
 have g1:(n:Int)<10:=by omega
 generalize tx [UInt8.ofNat (48+n)]=S at *
 go_enter Tryz.func10,Tryz.ntmps10
 go_wp2
 go_ret
 exact⟨rfl,rfl⟩
theorem ziw:∀ f n,(dgF f n).length<=f+1
 | 0,n=>Nat.le_refl _
 | f+1,n=>by
  show(if n<10 then [UInt8.ofNat (48+n)] else dgF f (n / 10)++[UInt8.ofNat (48+n % 10)]).length<=_
  have:=ziw f (n / 10)
  split
  ·simp
  ·rw [List.length_append,List.length_singleton];omega
set_option maxRecDepth 100000 in
set_option maxHeartbeats 1000000 in
theorem zhl:∀ (f n:Nat),f<=100->n<10 ^ (f+1)->n<=1000000->∀ w:World,Calls Tryz.prog 10 #[.int .i64 n] w fun e w'=>e=.returned (.string (tx (dgF f n)))/\w=w'
 | 0,n,_,h,_,w=>zhk n (by simpa using h) w
 | f+1,n,hf,h,h6,w=>by
  by_cases hn:n<10
  ·have e:dgF (f+1) n=[UInt8.ofNat (48+n)]:=by unfold dgF;rw [if_pos hn]
   rw [e]
   exact zhk n hn w
  ·have e:dgF (f+1) n=dgF f (n / 10)++[UInt8.ofNat (48+n % 10)]:=by
    show(if n<10 then _ else _)=_
    rw [if_neg hn]
   have h10:n / 10<10 ^ (f+1):=by
    rw [Nat.div_lt_iff_lt_mul (by decide),<- Nat.pow_succ]
    exact h
   have HD:=zb (zhl f (n / 10) (by omega) h10 (by omega) w)
   have hc:=zw6 w (n % 10) (by omega)
   rw [e,<- QU]
   have h1:(n:Int).tdiv 10=((n / 10:Nat):Int):=by rw [Int.tdiv_eq_ediv_of_nonneg (by omega)];omega
   have h2:(n:Int).tmod 10=((n % 10:Nat):Int):=by rw [Int.tmod_eq_emod_of_nonneg (by omega)];omega
   have hTS:¬ 9223372036854775807<(tx (dgF f (n / 10))).size+(tx [UInt8.ofNat (48+n % 10)]).size:=by
    have:=ziw f (n / 10)
    rw [qr,qr,List.length_singleton]
    omega
   have g0:¬ (n:Int)<0:=by omega
   have g1:¬ (n:Int)<10:=by omega
   have k0:((n % 10:Nat):Int)<10:=by omega
   have k1:0<=((n % 10:Nat):Int):=by omega
   have k2:((n / 10:Nat):Int)<=1000000:=by omega
   have k3:0<=((n / 10:Nat):Int):=by omega
   generalize n % 10=r at *
   generalize n / 10=q at *
   generalize tx [UInt8.ofNat (48+r)]=S at *
   generalize tx (dgF f q)=T at *
   clear e h h10
   go_enter Tryz.func10,Tryz.ntmps10
   go_wp2_with fail
   refine(za HD).mono ?_
   rintro e w1 ⟨rfl,rfl⟩
   go_wp2
   go_ret
   exact⟨rfl,rfl⟩
set_option maxRecDepth 100000 in
set_option maxHeartbeats 1000000 in
theorem zj8(a:Option Addr)(c:Nat)(l:List Int)(w:World)(hb:Bs w a c l)(hl:l.length<=200):Calls Tryz.prog 11 #[.slice a l.length c] w fun e w'=>e=.returned (.string (tx (hxU l)))/\Below w.heap.size w w':=by
 have HBS:=zb hb
 clear hb
 go_enter Tryz.func11,Tryz.ntmps11
 go_wp2_with fail
 go_loopw [3,4] (fun sv iv wr=>∃ i:Nat,i<=l.length/\iv=.int .i64 i/\sv=.string (tx (hxU (l.take i)))/\Below w.heap.size w wr) (fun _ iv _=>l.length-(intOf iv).toNat)
 case atStart=>exact⟨0,Nat.zero_le _,rfl,rfl,Below.refl _ _⟩
 case round =>
  obtain⟨i,hi,rfl,rfl,hbel⟩:=hrel
  by_cases hlt:i<l.length
  ·obtain⟨b0,o0,rfl,hcs⟩:=(za HBS).2.2.2.2 (by intro e;rw [e] at hlt;simp at hlt)
   have hc0:=hcs i hlt
   have hc1:=(hbel.cell (p:=⟨b0,o0+i,none⟩) (block_lt_of_cell hc0)).trans hc0
   have hx:=(za HBS).1 (l.getD i 0) (zdJ hlt)
   have hnx:tx (hxU (l.take (i+1)))=(tx (hxU (l.take i))++tx [zbQ.data.toList.getD (l.getD i 0 / 16).toNat 0])++tx [zbQ.data.toList.getD (l.getD i 0 % 16).toNat 0]:=by
    rw [QU,QU]
    congr 1
    unfold hxU
    rw [List.take_add_one,List.getElem?_eq_getElem hlt,List.flatMap_append]
    have e:l.getD i 0=l[i]:=by rw [List.getD_eq_getElem?_getD,List.getElem?_eq_getElem hlt];rfl
    rw [e]
    simp
   have HNX:=zb hnx
   clear hnx
   generalize l.getD i 0=x at *
   have h1:x.tdiv 16=((x / 16).toNat:Int):=by rw [Int.tdiv_eq_ediv_of_nonneg (by omega)];omega
   have h2:x.tmod 16=((x % 16).toNat:Int):=by rw [Int.tmod_eq_emod_of_nonneg (by omega)];omega
   have g1:=fun W=>zwR W (x / 16).toNat (by omega)
   have g2:=fun W=>zwR W (x % 16).toNat (by omega)
   have k0:(((x / 16).toNat:Nat):Int)<16:=by omega
   have k1:(((x % 16).toNat:Nat):Int)<16:=by omega
   have k2:0<=(((x / 16).toNat:Nat):Int):=by omega
   have k3:0<=(((x % 16).toNat:Nat):Int):=by omega
   have hs1:¬ 9223372036854775807<(tx (hxU (l.take i))).size+(tx [zbQ.data.toList.getD (x / 16).toNat 0]).size:=by
    rw [qr,qr,zaO,List.length_take,List.length_singleton]
    omega
   have hs2:¬ 9223372036854775807<(tx (hxU (l.take i))++tx [zbQ.data.toList.getD (x / 16).toNat 0]).size+(tx [zbQ.data.toList.getD (x % 16).toNat 0]).size:=by
    rw [QU,qr,qr,List.length_append,zaO,List.length_take,List.length_singleton,List.length_singleton]
    omega
   generalize (x / 16).toNat=q at *
   generalize (x % 16).toNat=r at *
   generalize tx [zbQ.data.toList.getD q 0]=S at *
   generalize tx [zbQ.data.toList.getD r 0]=T at *
   generalize tx (hxU (l.take i))=U at *
   have HBL:=zb hbel
   have t0:(i:Int)<(l.length:Int):=by omega
   clear hbel hcs hc0
   go_wp2_with fail
   go_quiet (fail)
   go_wp2
   go_roundw
   case rel=>exact⟨i+1,by omega,by go_num,by rw [za HNX],below_drewN (za HBL) _⟩
   case measure=>simp [intOf];omega
  ·obtain rfl:i=l.length:=by omega
   rw [List.take_length]
   have HBL:=zb hbel
   clear hbel
   go_wp2
   go_ret
   exact⟨rfl,za HBL⟩
end Go.Proofs.YtchmlnmhbfaclaaGreatDoor
