/-
  The walk of RunKeeps. (Part of the proofs over package run.)
-/
import Derived.Test.YtchmlnmhbfaclaaGreatDoorJRk
namespace Go.Proofs.YtchmlnmhbfaclaaGreatDoor
open Go.RowKit
set_option linter.unusedVariables false
theorem qT{A B:ByteArray}{m k:Nat}(hA:A.size<=m)(hB:B.size<=k)(hm:m<=100000)(hk:k<=100000):∃ S,A++B=S/\S.size<=m+k/\∀ W:World,(Op.stringOp .add A B).run Tryz.prog W=.ok (.string S) W:=by
 refine⟨A++B,rfl,by rw [ByteArray.size_append];omega,fun W=>?_⟩
 exact run_string_add_sum W A B (by omega)
set_option maxRecDepth 100000 in
set_option maxHeartbeats 4000000 in
theorem zi2(b:Addr)(a0:Option Addr)(cap0:Nat)(l0:List Int)(a1:Option Addr)(cap1:Nat)(l1:List Int)(cut:Int)(w:World)(hw:RnW w b)(w0:Bs w a0 cap0 l0)(w1:Bs w a1 cap1 l1) :
  Calls Tryz.prog 5 #[.slice a0 l0.length cap0,.slice a1 l1.length cap1,.int .i64 cut] w fun e w'=>e=.returned (.bool true)/\Below w.heap.size w w':=by
 have hB0:Below w.heap.size w w:=Below.refl _ _
 by_cases h1:l0.length<1
 ·have t0:(l0.length:Int)<1:=by omega
  have HB:=zb hB0
  clear hw w0 w1 hB0
  go_enter Tryz.func5,Tryz.ntmps5
  go_wp2
  go_ret
  exact⟨rfl,za HB⟩
 by_cases h2:200<l0.length
 ·have t0:¬ (l0.length:Int)<1:=by omega
  have t1:(l0.length:Int) > 200:=by omega
  have HB:=zb hB0
  clear hw w0 w1 hB0
  go_enter Tryz.func5,Tryz.ntmps5
  go_wp2
  go_ret
  exact⟨rfl,za HB⟩
 by_cases h3:l1.length=l0.length
 case neg =>
  have t0:¬ (l0.length:Int)<1:=by omega
  have t1:¬ (l0.length:Int) > 200:=by omega
  have t2:((l1.length:Int) == (l0.length:Int))=false:=beq_eq_false_iff_ne.2 (by omega)
  have HB:=zb hB0
  clear hw w0 w1 hB0
  go_enter Tryz.func5,Tryz.ntmps5
  go_wp2
  go_ret
  exact⟨rfl,za HB⟩
 have e1:=zyI (n:=l0.length) (b:=l0) (c:=l1) (by omega) (by omega) w0.1 w1.1 rfl h3
 have e2:=fun(k:Nat) (hk:k<=200)=>zyH (n:=l0.length) (b:=l0) (c:=l1) (k:=k) (by omega) (by omega) w0.1 w1.1 rfl h3 hk
 have HR:=zb (fun(W:World) (hW:Below w.heap.size w W) (t:ByteArray)=>zqN W b (hw.below hW) t)
 have HX0:=zb (fun(W:World) (hW:Below w.heap.size w W)=>zj8 a0 cap0 l0 W (w0.below hW) (by omega))
 have HX1:=zb (fun(W:World) (hW:Below w.heap.size w W)=>zj8 a1 cap1 l1 W (w1.below hW) (by omega))
 rw [h3] at HX1 ⊢
 have HD:=zb (fun(k:Nat) (hk:k<=200) (W:World)=>zhl 2 k (by decide) (by omega) (by omega) W)
 have t0:¬ (l0.length:Int)<1:=by omega
 have t1:¬ (l0.length:Int) > 200:=by omega
 have hn:l0.length<=200:=by omega
 have hX:(tx (hxU l0)).size<=400:=by rw [qr,zaO];omega
 have hY:(tx (hxU l1)).size<=400:=by rw [qr,zaO];omega
 have hK:(tx (dgF 2 l0.length)).size<=3:=by rw [qr];exact ziw 2 _
 have HB:=zb hB0
 have HDK:=zb (za HD l0.length hn w)
 clear hw w0 w1 hB0 h1 h2 h3
 generalize tx (hxU l0)=X at *
 generalize tx (hxU l1)=Y at *
 generalize tx (dgF 2 l0.length)=K at *
 generalize l0.length=n at *
 clear l0 l1 hn
 obtain⟨S1,eS1,zS1,cS1⟩:=qT (A:=⟨#[110,101,119,32]⟩) (B:=K) (m:=4) (k:=3) (by decide) (hK) (by decide) (by decide)
 obtain⟨S2,eS2,zS2,cS2⟩:=qT (A:=S1) (B:=⟨#[32,48,10,115,101,116,32,97,32,49,10,119,114,105,116,101,32,49,32,48,32]⟩) (m:=7) (k:=21) (zS1) (by decide) (by decide) (by decide)
 obtain⟨S3,eS3,zS3,cS3⟩:=qT (A:=S2) (B:=X) (m:=28) (k:=400) (zS2) (hX) (by decide) (by decide)
 obtain⟨S4,eS4,zS4,cS4⟩:=qT (A:=S3) (B:=⟨#[10,99,111,109,109,105,116,10,119,114,105,116,101,32,49,32,48,32]⟩) (m:=428) (k:=18) (zS3) (by decide) (by decide) (by decide)
 obtain⟨S5,eS5,zS5,cS5⟩:=qT (A:=S4) (B:=Y) (m:=446) (k:=400) (zS4) (hY) (by decide) (by decide)
 obtain⟨S6,eS6,zS6,cS6⟩:=qT (A:=S5) (B:=⟨#[10,99,114,97,115,104,10,103,101,116,32,97,10,114,101,97,100,32,49,32,48,32]⟩) (m:=846) (k:=22) (zS5) (by decide) (by decide) (by decide)
 obtain⟨S7,eS7,zS7,cS7⟩:=qT (A:=S6) (B:=K) (m:=868) (k:=3) (zS6) (hK) (by decide) (by decide)
 obtain⟨S8,eS8,zS8,cS8⟩:=qT (A:=S7) (B:=⟨#[10]⟩) (m:=871) (k:=1) (zS7) (by decide) (by decide) (by decide)
 obtain⟨U1,eU1,zU1,cU1⟩:=qT (A:=⟨#[49,10,110,101,119,10,111,107,10,111,107,10,111,107,10,111,107,10,49,10]⟩) (B:=X) (m:=20) (k:=400) (by decide) (hX) (by decide) (by decide)
 obtain⟨U2,eU2,zU2,cU2⟩:=qT (A:=U1) (B:=⟨#[10]⟩) (m:=420) (k:=1) (zU1) (by decide) (by decide) (by decide)
 rw [eS1,eS2,eS3,eS4,eS5,eS6,eS7,eS8,eU1,eU2] at e1
 have HE1:=zb e1
 have HE2:=zb e2
 have HZ:=zb (And.intro hX (And.intro hY hK))
 clear e1 e2 hX hY hK eS1 zS1 eS2 zS2 eS3 zS3 eS4 zS4 eS5 zS5 eS6 zS6 eS7 zS7 eS8 zS8 eU1 zU1 eU2 zU2
 go_enter Tryz.func5,Tryz.ntmps5
 go_wp2_with fail
 refine(za HDK).mono ?_
 rintro e w2 ⟨rfl,rfl⟩
 go_wp2_with fail
 refine(za HX0 w (za HB)).mono ?_
 rintro e w3 ⟨rfl,hb3⟩
 have HX3:=zb (za HX1 w3 hb3)
 have HB3:=zb hb3
 clear hb3 HX0 HX1 HB HDK
 go_wp2_with fail
 refine(za HX3).mono ?_
 rintro e w4 ⟨rfl,hb4⟩
 have hB4:=(za HB3).trans (hb4.mono (za HB3).size)
 have HR4:=zb (fun t=>za HR w4 hB4 t)
 have HB4:=zb hB4
 clear hb4 hB4 HX3 HB3
 go_wp2_with fail
 refine(za HR4 _).mono ?_
 rintro e w5 ⟨rfl,hb5⟩
 rw [za HE1]
 have hB5:=(za HB4).trans (hb5.mono (za HB4).size)
 have HB5:=zb hB5
 clear hb5 hB5 HR4 HB4 HE1 cS1 cS2 cS3 cS4 cS5 cS6 cS7 cS8
 by_cases hc:cut<0\/200<cut
 ·have HB6:=HB5
  rcases hc with hc | hc
  all_goals
   go_wp2
   go_ret
   exact⟨rfl,za HB6⟩
 obtain⟨k,rfl⟩:∃ k:Nat,cut=k:=⟨cut.toNat,by omega⟩
 have hk:k<=200:=by omega
 have g0:¬ (k:Int)<0:=by omega
 have g1:¬ (k:Int) > 200:=by omega
 obtain⟨S,R,f1,f2,f3,f4,f5⟩:=za HE2 k hk
 have HDN:=zb (za HD k hk w5)
 have hD:(tx (dgF 2 k)).size<=3:=by rw [qr];exact ziw 2 _
 obtain⟨hX,hY,hK⟩:=za HZ
 have HR5:=zb (fun t=>za HR w5 (za HB5) t)
 clear hc hk HE2 HD HZ HR
 generalize tx (dgF 2 k)=D at *
 obtain⟨V1,eV1,zV1,cV1⟩:=qT (A:=⟨#[110,101,119,32]⟩) (B:=K) (m:=4) (k:=3) (by decide) (hK) (by decide) (by decide)
 obtain⟨V2,eV2,zV2,cV2⟩:=qT (A:=V1) (B:=⟨#[32,48,10,119,114,105,116,101,32,49,32,48,32]⟩) (m:=7) (k:=13) (zV1) (by decide) (by decide) (by decide)
 obtain⟨V3,eV3,zV3,cV3⟩:=qT (A:=V2) (B:=X) (m:=20) (k:=400) (zV2) (hX) (by decide) (by decide)
 obtain⟨V4,eV4,zV4,cV4⟩:=qT (A:=V3) (B:=⟨#[10,99,111,109,109,105,116,10,119,114,105,116,101,32,49,32,48,32]⟩) (m:=420) (k:=18) (zV3) (by decide) (by decide) (by decide)
 obtain⟨V5,eV5,zV5,cV5⟩:=qT (A:=V4) (B:=Y) (m:=438) (k:=400) (zV4) (hY) (by decide) (by decide)
 obtain⟨V6,eV6,zV6,cV6⟩:=qT (A:=V5) (B:=⟨#[10,99,117,116,32]⟩) (m:=838) (k:=5) (zV5) (by decide) (by decide) (by decide)
 obtain⟨V7,eV7,zV7,cV7⟩:=qT (A:=V6) (B:=D) (m:=843) (k:=3) (zV6) (hD) (by decide) (by decide)
 obtain⟨V8,eV8,zV8,cV8⟩:=qT (A:=V7) (B:=⟨#[10,99,111,109,109,105,116,10,99,114,97,115,104,10,114,101,97,100,32,49,32,48,32]⟩) (m:=846) (k:=23) (zV7) (by decide) (by decide) (by decide)
 obtain⟨V9,eV9,zV9,cV9⟩:=qT (A:=V8) (B:=K) (m:=869) (k:=3) (zV8) (hK) (by decide) (by decide)
 obtain⟨V10,eV10,zV10,cV10⟩:=qT (A:=V9) (B:=⟨#[10]⟩) (m:=872) (k:=1) (zV9) (by decide) (by decide) (by decide)
 obtain⟨P1,eP1,zP1,cP1⟩:=qT (A:=⟨#[111,107,10,111,107,10]⟩) (B:=Y) (m:=6) (k:=400) (by decide) (hY) (by decide) (by decide)
 obtain⟨P2,eP2,zP2,cP2⟩:=qT (A:=P1) (B:=⟨#[10]⟩) (m:=406) (k:=1) (zP1) (by decide) (by decide) (by decide)
 obtain⟨Q1,eQ1,zQ1,cQ1⟩:=qT (A:=⟨#[69,114,114,76,111,115,116,10,111,107,10]⟩) (B:=X) (m:=11) (k:=400) (by decide) (hX) (by decide) (by decide)
 obtain⟨Q2,eQ2,zQ2,cQ2⟩:=qT (A:=Q1) (B:=⟨#[10]⟩) (m:=411) (k:=1) (zQ1) (by decide) (by decide) (by decide)
 obtain⟨R1,eR1,zR1,cR1⟩:=qT (A:=⟨#[69,114,114,76,111,115,116,10,111,107,10]⟩) (B:=Y) (m:=11) (k:=400) (by decide) (hY) (by decide) (by decide)
 obtain⟨R2,eR2,zR2,cR2⟩:=qT (A:=R1) (B:=⟨#[10]⟩) (m:=411) (k:=1) (zR1) (by decide) (by decide) (by decide)
 rw [eV1,eV2,eV3,eV4,eV5,eV6,eV7,eV8,eV9,eV10] at f1
 rw [eP1,eP2,eQ1,eQ2,eR1,eR2] at f5
 have HF1:=zb f1
 have HF5:=zb f5
 have f2':¬ (S.size:Int)<14:=by omega
 have f6:(14:Int)<=(S.size:Int):=by omega
 clear f1 f2 f5 hX hY hK hD eV1 zV1 eV2 zV2 eV3 zV3 eV4 zV4 eV5 zV5 eV6 zV6 eV7 zV7 eV8 zV8 eV9 zV9 eV10 zV10 eP1 zP1 eP2 zP2 eQ1 zQ1 eQ2 zQ2 eR1 zR1 eR2 zR2
 go_wp2_with fail
 refine(za HDN).mono ?_
 rintro e w6 ⟨rfl,rfl⟩
 go_wp2_with fail
 refine(za HR5 _).mono ?_
 rintro e w7 ⟨rfl,hb7⟩
 rw [za HF1]
 have HB7:=zb ((za HB5).trans (hb7.mono (za HB5).size))
 clear hb7 HR5 HDN HF1 HB5 cV1 cV2 cV3 cV4 cV5 cV6 cV7 cV8 cV9 cV10
 have f5:=za HF5
 clear HF5
 by_cases q1:R=P2
 ·subst q1
  go_wp2
  all_goals
   go_ret
   exact⟨rfl,za HB7⟩
 by_cases q2:R=Q2
 ·subst q2
  go_wp2
  all_goals
   go_ret
   exact⟨rfl,za HB7⟩
 have q3:R=R2:=(f5.resolve_left q1).resolve_left q2
 subst q3
 go_wp2
 all_goals
  go_ret
  exact⟨rfl,za HB7⟩
end Go.Proofs.YtchmlnmhbfaclaaGreatDoor
