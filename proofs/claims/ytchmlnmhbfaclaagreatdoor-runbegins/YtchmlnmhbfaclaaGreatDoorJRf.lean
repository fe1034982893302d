/-
  Parts of the proofs, joined by program.
-/
import Derived.Test.YtchmlnmhbfaclaaGreatDoorJRe
import Derived.Test.YtchmlnmhbfaclaaGreatDoorJTf
import Derived.Test.YtchmlnmhbfaclaaGreatDoorJPo
import Derived.RangeFuncNested
import Derived.RangeFuncBound
import Derived.RangeFuncCalls
import Derived.RangeFuncLeaves
import Derived.Shelf.Abstract
import Derived.Shelf.RegionOpen
import Derived.WalkKit
import Derived.OwnWalkIn
import Derived.TacticsInMore
import Derived.LoopNIn
import Derived.LoopIn
import Derived.OrdersHeld
import Derived.Test.YtchmlnmhbfaclaaGreatDoorJRa
namespace Go.Proofs.YtchmlnmhbfaclaaGreatDoor
open Go.RowKit Go.Shelf
set_option linter.unusedVariables false
section
variable {w0 w w':World} {g p m n t x:Nat} {P P':Ps} {F F':Nat->Prop} {b:Addr}
set_option maxRecDepth 100000 in
set_option maxHeartbeats 2000000 in
theorem zvY(hw:RnW w0 b)(hs:Ssn w0 w g p m P F)(an:Option Addr)(nl cn:Nat)(nm:ByteArray)(a:Option Addr)(bl c:Nat)(hz:Pz m n P)(hS:P.s<=9999)(hm0:Zk n=m)(hm1:1<=m)(hm2:m<=200) :
  Calls Tryz.prog 54 #[.pointer (some ⟨g,0,none⟩),.agg #[.string Zl,.slice an nl cn,.string nm,.slice a bl c]] w fun e w'=>e=.returned (.string (tdS 0))/\SsT w0 w g p m (zdv m P) F w':=by
 have hba:Below w.heap.size w (w.alloc (.cells #[.string Zl,.slice an nl cn,.string nm,.slice a bl c] 114)):=(Below.refl _ _).alloc (Nat.le_refl _) _
 obtain⟨w1,e1⟩:∃ x,(w.alloc (.cells #[.string Zl,.slice an nl cn,.string nm,.slice a bl c] 114))=x:=⟨_,rfl⟩
 have z0:w1.cell? ⟨w.heap.size,0,none⟩=some (.string Zl):=by rw [<- e1];simp
 have z1:w1.cell? ⟨w.heap.size,1,none⟩=some (.slice an nl cn):=by rw [<- e1];simp
 have z2:w1.cell? ⟨w.heap.size,2,none⟩=some (.string nm):=by rw [<- e1];simp
 have z3:w1.cell? ⟨w.heap.size,3,none⟩=some (.slice a bl c):=by rw [<- e1];simp
 rw [e1] at hba
 have hs1:=hs.below hba
 obtain⟨t,x,h1,h2,h3,h4⟩:=hs1
 have s0:w1.cell? ⟨g,0,none⟩=some (.pointer (some ⟨p,0,none⟩)):=by rw [Go.Lib.cell_of_heap h1];rfl
 have s1:w1.cell? ⟨g,1,none⟩=some (.pointer (some ⟨t,0,none⟩)):=by rw [Go.Lib.cell_of_heap h1];rfl
 have HH:Hid (∀ q:Nat,Calls Tryz.prog 89 #[.pointer (some ⟨t,0,none⟩)] (w1.drewN q) fun e w'=>e=.returned (.pointer (some ⟨x,0,none⟩))/\w'=w1.drewN q):=zb (fun q=>(h2.below (below_drewN (Below.refl _ w1) q)).heap.mono fun e w' ⟨he,hw⟩=>⟨he,hw.symm⟩)
 have HX:=zb (fun(q:Nat)=>h2.below (below_drewN (Below.refl _ w1) q))
 have HSS:=zb (fun(q:Nat)=>(show Ssn w0 (w1.drewN q) g p m P F from Ssn.below (w:=w1) ⟨t,x,h1,h2,h3,h4⟩ (below_drewN (Below.refl _ w1) q)))
 have HOV:=zb (fun(q:Nat) (W:World) (h:SsT w0 (w1.drewN q) g p m (zdv m P) F W)=>SsT.over hba (SsT.over (below_drewN (Below.refl _ w1) q) h (Ssn.foot (w:=w1) (m:=m) (P:=P) (p:=p) ⟨t,x,h1,h2,h3,h4⟩)) hs.foot)
 have HN:=zb (fun(W:World) (F':Nat->Prop) (hT:Tf w0 W t p x m (zdv m P) F') (hU:Turn F F' w1 W)=>SsT.over hba (qV h1 h3 h4 hT hU) hs.foot)
 have HRW:=zb (fun(W:World) (hW:Below w0.heap.size w0 W)=>hw.below hW)
 have HW1:=zb e1
 clear hba e1 hs h1 h2 h3 h4 hw
 unfold Zl at *
 go_enter Tryz.func54,Tryz.ntmps54
 go_wp2_with fail
 rw [za HW1]
 clear HW1
 go_quiet ((go_at_call 89;exact Calls.quiet_of_same (za HH _)))
 clear HH
 have HF:=zb (zlg (za HSS nq) hz hS hm0 hm1 hm2)
 go_wp2_with fail
 refine(za HF).mono ?_
 rintro e w2 ⟨rfl,hq⟩
 have HN2:=zb (za HOV nq w2 hq)
 have HR2:=zb (za HRW w2 (by obtain⟨F',hs',_⟩:=hq;exact hs'.base))
 clear hq HF HN HRW HX HSS HOV
 have HT:=zb (QV 0 b w2 (za HR2).bd (za HR2).et)
 rw [zf9] at HT
 go_wp2_with fail
 refine(za HT).mono ?_
 rintro e w3 ⟨rfl,hb3⟩
 have HN3:=zb ((za HN2).below hb3)
 clear hb3 HT HN2
 go_wp2
 go_ret
 exact⟨rfl,za HN3⟩
end
def In9(v:Int):Prop:=-999999999<=v/\v<=999999999
theorem zwE{s:ByteArray}{v:Int}(h:rdN s=some v):In9 v:=by
 unfold rdN at h
 split at h
 ·split at h
  ·rename_i hc
   injection h with h
   subst h
   exact⟨hc.2.1,hc.2.2⟩
  ·cases h
 ·cases h
theorem zbl{s:ByteArray}{o o':Od}(h:tkO 78 s o=some o'):∃ v,In9 v/\o'={ o with nums:=o.nums++[v]}:=by
 cases hq:rdN s with
 | none=>rw [zp3 hq] at h;cases h
 | some v =>
  rw [zp4 hq] at h
  injection h with h
  exact⟨v,zwE hq,h.symm⟩
theorem zxw{s:ByteArray}{o o':Od}(h:tkO 72 s o=some o'):∃ l,rdH s=some l/\o'={ o with body:=l }:=by
 cases hq:rdH s with
 | none=>rw [zp6 hq] at h;cases h
 | some l =>
  rw [zp7 hq] at h
  injection h with h
  exact⟨l,rfl,h.symm⟩
theorem zmz{s:ByteArray}{o o':Od}(h:tkO 65 s o=some o'):o'={ o with name:=s }:=by
 rw [zp5] at h
 injection h with h
 exact h.symm
theorem Qv{r f:ByteArray}{ws:List ByteArray}{i:Nat}{o:Od}(h:rdK r f ws (i+1)=some o):∃ o1,rdK r f ws i=some o1/\tkO ((f.data.toList.getD i 0).toNat) (ws.getD i ⟨#[]⟩) o1=some o:=by
 change (match rdK r f ws i with | some o=>tkO ((f.data.toList.getD i 0).toNat) (ws.getD i ⟨#[]⟩) o | none=>none)=some o at h
 cases hq:rdK r f ws i with
 | none=>rw [hq] at h;cases h
 | some o1=>rw [hq] at h;exact⟨o1,rfl,h⟩
theorem zaA{r f:ByteArray}{ws:List ByteArray}{o:Od}(h:rdK r f ws 0=some o):o=⟨r,[],⟨#[]⟩,[]⟩:=(Option.some.inj h).symm
theorem zao{r:ByteArray}{ws:List ByteArray}{o:Od}(h:rdK r ⟨#[]⟩ ws 0=some o):o=⟨r,[],⟨#[]⟩,[]⟩:=zaA h
theorem zwX{r:ByteArray}{ws:List ByteArray}{o:Od}(h:rdK r ⟨#[78]⟩ ws 1=some o):∃ v,In9 v/\o=⟨r,[v],⟨#[]⟩,[]⟩:=by
 obtain⟨o0,h0,h1⟩:=Qv h
 obtain rfl:=zaA h0
 obtain⟨v,hv,rfl⟩:=zbl h1
 exact⟨v,hv,rfl⟩
theorem zy0{r:ByteArray}{ws:List ByteArray}{o:Od}(h:rdK r ⟨#[78,78]⟩ ws 2=some o):∃ v u,In9 v/\In9 u/\o=⟨r,[v,u],⟨#[]⟩,[]⟩:=by
 obtain⟨o1,h1,h2⟩:=Qv h
 obtain⟨o0,h0,h1⟩:=Qv h1
 obtain rfl:=zaA h0
 obtain⟨v,hv,rfl⟩:=zbl h1
 obtain⟨u,hu,rfl⟩:=zbl h2
 exact⟨v,u,hv,hu,rfl⟩
theorem zvF{r:ByteArray}{ws:List ByteArray}{o:Od}(h:rdK r ⟨#[78,78,78]⟩ ws 3=some o):∃ v u z,In9 v/\In9 u/\In9 z/\o=⟨r,[v,u,z],⟨#[]⟩,[]⟩:=by
 obtain⟨o2,h2,h3⟩:=Qv h
 obtain⟨o1,h1,h2⟩:=Qv h2
 obtain⟨o0,h0,h1⟩:=Qv h1
 obtain rfl:=zaA h0
 obtain⟨v,hv,rfl⟩:=zbl h1
 obtain⟨u,hu,rfl⟩:=zbl h2
 obtain⟨z,hz,rfl⟩:=zbl h3
 exact⟨v,u,z,hv,hu,hz,rfl⟩
theorem zvG{r:ByteArray}{ws:List ByteArray}{o:Od}(h:rdK r ⟨#[78,78,72]⟩ ws 3=some o):∃ v u l,In9 v/\In9 u/\o=⟨r,[v,u],⟨#[]⟩,l⟩:=by
 obtain⟨o2,h2,h3⟩:=Qv h
 obtain⟨o1,h1,h2⟩:=Qv h2
 obtain⟨o0,h0,h1⟩:=Qv h1
 obtain rfl:=zaA h0
 obtain⟨v,hv,rfl⟩:=zbl h1
 obtain⟨u,hu,rfl⟩:=zbl h2
 obtain⟨l,_,rfl⟩:=zxw h3
 exact⟨v,u,l,hv,hu,rfl⟩
theorem zy1{r:ByteArray}{ws:List ByteArray}{o:Od}(h:rdK r ⟨#[65,78]⟩ ws 2=some o):∃ v,In9 v/\o=⟨r,[v],ws.getD 0 ⟨#[]⟩,[]⟩:=by
 obtain⟨o1,h1,h2⟩:=Qv h
 obtain⟨o0,h0,h1⟩:=Qv h1
 obtain rfl:=zaA h0
 obtain rfl:=zmz h1
 obtain⟨v,hv,rfl⟩:=zbl h2
 exact⟨v,hv,rfl⟩
theorem zwY{r:ByteArray}{ws:List ByteArray}{o:Od}(h:rdK r ⟨#[65]⟩ ws 1=some o):o=⟨r,[],ws.getD 0 ⟨#[]⟩,[]⟩:=by
 obtain⟨o0,h0,h1⟩:=Qv h
 obtain rfl:=zaA h0
 obtain rfl:=zmz h1
 rfl
def ssA(m:Nat)(P:Ps)(o:Od):Ps×ByteArray :=
 if o.row=zeN then ({ P with L:=alB P.L (o.nums.getD 0 0) (o.nums.getD 1 0)},nbS (alH P.L (o.nums.getD 0 0) (o.nums.getD 1 0)) (alE P.L (o.nums.getD 0 0) (o.nums.getD 1 0)))
 else if o.row=zbV then ({ P with L:=frB P.L (o.nums.getD 0 0)},tdS (frE P.L (o.nums.getD 0 0)))
 else if o.row=zgA then (wlP P (o.nums.getD 0 0),tdS 0)
 else if o.row=Qa then ({ P with L:=wrB P.L (o.nums.getD 0 0) (o.nums.getD 1 0) o.body },tdS (pcE P.L (o.nums.getD 0 0) (o.nums.getD 1 0) o.body.length))
 else if o.row=ZK then (P,hxV (rdL P.L (o.nums.getD 0 0) (o.nums.getD 1 0) (o.nums.getD 2 0)) (pcE P.L (o.nums.getD 0 0) (o.nums.getD 1 0) (o.nums.getD 2 0)))
 else if o.row=ziQ then ({ P with L:=seF P.L o.name (o.nums.getD 0 0)},noS (seO P.L o.name (o.nums.getD 0 0)) (seE P.L o.name (o.nums.getD 0 0)))
 else if o.row=Zz then ({ P with L:=unF P.L o.name },tdS (unE P.L o.name))
 else if o.row=ziR then (P,nbS (gtH P.L o.name (-1)) (gtE P.L o.name (-1)))
 else if o.row=Qe then ((qR m P).1,tdS (qR m P).2)
 else if o.row=ZC then ({ P with L:=P.K },tdS 0)
 else if o.row=ZB then (P,nbS P.s 0)
 else if o.row=Zl then (zdv m P,tdS 0)
 else if o.row=zbU then ({ P with L:=mvA P.L },nbS (mvN 288 (Ql P.L)) 0)
 else if o.row=ZA then ({ P with L:=swT P.L },nbS ((ddK P.L 40).length:Int) 0)
 else if o.row=zbT then (P,nsS ((zn P.L).length:Int) (zv (zn P.L)) (zv (zy ((P.L.length:Int)-288) (zn P.L))) (qp 0 (zy ((P.L.length:Int)-288) (zn P.L))) ((zy ((P.L.length:Int)-288) (zn P.L)).length:Int) 0)
 else (P,tdS 0)
theorem zkZ(m:Nat)(P:Ps)(o:Od)(h:o.row=zeN):ssA m P o=({ P with L:=alB P.L (o.nums.getD 0 0) (o.nums.getD 1 0)},nbS (alH P.L (o.nums.getD 0 0) (o.nums.getD 1 0)) (alE P.L (o.nums.getD 0 0) (o.nums.getD 1 0))):=by
 unfold ssA
 rw [h]
 rw [if_pos rfl]
theorem zt5(m:Nat)(P:Ps)(o:Od)(h:o.row=zbV):ssA m P o=({ P with L:=frB P.L (o.nums.getD 0 0)},tdS (frE P.L (o.nums.getD 0 0))):=by
 unfold ssA
 rw [h]
 rw [if_neg (by decide),if_pos rfl]
theorem zqn(m:Nat)(P:Ps)(o:Od)(h:o.row=zgA):ssA m P o=(wlP P (o.nums.getD 0 0),tdS 0):=by
 unfold ssA
 rw [h]
 rw [if_neg (by decide),if_neg (by decide),if_pos rfl]
theorem zje(m:Nat)(P:Ps)(o:Od)(h:o.row=Qa):ssA m P o=({ P with L:=wrB P.L (o.nums.getD 0 0) (o.nums.getD 1 0) o.body },tdS (pcE P.L (o.nums.getD 0 0) (o.nums.getD 1 0) o.body.length)):=by
 unfold ssA
 rw [h]
 rw [if_neg (by decide),if_neg (by decide),if_neg (by decide),if_pos rfl]
theorem zmI(m:Nat)(P:Ps)(o:Od)(h:o.row=ZK):ssA m P o=(P,hxV (rdL P.L (o.nums.getD 0 0) (o.nums.getD 1 0) (o.nums.getD 2 0)) (pcE P.L (o.nums.getD 0 0) (o.nums.getD 1 0) (o.nums.getD 2 0))):=by
 unfold ssA
 rw [h]
 rw [if_neg (by decide),if_neg (by decide),if_neg (by decide),if_neg (by decide),if_pos rfl]
theorem zql(m:Nat)(P:Ps)(o:Od)(h:o.row=ziQ):ssA m P o=({ P with L:=seF P.L o.name (o.nums.getD 0 0)},noS (seO P.L o.name (o.nums.getD 0 0)) (seE P.L o.name (o.nums.getD 0 0))):=by
 unfold ssA
 rw [h]
 rw [if_neg (by decide),if_neg (by decide),if_neg (by decide),if_neg (by decide),if_neg (by decide),if_pos rfl]
theorem zqi(m:Nat)(P:Ps)(o:Od)(h:o.row=Zz):ssA m P o=({ P with L:=unF P.L o.name },tdS (unE P.L o.name)):=by
 unfold ssA
 rw [h]
 rw [if_neg (by decide),if_neg (by decide),if_neg (by decide),if_neg (by decide),if_neg (by decide),if_neg (by decide),if_pos rfl]
theorem zqm(m:Nat)(P:Ps)(o:Od)(h:o.row=ziR):ssA m P o=(P,nbS (gtH P.L o.name (-1)) (gtE P.L o.name (-1))):=by
 unfold ssA
 rw [h]
 rw [if_neg (by decide),if_neg (by decide),if_neg (by decide),if_neg (by decide),if_neg (by decide),if_neg (by decide),if_neg (by decide),if_pos rfl]
theorem zgQ(m:Nat)(P:Ps)(o:Od)(h:o.row=Qe):ssA m P o=((qR m P).1,tdS (qR m P).2):=by
 unfold ssA
 rw [h]
 rw [if_neg (by decide),if_neg (by decide),if_neg (by decide),if_neg (by decide),if_neg (by decide),if_neg (by decide),if_neg (by decide),if_neg (by decide),if_pos rfl]
theorem zqo(m:Nat)(P:Ps)(o:Od)(h:o.row=ZC):ssA m P o=({ P with L:=P.K },tdS 0):=by
 unfold ssA
 rw [h]
 rw [if_neg (by decide),if_neg (by decide),if_neg (by decide),if_neg (by decide),if_neg (by decide),if_neg (by decide),if_neg (by decide),if_neg (by decide),if_neg (by decide),if_pos rfl]
theorem zqk(m:Nat)(P:Ps)(o:Od)(h:o.row=ZB):ssA m P o=(P,nbS P.s 0):=by
 unfold ssA
 rw [h]
 rw [if_neg (by decide),if_neg (by decide),if_neg (by decide),if_neg (by decide),if_neg (by decide),if_neg (by decide),if_neg (by decide),if_neg (by decide),if_neg (by decide),if_neg (by decide),if_pos rfl]
theorem zjf(m:Nat)(P:Ps)(o:Od)(h:o.row=Zl):ssA m P o=(zdv m P,tdS 0):=by
 unfold ssA
 rw [h]
 rw [if_neg (by decide),if_neg (by decide),if_neg (by decide),if_neg (by decide),if_neg (by decide),if_neg (by decide),if_neg (by decide),if_neg (by decide),if_neg (by decide),if_neg (by decide),if_neg (by decide),if_pos rfl]
theorem zt4(m:Nat)(P:Ps)(o:Od)(h:o.row=zbU):ssA m P o=({ P with L:=mvA P.L },nbS (mvN 288 (Ql P.L)) 0):=by
 unfold ssA
 rw [h]
 rw [if_neg (by decide),if_neg (by decide),if_neg (by decide),if_neg (by decide),if_neg (by decide),if_neg (by decide),if_neg (by decide),if_neg (by decide),if_neg (by decide),if_neg (by decide),if_neg (by decide),if_neg (by decide),if_pos rfl]
theorem zqj(m:Nat)(P:Ps)(o:Od)(h:o.row=ZA):ssA m P o=({ P with L:=swT P.L },nbS ((ddK P.L 40).length:Int) 0):=by
 unfold ssA
 rw [h]
 rw [if_neg (by decide),if_neg (by decide),if_neg (by decide),if_neg (by decide),if_neg (by decide),if_neg (by decide),if_neg (by decide),if_neg (by decide),if_neg (by decide),if_neg (by decide),if_neg (by decide),if_neg (by decide),if_neg (by decide),if_pos rfl]
theorem zt3(m:Nat)(P:Ps)(o:Od)(h:o.row=zbT):ssA m P o=(P,nsS ((zn P.L).length:Int) (zv (zn P.L)) (zv (zy ((P.L.length:Int)-288) (zn P.L))) (qp 0 (zy ((P.L.length:Int)-288) (zn P.L))) ((zy ((P.L.length:Int)-288) (zn P.L)).length:Int) 0):=by
 unfold ssA
 rw [h]
 rw [if_neg (by decide),if_neg (by decide),if_neg (by decide),if_neg (by decide),if_neg (by decide),if_neg (by decide),if_neg (by decide),if_neg (by decide),if_neg (by decide),if_neg (by decide),if_neg (by decide),if_neg (by decide),if_neg (by decide),if_neg (by decide),if_pos rfl]
theorem zte{w:World}{an:Option Addr}{cn:Nat}{v:Int}(h:Sls inC 1 w an cn [v]):∃ bn on,an=some ⟨bn,on,none⟩/\w.cell? ⟨bn,on,none⟩=some (.int .i64 v):=by
 obtain⟨bn,on,e,hc⟩:=h.2.2.2 (by simp)
 exact⟨bn,on,e,by have:=hc 0 v rfl 0 _ rfl;simpa using this⟩
theorem zxc{w:World}{an:Option Addr}{cn:Nat}{v u:Int}(h:Sls inC 1 w an cn [v,u]):∃ bn on,an=some ⟨bn,on,none⟩/\w.cell? ⟨bn,on,none⟩=some (.int .i64 v)/\w.cell? ⟨bn,on+1,none⟩=some (.int .i64 u):=by
 obtain⟨bn,on,e,hc⟩:=h.2.2.2 (by simp)
 exact⟨bn,on,e,by have:=hc 0 v rfl 0 _ rfl;simpa using this,by have:=hc 1 u rfl 0 _ rfl;simpa using this⟩
theorem cells3{w:World}{an:Option Addr}{cn:Nat}{v u z:Int}(h:Sls inC 1 w an cn [v,u,z]):∃ bn on,an=some ⟨bn,on,none⟩/\w.cell? ⟨bn,on,none⟩=some (.int .i64 v)/\w.cell? ⟨bn,on+1,none⟩=some (.int .i64 u)/\w.cell? ⟨bn,on+2,none⟩=some (.int .i64 z):=by
 obtain⟨bn,on,e,hc⟩:=h.2.2.2 (by simp)
 exact⟨bn,on,e,by have:=hc 0 v rfl 0 _ rfl;simpa using this,by have:=hc 1 u rfl 0 _ rfl;simpa using this,by have:=hc 2 z rfl 0 _ rfl;simpa using this⟩
theorem zxg(L:List Int)(n t:Int):-9223372036854775808<=alH L n t/\alH L n t<=9223372036854775807:=by
 have:=zh8 L
 unfold alH
 split <;> omega
theorem zwV{L:List Int}(hf:Fine L)(s:ByteArray):-9223372036854775808<=gtH L s (-1)/\gtH L s (-1)<=9223372036854775807:=by
 have:=zha hf s
 unfold gtH
 split
 ·rcases this with h | ⟨h1,h2,_⟩ <;> omega
 ·omega
theorem zq2{L:List Int}{m:Nat}(hl:L.length=32 * m)(hm:m<=200)(h x n:Int):(rdL L h x n).length<=6400:=by
 unfold rdL
 split
 ·rw [List.length_take,List.length_drop];omega
 ·simp
structure Ow (w0 w:World) (b:Addr) (g p m n:Nat) (P:Ps) (F:Nat->Prop):Prop where
 rw_:RnW w0 b
 ss:Ssn w0 w g p m P F
 pz:Pz m n P
 s0:0<=P.s
 s9:P.s<=9999
 m0:Zk n=m
 m1:9<=m
 m2:m<=200
theorem Ow.fine{w0 w:World}{b:Addr}{g p m n:Nat}{P:Ps}{F:Nat->Prop}(h:Ow w0 w b g p m n P F):Fine P.L/\Byt P.L/\P.L.length=32 * m:=by
 obtain⟨t,x,_,h2,_⟩:=h.ss
 exact⟨h2.fine.1,h2.fine.2.1,h2.fine.2.2.1⟩
theorem zBE{w0 w:World}{b:Addr}{g p m n:Nat}{P:Ps}{F:Nat->Prop}(h:Ow w0 w b g p m n P F)(s:ByteArray)(hs:s.size<=3000)(o:Od)(ho:rdO s=some o)(an:Option Addr)(cn:Nat)(a:Option Addr)(c:Nat)(hn:Sls inC 1 w an cn o.nums)(hb:Bs w a c o.body) :
  Calls Tryz.prog 54 #[.pointer (some ⟨g,0,none⟩),odV o an cn a c] w fun e w'=>e=.returned (.string (ssA m P o).2)/\SsT w0 w g p m (ssA m P o).1 F w':=by
 obtain⟨hfL,hbL,hlL⟩:=h.fine
 have hm2:=h.m2
 have hnm:∀ x∈wdS s,x.size<=3000:=fun x hx=>Nat.le_trans (zmu s x hx) hs
 have hname:(((wdS s).drop 1).getD 0 ⟨#[]⟩).size<=140737488351232:=by
  by_cases hl:0<((wdS s).drop 1).length
  ·rw [List.getD_eq_getElem?_getD,List.getElem?_eq_getElem hl]
   have:=hnm _ (List.mem_of_mem_drop (List.getElem_mem hl))
   exact Nat.le_trans this (by decide)
  ·rw [List.getD_eq_getElem?_getD,List.getElem?_eq_none (by omega)]
   decide
 unfold rdO at ho
 obtain⟨r,hr⟩:∃ x,(wdS s).getD 0 ⟨#[]⟩=x:=⟨_,rfl⟩
 rw [hr] at ho
 obtain⟨ws,hws⟩:∃ x,(wdS s).drop 1=x:=⟨_,rfl⟩
 rw [hws] at ho hname
 generalize (wdS s).length=WL at *
 clear hr hws hnm
 obtain⟨f,hf⟩:∃ f,fmO r=some f:=by
  cases hq:fmO r with
  | none=>rw [hq] at ho;cases ho
  | some f=>exact⟨f,rfl⟩
 rw [hf] at ho
 dsimp only at ho
 have ho2:rdK r f ws f.size=some o:=by
  by_cases hl:WL=f.size+1
  ·rw [if_pos hl] at ho;exact ho
  ·rw [if_neg hl] at ho;cases ho
 clear ho
 unfold fmO at hf
 by_cases h0:r=zeN
 ·rw [if_pos h0] at hf
  injection hf with hf
  subst hf
  subst h0
  obtain⟨v,u,hv,hu,rfl⟩:=zy0 ho2
  rw [zkZ _ _ _ rfl]
  obtain⟨bn,on,rfl,d0,d1⟩:=zxc hn
  unfold In9 at *
  exact zBB h.rw_ h.ss bn on cn _ a _ c v u d0 d1 (zxg _ _ _)
 rw [if_neg h0] at hf
 by_cases h1:r=zbV
 ·rw [if_pos h1] at hf
  injection hf with hf
  subst hf
  subst h1
  obtain⟨v,hv,rfl⟩:=zwX ho2
  rw [zt5 _ _ _ rfl]
  obtain⟨bn,on,rfl,d0⟩:=zte hn
  unfold In9 at *
  exact zzc h.rw_ h.ss v bn on cn _ c _ a d0
 rw [if_neg h1] at hf
 by_cases h2:r=zgA
 ·rw [if_pos h2] at hf
  injection hf with hf
  subst hf
  subst h2
  obtain⟨v,hv,rfl⟩:=zwX ho2
  rw [zqn _ _ _ rfl]
  obtain⟨bn,on,rfl,d0⟩:=zte hn
  unfold In9 at *
  exact zBD h.rw_ h.ss bn on cn _ a _ c v d0 (by omega)
 rw [if_neg h2] at hf
 by_cases h3:r=Qa
 ·rw [if_pos h3] at hf
  injection hf with hf
  subst hf
  subst h3
  obtain⟨v,u,l,hv,hu,rfl⟩:=zvG ho2
  rw [zje _ _ _ rfl]
  obtain⟨bn,on,rfl,d0,d1⟩:=zxc hn
  unfold In9 at *
  exact zvU h.rw_ h.ss bn on cn _ a _ c v u d0 d1 l hb rfl (by omega)
 rw [if_neg h3] at hf
 by_cases h4:r=ZK
 ·rw [if_pos h4] at hf
  injection hf with hf
  subst hf
  subst h4
  obtain⟨v,u,z,hv,hu,hz,rfl⟩:=zvF ho2
  rw [zmI _ _ _ rfl]
  obtain⟨bn,on,rfl,d0,d1,d2⟩:=cells3 hn
  unfold In9 at *
  exact zza h.rw_ h.ss bn on cn _ a _ c v u z d0 d1 d2 (zx2 hbL _ _ _) (zq2 hlL hm2 _ _ _) (by omega) (by omega)
 rw [if_neg h4] at hf
 by_cases h5:r=ziQ
 ·rw [if_pos h5] at hf
  injection hf with hf
  subst hf
  subst h5
  obtain⟨v,hv,rfl⟩:=zy1 ho2
  rw [zql _ _ _ rfl]
  obtain⟨bn,on,rfl,d0⟩:=zte hn
  unfold In9 at *
  exact zBA h.rw_ h.ss bn on cn _ a _ c v d0 hname
 rw [if_neg h5] at hf
 by_cases h6:r=Zz
 ·rw [if_pos h6] at hf
  injection hf with hf
  subst hf
  subst h6
  obtain rfl:=zwY ho2
  rw [zqi _ _ _ rfl]
  exact zvV h.rw_ h.ss an _ cn _ a _ c hname
 rw [if_neg h6] at hf
 by_cases h7:r=ziR
 ·rw [if_pos h7] at hf
  injection hf with hf
  subst hf
  subst h7
  obtain rfl:=zwY ho2
  rw [zqm _ _ _ rfl]
  exact zBC h.rw_ h.ss an _ cn _ a _ c hname (zwV hfL _)
 rw [if_neg h7] at hf
 by_cases h8:r=Qe
 ·rw [if_pos h8] at hf
  injection hf with hf
  subst hf
  subst h8
  obtain rfl:=zao ho2
  rw [zgQ _ _ _ rfl]
  exact zsV h.rw_ h.ss an _ cn _ a _ c h.s0 (by have:=h.s9;omega) (h.pz.stays h.s9)
 rw [if_neg h8] at hf
 by_cases h9:r=ZC
 ·rw [if_pos h9] at hf
  injection hf with hf
  subst hf
  subst h9
  obtain rfl:=zao ho2
  rw [zqo _ _ _ rfl]
  exact zvZ h.rw_ h.ss an _ cn _ a _ c
 rw [if_neg h9] at hf
 by_cases h10:r=ZB
 ·rw [if_pos h10] at hf
  injection hf with hf
  subst hf
  subst h10
  obtain rfl:=zao ho2
  rw [zqk _ _ _ rfl]
  exact zvX h.rw_ h.ss an _ cn _ a _ c ⟨h.s0,by have:=h.s9;omega⟩
 rw [if_neg h10] at hf
 by_cases h11:r=Zl
 ·rw [if_pos h11] at hf
  injection hf with hf
  subst hf
  subst h11
  obtain rfl:=zao ho2
  rw [zjf _ _ _ rfl]
  exact zvY h.rw_ h.ss an _ cn _ a _ c h.pz h.s9 h.m0 (by have:=h.m1;omega) h.m2
 rw [if_neg h11] at hf
 by_cases h12:r=zbU
 ·rw [if_pos h12] at hf
  injection hf with hf
  subst hf
  subst h12
  obtain rfl:=zao ho2
  rw [zt4 _ _ _ rfl]
  exact zzb h.rw_ h.ss an _ cn _ a _ c (Nat.le_trans zb3 (by decide))
 rw [if_neg h12] at hf
 by_cases h13:r=ZA
 ·rw [if_pos h13] at hf
  injection hf with hf
  subst hf
  subst h13
  obtain rfl:=zao ho2
  rw [zqj _ _ _ rfl]
  exact zvW h.rw_ h.ss an _ cn _ a _ c (Nat.le_trans (ziy _ _) (by decide))
 rw [if_neg h13] at hf
 by_cases h14:r=zbT
 ·rw [if_pos h14] at hf
  injection hf with hf
  subst hf
  subst h14
  obtain rfl:=zao ho2
  rw [zt3 _ _ _ rfl]
  have sm:=(Sta.of P.L).sums hfL
  have st0:0<=((zn P.L).length:Int)/\((zn P.L).length:Int)<=1000000:=by omega
  have st1:0<=(zv (zn P.L))/\(zv (zn P.L))<=1000000:=by omega
  have st2:0<=(zv (zy ((P.L.length:Int)-288) (zn P.L)))/\(zv (zy ((P.L.length:Int)-288) (zn P.L)))<=1000000:=by omega
  have st3:0<=(qp 0 (zy ((P.L.length:Int)-288) (zn P.L)))/\(qp 0 (zy ((P.L.length:Int)-288) (zn P.L)))<=1000000:=by omega
  have st4:0<=((zy ((P.L.length:Int)-288) (zn P.L)).length:Int)/\((zy ((P.L.length:Int)-288) (zn P.L)).length:Int)<=1000000:=by omega
  exact zy9 h.rw_ h.ss an _ cn _ a _ c st0 st1 st2 st3 st4
 rw [if_neg h14] at hf
 cases hf
def lnA(m:Nat)(P:Ps)(s:ByteArray):Ps×ByteArray:=match rdO s with | some o=>ssA m P o | none=>(P,zzU)
theorem QF{m:Nat}{P:Ps}{s:ByteArray}{o:Od}(h:rdO s=some o):lnA m P s=ssA m P o:=by unfold lnA;rw [h]
theorem zeY{m:Nat}{P:Ps}{s:ByteArray}(h:rdO s=none):lnA m P s=(P,zzU):=by unfold lnA;rw [h]
theorem Ow.below{w0 w w':World}{b:Addr}{g p m n:Nat}{P:Ps}{F:Nat->Prop}(h:Ow w0 w b g p m n P F)(hb:Below w.heap.size w w'):Ow w0 w' b g p m n P F:=⟨h.rw_,h.ss.below hb,h.pz,h.s0,h.s9,h.m0,h.m1,h.m2⟩
set_option maxRecDepth 100000 in
set_option maxHeartbeats 2000000 in
theorem zpH{w0 w:World}{b:Addr}{g p m n:Nat}{P:Ps}{F:Nat->Prop}(h:Ow w0 w b g p m n P F)(s:ByteArray)(hs:s.size<=3000) :
  Calls Tryz.prog 16 #[.pointer (some ⟨g,0,none⟩),.string s] w fun e w'=>e=.returned (.string (lnA m P s).2)/\SsT w0 w g p m (lnA m P s).1 F w':=by
 have HR:=zb (zuu (h.rw_.below h.ss.base) s hs)
 have HO:=zb (fun(W:World) (hW:Below w.heap.size w W)=>h.below hW)
 have HS:=zb (fun(Q:Ps) (W W':World) (hW:Below w.heap.size w W) (hq:SsT w0 W g p m Q F W')=>SsT.over hW hq h.ss.foot)
 clear h
 cases ho:rdO s with
 | some o =>
  rw [QF ho]
  have HR2:Hid (Calls Tryz.prog 53 #[.string s] w fun e w'=>Below w.heap.size w w'/\∃ an cn a c,e=.returned (.tuple #[odV o an cn a c,.nilIface])/\Sls inC 1 w' an cn o.nums/\Bs w' a c o.body):=zb ((za HR).mono (fun e w' hq=>by
   obtain⟨hb,hq | hq⟩:=hq
   ·obtain⟨o',an,cn,a,c,h1,h2,h3,h4⟩:=hq
    rw [ho] at h1
    obtain rfl:=Option.some.inj h1
    exact⟨hb,an,cn,a,c,h2,h3,h4⟩
   ·rw [ho] at hq
    cases hq.1))
  have HDO:=zb (fun(W:World) (hW:Below w.heap.size w W) (an:Option Addr) (cn:Nat) (a:Option Addr) (c:Nat) (hn:Sls inC 1 W an cn o.nums) (hb:Bs W a c o.body)=>zBE (za HO W hW) s hs o ho an cn a c hn hb)
  clear HR HO ho
  go_enter Tryz.func16,Tryz.ntmps16
  go_wp2_with fail
  refine(za HR2).mono ?_
  rintro e w1 ⟨hb1,an,cn,a,c,rfl,hn,hbb⟩
  have hba:Below w1.heap.size w1 (w1.alloc (.cells #[.string o.row,.slice an o.nums.length cn,.string o.name,.slice a o.body.length c] 114)):=(Below.refl _ _).alloc (Nat.le_refl _) _
  have hBB:=hb1.trans (hba.mono hb1.size)
  have HD:=zb (za HDO _ hBB an cn a c (hn.below hba) (hbb.below hba))
  have HBB:=zb hBB
  clear hb1 hn hbb hba hBB HDO HR2
  unfold odV at *
  go_wp2_with fail
  refine(za HD).mono ?_
  rintro e w3 ⟨rfl,hq⟩
  have HE:=zb (za HS _ _ _ (za HBB) hq)
  clear hq HD
  go_wp2
  go_ret
  exact⟨rfl,za HE⟩
 | none =>
  rw [zeY ho]
  have HR2:Hid (Calls Tryz.prog 53 #[.string s] w fun e w'=>Below w.heap.size w w'/\e=.returned (.tuple #[.agg #[.string ⟨#[]⟩,.slice none 0 0,.string ⟨#[]⟩,.slice none 0 0],bdV b])):=zb ((za HR).mono (fun e w' hq=>by
   obtain⟨hb,hq | hq⟩:=hq
   ·obtain⟨o',an,cn,a,c,h1,_⟩:=hq
    rw [ho] at h1
    cases h1
   ·exact⟨hb,hq.2⟩))
  have HTB:=zb (fun(W:World) (hW:Below w.heap.size w W)=>ztR b W ((za HO W hW).rw_.below (za HO W hW).ss.base).bd)
  have HST:=zb (fun(W:World) (hW:Below w.heap.size w W)=>(show SsT w0 W g p m P F W from⟨F,(za HO W hW).ss,Turn.refl _ _⟩))
  clear HR HO ho
  unfold bdV at *
  go_enter Tryz.func16,Tryz.ntmps16
  go_wp2_with fail
  refine(za HR2).mono ?_
  rintro e w1 ⟨hb1,rfl⟩
  have hba:Below w1.heap.size w1 (w1.alloc (.cells #[.string ⟨#[]⟩,.slice none 0 0,.string ⟨#[]⟩,.slice none 0 0] 114)):=(Below.refl _ _).alloc (Nat.le_refl _) _
  have hBB:=hb1.trans (hba.mono hb1.size)
  have HT:=zb (za HTB _ hBB)
  have HE0:=zb (za HS _ _ _ hBB (za HST _ hBB))
  clear hb1 hba hBB HTB HST HR2
  go_wp2_with fail
  refine(za HT).mono ?_
  rintro e w3 ⟨rfl,hb3⟩
  have HE:=zb ((za HE0).below hb3)
  clear hb3 HT HE0
  go_wp2
  go_ret
  exact⟨rfl,za HE⟩
set_option maxRecDepth 100000 in
set_option maxHeartbeats 1000000 in
theorem zlh(w:World):Calls Tryz.prog 12 #[] w fun e w'=>∃ g p F,e=.returned (.tuple #[.pointer (some ⟨g,0,none⟩),.nilIface])/\Ssn w w' g p 32 (crP 80 32) F:=by
 have HN:=zb (zuR 80 w w (Below.refl _ _) (by omega) (by omega))
 have HC:=zb (fun(W:World) (q:Nat) (S:Nat->Prop) (hl:Live w W q S (DS.new 80))=>zp8 (m:=32) hl (by omega) (by omega) (by decide))
 go_enter Tryz.func12,Tryz.ntmps12
 go_wp2_with fail
 refine(za HN).mono ?_
 rintro e w1 ⟨p,S,rfl,hl,_,_⟩
 have HC1:=zb (za HC w1 p S hl)
 clear hl HC HN
 go_wp2_with fail
 refine(za HC1).mono ?_
 rintro e w2 ⟨t,x,rfl,F,hF⟩
 have hba:Below w2.heap.size w2 (w2.alloc (.cells #[.pointer (some ⟨p,0,none⟩),.pointer (some ⟨t,0,none⟩)] 106)):=(Below.refl _ _).alloc (Nat.le_refl _) _
 have hsz:=hF.base.size
 have HE:Hid (Ssn w (w2.alloc (.cells #[.pointer (some ⟨p,0,none⟩),.pointer (some ⟨t,0,none⟩)] 106)) w2.heap.size p 32 (crP 80 32) F):=zb ⟨t,x,heap_alloc_new _ _,hF.below hba,fun hf=>by have:=hF.lt _ hf;omega,hsz⟩
 clear hF HC1 hba hsz
 go_wp2
 go_ret2
 exact⟨_,p,F,rfl,za HE⟩
end Go.Proofs.YtchmlnmhbfaclaaGreatDoor
namespace Go.Proofs.YtchmlnmhbfaclaaGreatDoor
open Go.RowKit
set_option linter.unusedVariables false
theorem zwF{r f:ByteArray}{ws:List ByteArray}:∀ {k:Nat} {o:Od},rdK r f ws k=some o->∀ v∈o.nums,In9 v
 | 0,o,h=>by rw [zaA h];intro v hv;cases hv
 | k+1,o,h=>by
  obtain⟨o1,h1,h2⟩:=Qv h
  have ih:=zwF h1
  unfold tkO at h2
  split at h2
  ·split at h2
   ·rename_i v hv
    injection h2 with h2
    subst h2
    intro u hu
    rcases List.mem_append.1 hu with hu | hu
    ·exact ih u hu
    ·rw [List.mem_singleton.1 hu];exact zwE hv
   ·cases h2
  ·split at h2
   ·split at h2
    ·injection h2 with h2
     subst h2
     exact ih
    ·cases h2
   ·injection h2 with h2
    subst h2
    exact ih
theorem zAx{s:ByteArray}{o:Od}(h:rdO s=some o):∀ v∈o.nums,In9 v:=by
 unfold rdO at h
 split at h
 ·split at h
  ·exact zwF h
  ·cases h
 ·cases h
theorem zvr{l:List Int}(h:∀ v∈l,In9 v)(i:Nat):In9 (l.getD i 0):=by
 rw [List.getD_eq_getElem?_getD]
 cases hq:l[i]? with
 | none=>exact⟨by decide,by decide⟩
 | some v=>exact h v (List.mem_of_getElem? hq)
section
variable {m n:Nat} {P:Ps}
theorem Pz.put(h:Pz m n P){L:List Int}(hf:Fine L)(hb:Byt L)(hl:L.length=32 * m):Pz m n { P with L:=L }:=by
 rcases h with h | ⟨N,h⟩
 ·exact .inl ⟨h.nt,hf,h.fk,hb,h.bk,hl,h.lk,h.sn⟩
 ·exact .inr ⟨N,h.ok,h.down,h.crash,hf,h.fk,h.fn,hb,h.bk,h.bn,hl,h.lk,h.ln,h.sn⟩
theorem Pz.lefts(h:Pz m n P){q:Int}(hq:In9 q):Pz m n (wlP P q):=by
 have hq':-9223372036854775808<=q/\q<=9223372036854775807:=by unfold In9 at hq;omega
 rcases h with h | ⟨N,h⟩
 ·exact .inl (h.lefts hq')
 ·exact .inr ⟨N,h.ok.fail hq',h.down,h.crash,h.fl,h.fk,h.fn,h.bl,h.bk,h.bn,h.ll,h.lk,h.ln,h.sn⟩
def KpZ(m n:Nat)(P Q:Ps):Prop:=Pz m n Q/\P.s<=Q.s/\Q.s<=P.s+1
theorem zt2(h:Pz m n P)(hs:P.s<=9999)(o:Od)(ho:∀ v∈o.nums,In9 v):Fine (ssA m P o).1.L->Byt (ssA m P o).1.L->(ssA m P o).1.L.length=32 * m->KpZ m n P (ssA m P o).1:=by
 have same:∀ L:List Int,Fine L->Byt L->L.length=32 * m->KpZ m n P { P with L:=L }:=fun L a b c=>⟨h.put a b c,Int.le_refl _,by show P.s<=P.s+1;omega⟩
 have idn:KpZ m n P P:=⟨h,Int.le_refl _,by omega⟩
 unfold ssA
 by_cases h0:o.row=zeN
 ·rw [if_pos h0]
  exact same _
 rw [if_neg h0]
 by_cases h1:o.row=zbV
 ·rw [if_pos h1]
  exact same _
 rw [if_neg h1]
 by_cases h2:o.row=zgA
 ·rw [if_pos h2]
  exact fun _ _ _=>⟨h.lefts (zvr ho 0),Int.le_refl _,by show P.s<=P.s+1;omega⟩
 rw [if_neg h2]
 by_cases h3:o.row=Qa
 ·rw [if_pos h3]
  exact same _
 rw [if_neg h3]
 by_cases h4:o.row=ZK
 ·rw [if_pos h4]
  exact fun _ _ _=>idn
 rw [if_neg h4]
 by_cases h5:o.row=ziQ
 ·rw [if_pos h5]
  exact same _
 rw [if_neg h5]
 by_cases h6:o.row=Zz
 ·rw [if_pos h6]
  exact same _
 rw [if_neg h6]
 by_cases h7:o.row=ziR
 ·rw [if_pos h7]
  exact fun _ _ _=>idn
 rw [if_neg h7]
 by_cases h8:o.row=Qe
 ·rw [if_pos h8]
  exact fun _ _ _=>h.step hs (6,0,0,0,⟨#[]⟩,[]) (by intro x hx;cases hx)
 rw [if_neg h8]
 by_cases h9:o.row=ZC
 ·rw [if_pos h9]
  exact same _
 rw [if_neg h9]
 by_cases h10:o.row=ZB
 ·rw [if_pos h10]
  exact fun _ _ _=>idn
 rw [if_neg h10]
 by_cases h11:o.row=Zl
 ·rw [if_pos h11]
  intro _ _ _
  obtain⟨K,s,_,_,_,_,k5,k6,k7,_,_,k8⟩:=h.crash hs
  refine⟨.inl k8,?_,?_⟩ <;> (show _<=_;rw [k7];assumption)
 rw [if_neg h11]
 by_cases h12:o.row=zbU
 ·rw [if_pos h12]
  exact same _
 rw [if_neg h12]
 by_cases h13:o.row=ZA
 ·rw [if_pos h13]
  exact same _
 rw [if_neg h13]
 by_cases h14:o.row=zbT
 ·rw [if_pos h14]
  exact fun _ _ _=>idn
 rw [if_neg h14]
 exact fun _ _ _=>idn
theorem zvb(h:Pz m n P)(hs:P.s<=9999)(s:ByteArray)(hf:Fine (lnA m P s).1.L)(hb:Byt (lnA m P s).1.L)(hl:(lnA m P s).1.L.length=32 * m):KpZ m n P (lnA m P s).1:=by
 cases ho:rdO s with
 | none=>rw [zeY ho];exact⟨h,Int.le_refl _,by show P.s<=P.s+1;omega⟩
 | some o =>
  rw [QF ho] at hf hb hl ⊢
  exact zt2 h hs o (zAx ho) hf hb hl
end
theorem Ow.next{w0 w w':World}{b:Addr}{g p m n:Nat}{P:Ps}{F F':Nat->Prop}(h:Ow w0 w b g p m n P F)(s:ByteArray)(hs:P.s+1<=9999)(hS:Ssn w0 w' g p m (lnA m P s).1 F'):Ow w0 w' b g p m n (lnA m P s).1 F'/\(lnA m P s).1.s<=P.s+1:=by
 have hf:Fine (lnA m P s).1.L/\Byt (lnA m P s).1.L/\(lnA m P s).1.L.length=32 * m:=by
  obtain⟨t,x,_,h2,_⟩:=hS
  exact⟨h2.fine.1,h2.fine.2.1,h2.fine.2.2.1⟩
 obtain⟨k1,k2,k3⟩:=zvb h.pz h.s9 s hf.1 hf.2.1 hf.2.2
 have:=h.s0
 exact⟨⟨h.rw_,hS,k1,by omega,by omega,h.m0,h.m1,h.m2⟩,k3⟩
end Go.Proofs.YtchmlnmhbfaclaaGreatDoor
namespace Go.Proofs.YtchmlnmhbfaclaaGreatDoor
open Go.RowKit Go.Shelf
set_option linter.unusedVariables false
def lnC(s:ByteArray):ByteArray×ByteArray:=(tx (Go.Lib.cut s.data.toList [10]).1,tx (Go.Lib.cut s.data.toList [10]).2.1)
theorem zA6(s:ByteArray):(lnC s).1.size<=s.size:=by
 obtain⟨d⟩:=s
 unfold lnC Go.Lib.cut
 generalize Go.Lib.index d.toList [10]=i
 show(tx _).data.size<=d.size
 split <;> simp only [tx,List.size_toArray,List.length_take,Array.length_toList] <;> omega
theorem zni(s:ByteArray)(h:s.size≠0):(lnC s).2.size<s.size:=by
 obtain⟨d⟩:=s
 have h':d.size≠0:=h
 unfold lnC Go.Lib.cut
 generalize Go.Lib.index d.toList [10]=i
 show(tx _).data.size<d.size
 split <;> simp only [tx,List.size_toArray,List.length_drop,List.length_cons,List.length_nil,Array.length_toList] <;> omega
def lnF:Nat->ByteArray->List ByteArray
 | 0,_=>[]
 | k+1,s=>if s.size=0 then [] else (lnC s).1 :: lnF k (lnC s).2
theorem zia:∀ (k j:Nat) (s:ByteArray),s.size<=k->s.size<=j->lnF k s=lnF j s
 | 0,0,_,_,_=>rfl
 | 0,j+1,s,h,_=>by rw [lnF,lnF,if_pos (by omega)]
 | k+1,0,s,_,h=>by rw [lnF,lnF,if_pos (by omega)]
 | k+1,j+1,s,h1,h2=>by
  rw [lnF,lnF]
  by_cases hz:s.size=0
  ·rw [if_pos hz,if_pos hz]
  ·have:=zni s hz
   rw [if_neg hz,if_neg hz,zia k j _ (by omega) (by omega)]
def lnT(s:ByteArray):List ByteArray:=lnF s.size s
theorem zlI{s:ByteArray}(h:s.size=0):lnT s=[]:=by unfold lnT;rw [h];rfl
theorem zeX{s:ByteArray}(h:s.size≠0):lnT s=(lnC s).1 :: lnT (lnC s).2:=by
 have:=zni s h
 unfold lnT
 rw [zia s.size (s.size-1+1) s (Nat.le_refl _) (by omega),lnF,if_neg h,zia (s.size-1) (lnC s).2.size _ (by omega) (Nat.le_refl _)]
def lim(x:ByteArray):ByteArray:=if x.size<=3000 then x else ⟨#[]⟩
theorem zBa(x:ByteArray):(lim x).size<=3000:=by
 unfold lim
 split
 ·assumption
 ·decide
theorem znl{x:ByteArray}(h:x.size<=3000):lim x=x:=if_pos h
def zCH:Value->Nat
 | .string s=>s.size
 | _=>0
set_option maxRecDepth 100000 in
set_option maxHeartbeats 1000000 in
theorem zrW(n:Nat)(hn:1<=n)(l g:Nat)(w0:World)(b:Addr)(hw:RnW w0 b)(s:ByteArray)(hs:s.size<=3000)(J:List ByteArray->World->Prop)(hJ:∀ pre A B,J pre A->Below A.heap.size A B->J pre B)
  (hY:∀ pre x W,J pre W->pre.length<3000->YieldAt Fence.wide (n-1) Tryz.prog l #[.string (lim x)] W fun e W'=>e=.returned (.bool true)/\J (pre++[x]) W'/\Below w0.heap.size W W')
  (W:World) (hW:Below w0.heap.size w0 W) (hg:W.cell? ⟨g,0,none⟩=some (.string s)) (h0:J [] W) :
  CallsIn Fence.wide n Tryz.prog 50 #[.func (.yield l) #[] #[],.pointer (some ⟨g,0,none⟩)] W fun e W'=>(∃ v,e=.returned v)/\J (lnT s) W':=by
 have HY:=zb hY
 have HJ:=zb hJ
 have HW:=zb hw
 clear hY hJ hw
 refine callsIn_of_wp Tryz.func50 rfl trivial ?_ rfl
 simp only [Tryz.ntmps50,List.size_toArray,List.length_cons,List.length_nil,Nat.reduceAdd,Nat.reduceSub,Array.replicate_succ,Array.replicate_zero,List.push_toArray,List.append_toArray,List.nil_append,List.cons_append]
 gi_wp2
 gi_loopw [3] (fun iv wr=>∃ pre r,iv=.string r/\lnT s=pre++lnT r/\pre.length+r.size<=s.size/\J pre wr/\Below w0.heap.size w0 wr) (fun iv _=>zCH iv)
 case atStart=>exact⟨[],s,rfl,rfl,by simp,h0,hW⟩
 case round =>
  obtain⟨pre,r,rfl,hp,hl,hJ1,hb1⟩:=hrel
  by_cases hz:r.size=0
  ·obtain rfl:r=⟨#[]⟩:=by
    obtain⟨d⟩:=r
    have:d=#[]:=Array.eq_empty_of_size_eq_zero hz
    rw [this]
   gi_wp2
   go_end0
   refine⟨⟨_,rfl⟩,?_⟩
   rw [hp,zlI hz,List.append_nil]
   exact hJ1
  ·have t3:r≠⟨#[]⟩:=fun e=>hz (by rw [e];rfl)
   have t4:r.toList.isEmpty=false:=by simpa using QW t3
   have HC:=zb ((callsIn_wide (n:=n-1)).2 (zze ((za HW).below hb1) r ⟨#[10]⟩ (by omega)))
   have HN:=zb (zeX hz)
   have hlt:=zni r hz
   have hle:=zA6 r
   have HP:=zb hp
   have HB1:=zb hb1
   have HJ1:=zb (fun W hW=>za HJ _ _ W hJ1 hW)
   clear t3 hp hb1 hJ1
   gi_wp2
   refine⟨trivial,(za HC).mono ?_⟩
   rintro e w1 ⟨rfl,hb2⟩
   change (lnC r).2.size<r.size at hlt
   have HJ2:=zb (za HJ1 _ hb2)
   have HB2:=zb ((za HB1).trans (hb2.mono (za HB1).size))
   obtain⟨fn,tmps,assign,body,hy,hR⟩:=za HY pre (lnC r).1 w1 (za HJ2) (by omega)
   rw [znl (by omega)] at hy
   have HR:=zb hR
   clear hR hb2 HC HJ1 HB1 HJ2
   change (Instr.yield l #[Value.string (tx (Go.Lib.cut r.data.toList [10]).1)]).run _ _=_ at hy
   gi_wp2
   refine(za HR).mono ?_
   rintro e W3 ⟨rfl,hJ3,hk3⟩
   have HJ3:=zb hJ3
   have HK3:=zb ((za HB2).trans hk3)
   clear hJ3 hk3 HR HB2 hy
   gi_wp2
   go_roundw
   case rel=>exact⟨pre++[(lnC r).1],(lnC r).2,rfl,by rw [za HP,za HN,List.append_assoc];rfl,by rw [List.length_append,List.length_singleton];omega,za HJ3,za HK3⟩
   case measure=>exact hlt
theorem zvc(n:Nat)(s:ByteArray)(w:World) :
  CallsIn Fence.wide n Tryz.prog 14 #[.string s] w fun e w'=>e=.returned (.func (.func 50) #[] #[.pointer (some ⟨w.heap.size,0,none⟩)])/\w'=w.alloc (.cells #[.string s] 9):=by
 refine callsIn_of_wp Tryz.func14 rfl trivial ?_ rfl
 simp only [Tryz.ntmps14,List.size_toArray,List.length_cons,List.length_nil,Nat.reduceAdd,Nat.reduceSub,Array.replicate_succ,Array.replicate_zero,List.push_toArray,List.append_toArray,List.nil_append,List.cons_append]
 gi_wp2
 go_ret
 exact⟨rfl,rfl⟩
end Go.Proofs.YtchmlnmhbfaclaaGreatDoor
namespace Go.Proofs.YtchmlnmhbfaclaaGreatDoor
open Go.RowKit
set_option linter.unusedVariables false
theorem zbN(k:Int):(tdS k).size<=20000:=by
 unfold tdS enS
 repeat' split
 all_goals decide
theorem zjN{v:Int}(h:-9223372036854775808<=v/\v<=9223372036854775807)(k:Int):(nbS v k).size<=20000:=by
 unfold nbS
 split
 ·exact Nat.le_trans (Zg v h.1 h.2) (by decide)
 ·exact zbN k
theorem zAR(q:Bool)(k:Int):(noS q k).size<=20000:=by
 unfold noS
 split
 ·cases q <;> decide
 ·exact zbN k
theorem zjY:∀ l:List Int,(l.flatMap hxT).length=2 * l.length
 | []=>rfl
 | x :: l=>by rw [List.flatMap_cons,List.length_append,zjY l,List.length_cons];show 2+_=_;omega
theorem zBh{l:List Int}(h:l.length<=6400)(k:Int):(hxV l k).size<=20000:=by
 unfold hxV zBk
 split
 ·rw [zcr,zjY];omega
 ·exact zbN k
theorem zAO{a b c d e:Int}(ha:-9223372036854775808<=a/\a<=9223372036854775807)(hb:-9223372036854775808<=b/\b<=9223372036854775807)(hc:-9223372036854775808<=c/\c<=9223372036854775807)(hd:-9223372036854775808<=d/\d<=9223372036854775807)(he:-9223372036854775808<=e/\e<=9223372036854775807)(k:Int):(nsS a b c d e k).size<=20000:=by
 unfold nsS jn5
 split
 ·have h1:=Zg a ha.1 ha.2
  have h2:=Zg b hb.1 hb.2
  have h3:=Zg c hc.1 hc.2
  have h4:=Zg d hd.1 hd.2
  have h5:=Zg e he.1 he.2
  have h6:(⟨#[32]⟩:ByteArray).size=1:=rfl
  rw [zcr]
  simp only [List.length_append,length_strL,h6]
  omega
 ·exact zbN k
theorem zAd{m:Nat}{P:Ps}(hf:Fine P.L)(hl:P.L.length=32 * m)(hm:m<=200)(hs:0<=P.s/\P.s<=9999)(o:Od):(ssA m P o).2.size<=20000:=by
 unfold ssA
 by_cases h0:o.row=zeN
 ·rw [if_pos h0]
  dsimp only
  exact zjN (zxg _ _ _) _
 rw [if_neg h0]
 by_cases h1:o.row=zbV
 ·rw [if_pos h1]
  dsimp only
  exact zbN _
 rw [if_neg h1]
 by_cases h2:o.row=zgA
 ·rw [if_pos h2]
  dsimp only
  exact zbN _
 rw [if_neg h2]
 by_cases h3:o.row=Qa
 ·rw [if_pos h3]
  dsimp only
  exact zbN _
 rw [if_neg h3]
 by_cases h4:o.row=ZK
 ·rw [if_pos h4]
  dsimp only
  exact zBh (zq2 hl hm _ _ _) _
 rw [if_neg h4]
 by_cases h5:o.row=ziQ
 ·rw [if_pos h5]
  dsimp only
  exact zAR _ _
 rw [if_neg h5]
 by_cases h6:o.row=Zz
 ·rw [if_pos h6]
  dsimp only
  exact zbN _
 rw [if_neg h6]
 by_cases h7:o.row=ziR
 ·rw [if_pos h7]
  dsimp only
  exact zjN (zwV hf _) _
 rw [if_neg h7]
 by_cases h8:o.row=Qe
 ·rw [if_pos h8]
  dsimp only
  exact zbN _
 rw [if_neg h8]
 by_cases h9:o.row=ZC
 ·rw [if_pos h9]
  dsimp only
  exact zbN _
 rw [if_neg h9]
 by_cases h10:o.row=ZB
 ·rw [if_pos h10]
  dsimp only
  refine zjN ?_ _
  omega
 rw [if_neg h10]
 by_cases h11:o.row=Zl
 ·rw [if_pos h11]
  dsimp only
  exact zbN _
 rw [if_neg h11]
 by_cases h12:o.row=zbU
 ·rw [if_pos h12]
  dsimp only
  have:=zb3 (L:=P.L)
  refine zjN ?_ _
  omega
 rw [if_neg h12]
 by_cases h13:o.row=ZA
 ·rw [if_pos h13]
  dsimp only
  have:=ziy P.L 40
  refine zjN ?_ _
  omega
 rw [if_neg h13]
 by_cases h14:o.row=zbT
 ·rw [if_pos h14]
  dsimp only
  have sm:=(Sta.of P.L).sums hf
  refine zAO ?_ ?_ ?_ ?_ ?_ _ <;> omega
 rw [if_neg h14]
 dsimp only
 exact zbN _
theorem zA7{m:Nat}{P:Ps}(hf:Fine P.L)(hl:P.L.length=32 * m)(hm:m<=200)(hs:0<=P.s/\P.s<=9999)(s:ByteArray):(lnA m P s).2.size<=20000:=by
 cases ho:rdO s with
 | none=>rw [zeY ho];show zzU.size<=20000;decide
 | some o=>rw [QF ho];exact zAd hf hl hm hs o
def rnO(m:Nat)(P:Ps)(l:List ByteArray):Ps×List Int:=l.foldl (fun a x=>((lnA m a.1 (lim x)).1,a.2++strL (lnA m a.1 (lim x)).2++[10])) (P,[])
theorem zun(m:Nat)(P:Ps)(l:List ByteArray)(x:ByteArray):rnO m P (l++[x])=((lnA m (rnO m P l).1 (lim x)).1,(rnO m P l).2++strL (lnA m (rnO m P l).1 (lim x)).2++[10]):=by
 unfold rnO
 rw [List.foldl_append]
 rfl
end Go.Proofs.YtchmlnmhbfaclaaGreatDoor
