/-
  Parts of the proofs.
-/
import Derived.Test.YtcimhnnendlblaaGreatJDev
import Derived.Test.YtcimhnnendlblaaGreatJIm
set_option maxRecDepth 100000
set_option maxHeartbeats 16000000
set_option linter.all false
namespace Go.Proofs.YtcimhnnendlblaaGreat
open Go.RowKit
def dU(w:World)(q p:Nat)(s:Int):Prop:=w.heap[q]?=some (.cells #[.pointer (some ⟨p,0,none⟩),.int .i64 s] 211 (0,0))
theorem dU.c0{w:World}{q p:Nat}{s:Int}(h:dU w q p s):w.cell? ⟨q,0,none⟩=some (.pointer (some ⟨p,0,none⟩)):=by rw [cell_of_row w q 0 _ _ (0,0) h];rfl
theorem dU.c1{w:World}{q p:Nat}{s:Int}(h:dU w q p s):w.cell? ⟨q,1,none⟩=some (.int .i64 s):=by rw [cell_of_row w q 1 _ _ (0,0) h];rfl
theorem dU.lt{w:World}{q p:Nat}{s:Int}(h:dU w q p s):q<w.heap.size:=(zAg h).1
theorem dU.fr{w:World}{q p:Nat}{s:Int}(h:dU w q p s)(i:Nat):w.frozen? ⟨q,i,none⟩=false:=frozen_of_row w q i _ _ h
theorem dU.same{w w':World}{q p:Nat}{s:Int}(h:dU w q p s)(e:w'.heap[q]?=w.heap[q]?):dU w' q p s:=e.trans h
theorem dU.below{w w':World}{q p:Nat}{s:Int}(h:dU w q p s)(hb:Below w.heap.size w w'):dU w' q p s:=h.same (hb.block q h.lt)
theorem dU.dZ{w w':World}{S S':Nat->Prop}{q p:Nat}{s:Int}(h:dU w q p s)(ht:aE S S' w w')(hn:¬ S q):dU w' q p s/\¬ S' q:=⟨h.same (ht.block q h.lt hn),fun hs=>hn (ht.bA q h.lt hs)⟩
theorem dU.set{w:World}{q p:Nat}{s:Int}(h:dU w q p s)(t:Int):dU (w.setCell ⟨q,1,none⟩ (.int .i64 t)) q p t:=by unfold dU;rw [heap_setCell_same _ _ _ _ _ _ h];rfl
def e9(n:Nat):Int:=if (n:Int)-48<=200 then (n:Int)-48 else 200
section
variable {w:World} {p q:Nat} {S:Nat->Prop} {D:DS} {s:Int}
theorem ke(h:pT w p S D) :
  Calls Tryz.prog 130 #[.pointer (some ⟨p,0,none⟩)] w fun e w'=>e=.returned (.int .i64 (e9 D.secs.length))/\w=w':=by
 have hlen:=h.ok.len;have HL:=af (Ps h);clear h;generalize D.secs.length=n at *;unfold e9;by_cases hc:(n:Int)-48<=200
 ·rw [if_pos hc];go_enter Tryz.func130,Tryz.ntmps130
  go_wp2_with fail
  refine(ae HL).mono ?_;rintro e w1 ⟨rfl,rfl⟩;go_wp2
  all_goals go_ret
  all_goals first | exact⟨rfl,rfl⟩ | (exfalso;omega) | exact⟨congrArg (fun z=>Ending.returned (Value.int .i64 z)) (by omega),rfl⟩
 ·rw [if_neg hc];go_enter Tryz.func130,Tryz.ntmps130
  go_wp2_with fail
  refine(ae HL).mono ?_;rintro e w1 ⟨rfl,rfl⟩;go_wp2
  all_goals go_ret
  all_goals first | exact⟨rfl,rfl⟩ | (exfalso;omega) | exact⟨congrArg (fun z=>Ending.returned (Value.int .i64 z)) (by omega),rfl⟩
theorem z7(h:pT w p S D)(hq:dU w q p s) :
  Calls Tryz.prog 68 #[.pointer (some ⟨q,0,none⟩)] w fun e w'=>e=.returned (.int .i64 (e9 D.secs.length))/\w=w':=by
 have c0:=hq.c0;have HC:=af (ke h);clear h hq;go_enter Tryz.func68,Tryz.ntmps68
 go_wp2_with fail
 refine(ae HC).mono ?_;rintro e w1 ⟨rfl,rfl⟩;go_wp2;go_ret;exact⟨rfl,rfl⟩
def S8(n:Nat)(i:Int):Bool:=decide (0<=i/\i<e9 n)
theorem z8(h:pT w p S D)(hq:dU w q p s)(i:Int) :
  Calls Tryz.prog 240 #[.pointer (some ⟨q,0,none⟩),.int .i64 i] w fun e w'=>e=.returned (.bool (S8 D.secs.length i))/\w=w':=by
 have HC:=af (z7 h hq);clear h hq;unfold S8;generalize e9 D.secs.length=n at *;by_cases h0:0<=i
 ·by_cases h1:i<n
  ·rw [decide_eq_true ⟨h0,h1⟩];go_enter Tryz.func240,Tryz.ntmps240
   go_wp2_with fail
   refine(ae HC).mono ?_;rintro e w1 ⟨rfl,rfl⟩;go_wp2;go_ret;exact⟨rfl,rfl⟩
  ·rw [decide_eq_false (fun h:0<=i/\i<n=>h1 h.2)];go_enter Tryz.func240,Tryz.ntmps240
   go_wp2_with fail
   refine(ae HC).mono ?_;rintro e w1 ⟨rfl,rfl⟩;go_wp2;go_ret;exact⟨congrArg (fun z=>Ending.returned (Value.bool z)) (decide_eq_false (by omega)),rfl⟩
 ·rw [decide_eq_false (fun h=>h0 h.1)];go_enter Tryz.func240,Tryz.ntmps240
  go_wp2;go_ret;exact⟨rfl,rfl⟩
theorem Rs(h:pT w p S D)(hq:dU w q p s) :
  Calls Tryz.prog 203 #[.pointer (some ⟨q,0,none⟩)] w fun e w'=>e=.returned (aR (if D.down then 9 else 0))/\w=w':=by
 have c0:=hq.c0;obtain⟨sb,bm,pv,h'⟩:=h;have HC:=af (Kc h');clear h' hq;cases hd:D.down
 ·rw [hd] at HC;go_enter Tryz.func203,Tryz.ntmps203
  go_wp2_with fail
  refine(ae HC).mono ?_;rintro e w1 ⟨rfl,rfl⟩;go_wp2;go_ret;exact⟨rfl,rfl⟩
 ·rw [hd] at HC;go_enter Tryz.func203,Tryz.ntmps203
  go_wp2_with fail
  refine(ae HC).mono ?_;rintro e w1 ⟨rfl,rfl⟩;go_wp2;go_ret;exact⟨rfl,rfl⟩
theorem Rv(h:pT w p S D)(hq:dU w q p s)(i:Nat)(hi:S8 D.secs.length i=true)(hd:D.down=false) :
  Calls Tryz.prog 234 #[.pointer (some ⟨q,0,none⟩),.int .i64 i] w fun e w'=>∃ g,e=.returned (.tuple #[.slice (some ⟨g,0,none⟩) 32 32,.nilIface])/\w.heap.size<=g/\fH w' g (D.rd (48+i))/\Below w.heap.size w w':=by
 have c0:=hq.c0;have gx:=z8 h hq i;rw [hi] at gx;have aK:=of_decide_eq_true hi;have aM:48+i<D.secs.length/\i<200:=by have h2:=aK.2;unfold e9 at h2;split at h2 <;> omega
 have hr:=IF (48+i) h aM.1 hd;have Z8:=aM.2;rw [show((48+i:Nat):Int)=48+(i:Int) by omega] at hr;have HC:=af gx;have HR:=af hr;clear gx h hq hr aK hi aM;go_enter Tryz.func234,Tryz.ntmps234
 go_wp2_with fail
 refine(ae HC).mono ?_;rintro e w1 ⟨rfl,rfl⟩;go_wp2_with fail
 refine(ae HR).mono ?_;rintro e w1 ⟨g,rfl,h1,h2,h3⟩;go_wp2;go_ret2;exact⟨g,rfl,h1,h2,h3⟩
theorem zJ(g:Nat)(a:Int)(k:Nat)(w:World)(ha:a=0\/a=1)(hk:k<=1000)(hg:w.cell? ⟨g,0,none⟩=some (.int .i64 a)) :
  Calls Tryz.prog 212 #[.int .i64 k,.pointer (some ⟨g,0,none⟩)] w fun e w'=>e=.returned (.int .i64 (2+23 * a+k))/\w=w':=by
 have h0:0<=a:=by omega
 have h1:a<=1:=by omega
 have e:2+a * 23+(k:Int)=2+23 * a+k:=by omega
 clear ha;rw [<- e];clear e;go_enter Tryz.func212,Tryz.ntmps212
 go_wp2;go_ret;exact⟨rfl,rfl⟩
theorem DX(g:Nat)(b cap n:Nat)(k:Nat)(z:Int)(w:World)(hk:k<n)(hn:n<=1000)(hz:0<=z/\z<=1000)(hg:w.cell? ⟨g,0,none⟩=some (.slice (some ⟨b,0,none⟩) n cap))(hb:w.cell? ⟨b,k,none⟩=some (.int .i64 z)) :
  Calls Tryz.prog 213 #[.int .i64 k,.pointer (some ⟨g,0,none⟩)] w fun e w'=>e=.returned (.int .i64 (48+z))/\w=w':=by
 obtain⟨z0,z1⟩:=hz;go_enter Tryz.func213,Tryz.ntmps213
 go_wp2;go_ret;exact⟨rfl,rfl⟩
theorem Kl(g:Nat)(a:Int)(k:Int)(w:World)(hg:w.cell? ⟨g,0,none⟩=some (.int .i64 a)) :
  Calls Tryz.prog 206 #[.int .i64 k,.pointer (some ⟨g,0,none⟩)] w fun e w'=>e=.returned (.int .i64 a)/\w=w':=by
 go_enter Tryz.func206,Tryz.ntmps206
 go_wp2;go_ret;exact⟨rfl,rfl⟩
theorem J2(k:Int)(w:World) :
  Calls Tryz.prog 133 #[.int .i64 k] w fun e w'=>e=.returned (.int .i64 k)/\w=w':=by
 go_enter Tryz.func133,Tryz.ntmps133
 go_wp2;go_ret;exact⟨rfl,rfl⟩
theorem CT(a:Int)(w:World) :
  Calls Tryz.prog 146 #[.int .i64 a] w fun e w'=>e=.returned (.func (.func 212) #[] #[.pointer (some ⟨w.heap.size,0,none⟩)])/\w'=w.alloc (.cells #[.int .i64 a] 3):=by
 go_enter Tryz.func146,Tryz.ntmps146
 go_wp2;go_ret;exact⟨rfl,rfl⟩
theorem JI(v:Option Addr)(n cap:Nat)(w:World) :
  Calls Tryz.prog 147 #[.slice v n cap] w fun e w'=>e=.returned (.func (.func 213) #[] #[.pointer (some ⟨w.heap.size,0,none⟩)])/\w'=w.alloc (.cells #[.slice v n cap] 44):=by
 go_enter Tryz.func147,Tryz.ntmps147
 go_wp2;go_ret;exact⟨rfl,rfl⟩
theorem U5(t:Int)(nv:Value)(w:World)(h0:0<=t)(h1:t<=4294967296) :
  Calls Tryz.prog 205 #[.agg #[.int .i64 t,nv]] w fun e w'=>e=.returned (.int .i64 (t % 2))/\Below w.heap.size w w':=by
 have hb:=Jz t h0 h1;go_enter Tryz.func205,Tryz.ntmps205
 go_wp2;go_ret;refine⟨?_,zBr.alloc zNr _⟩
 first | rfl | (rw [hb])
end
def BG(w:World)(S:Nat->Prop)(b n:Nat)(B:Nat->List Int):Prop :=¬ S b/\∀ k,k<n->∃ ab capb,w.cell? ⟨b,k,none⟩=some (.slice ab (B k).length capb)/\Bs w ab capb (B k)/\(B k≠[]->∀ x,ab=some x->¬ S x.block)
theorem Bs.lt{w:World}{a:Option Addr}{cap:Nat}{l:List Int}(h:Bs w a cap l)(aO:l≠[]){x:Addr}(hx:a=some x):x.block<w.heap.size:=by obtain⟨b,off,rfl,hc⟩:=h.2.2.2.2 aO;obtain rfl:=zOi hx;exact block_lt_of_cell (hc 0 (by cases l with | nil=>exact absurd rfl aO | cons _ _=>simp))
theorem Bs.turns{w w':World}{S S':Nat->Prop}{a:Option Addr}{cap:Nat}{l:List Int}(h:Bs w a cap l)(hn:l≠[]->∀ x,a=some x->¬ S x.block)(ht:aE S S' w w'):Bs w' a cap l/\(l≠[]->∀ x,a=some x->¬ S' x.block):=by
 by_cases h0:l=[]
 ·subst h0;exact⟨⟨h.1,h.2.1,h.2.2.1,h.2.2.2.1,fun e=>absurd rfl e⟩,fun e=>absurd rfl e⟩
 ·exact⟨h.dZ ht (hn h0),fun _ x hx hs=>hn h0 x hx (ht.bA _ (h.lt h0 hx) hs)⟩
theorem BG.dZ{w w':World}{S S':Nat->Prop}{b n:Nat}{B:Nat->List Int}(h:BG w S b n B)(ht:aE S S' w w')(hb:b<w.heap.size):BG w' S' b n B:=by refine⟨fun hs=>h.1 (ht.bA b hb hs),fun k hk=>?_⟩;obtain⟨ab,capb,h1,h2,h3⟩:=h.2 k hk;obtain⟨h4,h5⟩:=h2.turns h3 ht;exact⟨ab,capb,(World.cell?_of_block (a:=⟨b,k,none⟩) (ht.block b hb h.1)).trans h1,h4,h5⟩
section
variable {w0 w:World} {p:Nat} {S:Nat->Prop} {D:DS}
theorem mL(F g b n cap:Nat)(B:Nat->List Int)(f:Nat->Int)(h:Live w0 w p S D)(hb:BG w S b n B)(iq:b<w.heap.size)(hn:n<=300)(hnc:n<=cap)
  (hF:∀ args w',(callFunc F args).run Tryz.prog w'=.ok (.enter F args) w')
  (hf:∀ w' S',aE S S' w w'->∀ k:Nat,k<n->Calls Tryz.prog F #[.int .i64 k,.pointer (some ⟨g,0,none⟩)] w' fun e w''=>e=.returned (.int .i64 (f k))/\w'=w'') :
  Calls Tryz.prog 132 #[.pointer (some ⟨p,0,none⟩),.slice (some ⟨b,0,none⟩) n cap,.func (.func F) #[] #[.pointer (some ⟨g,0,none⟩)]] w fun e w' =>e=.returned (aR (eD (kT (D,0) (fun i=>(f i,B i)) n)).2)/\∃ S',Live w0 w' p S' (eD (kT (D,0) (fun i=>(f i,B i)) n)).1/\aE S S' w w':=by
 obtain⟨W,hW⟩:∃ W:Nat->DS×Int,W=kT (D,0) (fun i=>(f i,B i)):=⟨_,rfl⟩;have W0:W 0=(D,0):=by rw [hW];rfl
 have WS:∀ k,W (k+1)=eJ (W k) (f k) (B k):=by intro k;rw [hW];rfl
 have WL:∀ k,(W k).2≠0->∀ m,k<=m->W m=W k:=by intro k hk m hm;rw [hW] at hk ⊢;exact qk hk m hm
 rw [<- hW];have H:=af h;have HB:=af hb;have HF:=af hf;have HFF:=af hF;clear h hb hf hW hF;have HW:Hid (W 0=(D,0)/\(∀ k,W (k+1)=eJ (W k) (f k) (B k))/\∀ k,(W k).2≠0->∀ m,k<=m->W m=W k):=af ⟨W0,WS,WL⟩;clear W0 WS WL;go_enter Tryz.func132,Tryz.ntmps132
 go_wp2_with fail
 go_loopw [12] (fun v wr=>∃ k:Nat,k<=n/\v=.int .i64 k/\(W k).2=0/\∃ S1,Live w0 wr p S1 (W k).1/\aE S S1 w wr) (fun v _=>n-(intOf v).toNat)
 case atStart=>exact⟨0,Nat.zero_le _,rfl,by rw [(ae HW).1],S,by rw [(ae HW).1];exact ae H,aE.refl _ _⟩
 case round =>
  obtain⟨k,hk,rfl,hz,S1,hl,ht⟩:=hrel;by_cases aM:k<n
  ·have PR:=(ae HB).dZ ht iq;obtain⟨ab,capb,dR,nH,BS⟩:=PR.2 k aM;have hcf:=ae HF wr S1 ht k aM;have qM:=hl.write (f k) (a:=ab) (cap:=capb) (l:=B k) ⟨nH,BS⟩;have Az:=(ae HW).2.1 k;rw [zg hz] at Az;have HC:=af hcf;have HR:=af qM;have HT:=af ht;have HS:=af Az;have JT:=nH.2.2.1;clear hcf qM ht nH BS PR hl Az;generalize (W k).1.cX (f k) (B k)=E at HR HS;generalize (W k).1.write (f k) (B k)=D2 at HR HS;generalize (B k).length=bl at dR HR JT;generalize f k=fk at HR HC;go_wp2_with fail
   rw [ae HFF,Oper.upon_enter];refine(ae HC).mono ?_;rintro e w1 ⟨rfl,rfl⟩;go_wp2_with fail
   refine(ae HR).mono ?_;rintro e w1 ⟨rfl,S2,lR,iu⟩;by_cases Ye:E=0
   ·subst Ye;rw [aA];go_wp2;go_roundw
    case rel=>exact⟨k+1,by omega,by go_num,by rw [ae HS],S2,by rw [ae HS];exact lR,(ae HT).trans iu⟩
    case measure=>simp [intOf];omega
   ·rw [aC _ Ye];go_wp2;go_ret;have he:W n=W (k+1):=(ae HW).2.2 (k+1) (by rw [ae HS];exact Ye) n (by omega);have hx:eD (W n)=(D2,E):=by rw [he,ae HS];exact ib Ye
    refine⟨by rw [hx];exact congrArg Ending.returned (aC _ Ye).symm,S2,by rw [hx];exact lR,(ae HT).trans iu⟩
  ·obtain rfl:k=n:=by omega
   have pN:=hl.flush;have HR:=af pN;have HT:=af ht;clear pN ht hl;go_wp2_with fail
   refine(ae HR).mono ?_;rintro e w1 ⟨rfl,S2,lR,iu⟩;go_wp2;go_ret;rw [zh hz];exact⟨rfl,S2,lR,(ae HT).trans iu⟩
theorem G8(F b n cap:Nat)(B:Nat->List Int)(f:Nat->Int)(h:Live w0 w p S D)(hb:BG w S b n B)(iq:b<w.heap.size)(hn:n<=300)(hnc:n<=cap)
  (hF:∀ args w',(callFunc F args).run Tryz.prog w'=.ok (.enter F args) w')
  (hf:∀ w' S',aE S S' w w'->∀ k:Nat,k<n->Calls Tryz.prog F #[.int .i64 k] w' fun e w''=>e=.returned (.int .i64 (f k))/\w'=w'') :
  Calls Tryz.prog 132 #[.pointer (some ⟨p,0,none⟩),.slice (some ⟨b,0,none⟩) n cap,.func (.func F) #[] #[]] w fun e w' =>e=.returned (aR (eD (kT (D,0) (fun i=>(f i,B i)) n)).2)/\∃ S',Live w0 w' p S' (eD (kT (D,0) (fun i=>(f i,B i)) n)).1/\aE S S' w w':=by
 obtain⟨W,hW⟩:∃ W:Nat->DS×Int,W=kT (D,0) (fun i=>(f i,B i)):=⟨_,rfl⟩;have W0:W 0=(D,0):=by rw [hW];rfl
 have WS:∀ k,W (k+1)=eJ (W k) (f k) (B k):=by intro k;rw [hW];rfl
 have WL:∀ k,(W k).2≠0->∀ m,k<=m->W m=W k:=by intro k hk m hm;rw [hW] at hk ⊢;exact qk hk m hm
 rw [<- hW];have H:=af h;have HB:=af hb;have HF:=af hf;have HFF:=af hF;clear h hb hf hW hF;have HW:Hid (W 0=(D,0)/\(∀ k,W (k+1)=eJ (W k) (f k) (B k))/\∀ k,(W k).2≠0->∀ m,k<=m->W m=W k):=af ⟨W0,WS,WL⟩;clear W0 WS WL;go_enter Tryz.func132,Tryz.ntmps132
 go_wp2_with fail
 go_loopw [12] (fun v wr=>∃ k:Nat,k<=n/\v=.int .i64 k/\(W k).2=0/\∃ S1,Live w0 wr p S1 (W k).1/\aE S S1 w wr) (fun v _=>n-(intOf v).toNat)
 case atStart=>exact⟨0,Nat.zero_le _,rfl,by rw [(ae HW).1],S,by rw [(ae HW).1];exact ae H,aE.refl _ _⟩
 case round =>
  obtain⟨k,hk,rfl,hz,S1,hl,ht⟩:=hrel;by_cases aM:k<n
  ·have PR:=(ae HB).dZ ht iq;obtain⟨ab,capb,dR,nH,BS⟩:=PR.2 k aM;have hcf:=ae HF wr S1 ht k aM;have qM:=hl.write (f k) (a:=ab) (cap:=capb) (l:=B k) ⟨nH,BS⟩;have Az:=(ae HW).2.1 k;rw [zg hz] at Az;have HC:=af hcf;have HR:=af qM;have HT:=af ht;have HS:=af Az;have JT:=nH.2.2.1;clear hcf qM ht nH BS PR hl Az;generalize (W k).1.cX (f k) (B k)=E at HR HS;generalize (W k).1.write (f k) (B k)=D2 at HR HS;generalize (B k).length=bl at dR HR JT;generalize f k=fk at HR HC;go_wp2_with fail
   rw [ae HFF,Oper.upon_enter];refine(ae HC).mono ?_;rintro e w1 ⟨rfl,rfl⟩;go_wp2_with fail
   refine(ae HR).mono ?_;rintro e w1 ⟨rfl,S2,lR,iu⟩;by_cases Ye:E=0
   ·subst Ye;rw [aA];go_wp2;go_roundw
    case rel=>exact⟨k+1,by omega,by go_num,by rw [ae HS],S2,by rw [ae HS];exact lR,(ae HT).trans iu⟩
    case measure=>simp [intOf];omega
   ·rw [aC _ Ye];go_wp2;go_ret;have he:W n=W (k+1):=(ae HW).2.2 (k+1) (by rw [ae HS];exact Ye) n (by omega);have hx:eD (W n)=(D2,E):=by rw [he,ae HS];exact ib Ye
    refine⟨by rw [hx];exact congrArg Ending.returned (aC _ Ye).symm,S2,by rw [hx];exact lR,(ae HT).trans iu⟩
  ·obtain rfl:k=n:=by omega
   have pN:=hl.flush;have HR:=af pN;have HT:=af ht;clear pN ht hl;go_wp2_with fail
   refine(ae HR).mono ?_;rintro e w1 ⟨rfl,S2,lR,iu⟩;go_wp2;go_ret;rw [zh hz];exact⟨rfl,S2,lR,(ae HT).trans iu⟩
end
section
open Go.MapKept
open Go.ChangeMaps
open Go.Maps (Keyed)
def qa(w:World)(S:Nat->Prop)(a:Option Addr)(cap:Nat)(l:List (Int×List Int)):Prop :=
 l.length<=cap/\l.length<=140737488351232/\(l≠[]->∃ b off,a=some ⟨b,off,none⟩/\¬ S b/\∀ i,i<l.length->w.cell? ⟨b,off+i * 2,none⟩=some (.int .i64 (l.getD i (0,[])).1) /\
  ∃ ab capb,w.cell? ⟨b,off+(i * 2+1),none⟩=some (.slice ab (l.getD i (0,[])).2.length capb)/\Bs w ab capb (l.getD i (0,[])).2/\((l.getD i (0,[])).2≠[]->∀ x,ab=some x->¬ S x.block)/\-9223372036854775808<=(l.getD i (0,[])).1/\(l.getD i (0,[])).1<=9223372036854775807)
def On(w:World)(m k:Nat)(l:List (Int×List Int)):Prop :=∃ Dm:DataW Unit,w.ownsMap Tryz.prog 3 (plainElem Tryz.prog 3) m k Dm/\∀ z:Int,Maps.has Dm (.int .i64 z)=(List.range k).any (fun j=>(l.getD j (0,[])).1 == z)
theorem On.made(w:World)(l:List (Int×List Int)):On (w.alloc (.map #[] 0)) w.heap.size 0 l:=⟨.map [],World.ownsMap_made w _ _ _,fun z=>rfl⟩
theorem On.lt{w:World}{m k:Nat}{l:List (Int×List Int)}(h:On w m k l):m<w.heap.size:=by obtain⟨Dm,h1,_⟩:=h;exact h1.lt
theorem On.same{w w':World}{m k:Nat}{l:List (Int×List Int)}(h:On w m k l)(hs:w'.heap[m]?=w.heap[m]?):On w' m k l:=by obtain⟨Dm,⟨es,clock,hb,r⟩,h2⟩:=h;exact⟨Dm,⟨es,clock,hs.trans hb,r⟩,h2⟩
theorem UF(w:World):(zeroValue 3).run Tryz.prog w=.ok (.int .i64 0) w:=by obtain⟨i0,eP,cY,dw,dz⟩:=info_parts uD;simp [zeroValue,typeInfo,eP,cY]
theorem On.look{w:World}{m k:Nat}{l:List (Int×List Int)}(h:On w m k l)(z:Int)(hz:-9223372036854775808<=z/\z<=9223372036854775807) :
  ∃ v,(Instr.lookup 164 (.map (some m)) (.int .i64 z) true).run Tryz.prog w=.ok (.tuple #[.int .i64 v,.bool ((List.range k).any (fun j=>(l.getD j (0,[])).1 == z))]) w:=by
 obtain⟨Dm,h1,h2⟩:=h;have hwf:(Lit.int .i64 z).wf=true:=WalkArith.wf_i64 hz;have dt:=Maps.keyOf_int_mk (P:=Tryz.prog) zu3 hwf;obtain⟨v,ps,bw,hv⟩:=h1.look_ok (Maps.int_keyed zu3) zu164 (UF w) (plainElem_int zu3 (a:=0) (by decide)) dt;obtain⟨a,rfl,_⟩:=plainElem_int_inv zu3 hv;exact⟨a,by rw [bw,h2 z]⟩
theorem On.store{w:World}{m k:Nat}{l:List (Int×List Int)}(h:On w m k l)(hk:k<=300)(hz:-9223372036854775808<=(l.getD k (0,[])).1/\(l.getD k (0,[])).1<=9223372036854775807) :
  ∃ w',(Instr.mapUpdate 164 (.map (some m)) (.int .i64 (l.getD k (0,[])).1) (.int .i64 k)).run Tryz.prog w=.ok () w'/\On w' m (k+1) l/\w.mapTurned w' m:=by
 obtain⟨Dm,h1,h2⟩:=h;have hwf:(Lit.int .i64 (l.getD k (0,[])).1).wf=true:=WalkArith.wf_i64 hz;have dt:=Maps.keyOf_int_mk (P:=Tryz.prog) zu3 hwf;obtain⟨w',bw,ew,ht⟩:=h1.store (Maps.int_keyed zu3) zu164 (by unfold maxLen;omega) dt (plainElem_int zu3 (a:=(k:Int)) (WalkArith.wf_i64 (by omega)));have jM:WideAt.IsKeyLit (.int .i64 (l.getD k (0,[])).1):=(Maps.int_keyed zu3).key dt;refine⟨w',bw,⟨_,ew,fun z=>?_⟩,ht⟩;rw [List.range_succ,List.any_append];by_cases hj:z=(l.getD k (0,[])).1
 ·subst hj;rw [Maps.has_put_same h1.isMap jM];simp
 ·have aO:Lit.int .i64 z≠Lit.int .i64 (l.getD k (0,[])).1:=by intro e;simp only [Lit.int.injEq,true_and] at e;exact hj e
  rw [Maps.has_put_other aO,h2 z];have e0:((l.getD k (0,[])).1 == z)=false:=by rw [beq_eq_false_iff_ne];exact fun e=>hj e.symm
  rw [List.any_cons,List.any_nil,e0,Bool.or_false,Bool.or_false]
theorem Ew{L:Int}{l:List (Int×List Int)}{k:Nat}(h:chkK L l k≠0):∀ m,k<=m->chkK L l m=chkK L l k
 | 0,hm=>by rw [show k=0 by omega]
 | m+1,hm=>by
  by_cases e:k=m+1
  ·rw [e]
  ·show(if chkK L l m=0 then _ else _)=_
   rw [Ew h m (by omega),if_neg h]
section
variable {w:World} {p q:Nat} {S:Nat->Prop} {D:DS} {s:Int}
theorem N2(hq:dU w q p s)(a:Option Addr)(n cap:Nat)(hn:23<n)(hm:n<=140737488351232) :
  Calls Tryz.prog 202 #[.pointer (some ⟨q,0,none⟩),.slice a n cap] w fun e w'=>e=.returned (aR 4)/\w=w':=by
 go_enter Tryz.func202,Tryz.ntmps202
 go_wp2;go_ret;exact⟨rfl,rfl⟩
theorem N0(h:pT w p S D)(hq:dU w q p s)(b off cap:Nat)(l:List (Int×List Int))(hl:qa w S (some ⟨b,off,none⟩) cap l)(aO:l≠[])(hn:l.length<=23) :
  Calls Tryz.prog 202 #[.pointer (some ⟨q,0,none⟩),.slice (some ⟨b,off,none⟩) l.length cap] w fun e w'=>e=.returned (aR (chkK (e9 D.secs.length) l l.length))/\Below w.heap.size w w':=by
 obtain⟨kU,lR,lQ⟩:=hl;obtain⟨b',off',e',hSb,bk⟩:=lQ aO;simp only [Option.some.injEq,Addr.mk.injEq,and_true] at e';obtain⟨rfl,rfl⟩:=e';have D1:=@run_makeMap Tryz.prog;generalize hL:e9 D.secs.length=L at *;have H:=af h;have HQ:=af hq;have HC:=af bk;have HL:=af hL;clear h hq bk lQ hL aO;generalize hN:l.length=N at *;have HN:=af hN;clear hN;go_enter Tryz.func202,Tryz.ntmps202
 go_wp2_with fail
 go_loopw [17] (fun v wr=>∃ k:Nat,k<=N/\v=.int .i64 k/\On wr w.heap.size k l/\Below w.heap.size w wr/\chkK L l k=0) (fun v _=>N-(intOf v).toNat)
 case atStart=>exact⟨0,Nat.zero_le _,rfl,On.made w l,zBr.alloc zNr _,rfl⟩
 case round =>
  obtain⟨k,hk,rfl,zbE,ao,hz⟩:=hrel;by_cases aM:k<N
  ·obtain⟨c0,ab,capb,c1,aX,_,sx,vB⟩:=ae HC k aM;rw [<- ao.cell (block_lt_of_cell c0)] at c0;rw [<- ao.cell (block_lt_of_cell c1)] at c1;rw [<- Nat.add_assoc] at c1;have JT:=aX.2.2.1;have ay:Below w.heap.size w (wr.alloc (.cells #[.int .i64 (l.getD k (0,[])).1,.slice ab (l.getD k (0,[])).2.length capb] 223)):=ao.alloc ao.size _;have SD:On (wr.alloc (.cells #[.int .i64 (l.getD k (0,[])).1,.slice ab (l.getD k (0,[])).2.length capb] 223)) w.heap.size k l:=zbE.same (heap_alloc_old _ _ zbE.lt);have gx:=z8 ((ae H).same ay.size (fun j hj=>ay.block j ((ae H).lt j hj))) ((ae HQ).same (ay.block q (ae HQ).lt)) (l.getD k (0,[])).1;obtain⟨v,bX⟩:=SD.look (l.getD k (0,[])).1 ⟨sx,vB⟩;obtain⟨w2,jw,GO,j5⟩:=SD.store (by omega) ⟨sx,vB⟩;have lr:Below w.heap.size w w2:=ay.grown j5.grown ay.size (fun j hj=>by cases hj;exact zNr);have wL:chkK L l (k+1)=iF L l k:=by show(if chkK L l k=0 then _ else _)=_;rw [if_pos hz]
   have AI:iF L l k≠0->chkK L l N=iF L l k:=fun hp=>by rw [Ew (k:=k+1) (by rw [wL];exact hp) N (by omega),wL]
   unfold iF at wL AI;unfold S8 at gx;rw [ae HL] at gx;have HH:=af gx;have T7:=af GO;have br:=af lr;have aL:=af ay;have G4:=af wL;have Oy:=af AI;clear gx GO SD lr ay j5 ao zbE hz aX wL AI;generalize (l.getD k (0,[])).1=z at *;generalize (l.getD k (0,[])).2.length=bl at *;generalize (List.range k).any (fun j=>(l.getD j (0,[])).1 == z)=A at *;by_cases dR:z<0\/L<=z
   ·rw [decide_eq_false (by omega)] at HH;have HE:Hid (chkK L l N=1):=af (by have:=ae Oy;rw [if_pos dR] at this;exact this (by decide));clear Oy G4 bX jw dR;go_wp2_with fail
    refine(ae HH).mono ?_;rintro e w1 ⟨rfl,rfl⟩;go_wp2;go_ret;exact⟨by rw [ae HE];rfl,ae aL⟩
   ·rw [decide_eq_true (by omega)] at HH;have Ox:=Oy;have GD:=G4;rw [if_neg dR] at Ox GD;by_cases nH:bl≠32
    ·have HE:Hid (chkK L l N=3):=af (by have:=ae Ox;rw [if_pos nH] at this;exact this (by decide));have zmH:¬ (bl:Int)=32:=by omega
     clear Oy G4 Ox GD bX jw dR nH;go_wp2_with fail
     refine(ae HH).mono ?_;rintro e w1 ⟨rfl,rfl⟩;go_wp2;go_ret;exact⟨by rw [ae HE];rfl,ae aL⟩
    ·rw [if_neg nH] at Ox GD;obtain rfl:bl=32:=by omega
     cases A
     ·have HE:Hid (chkK L l (k+1)=0):=af (by have:=ae GD;rw [if_neg (by decide)] at this;exact this);clear Oy G4 Ox GD dR nH;go_wp2_with fail
      refine(ae HH).mono ?_;rintro e w1 ⟨rfl,rfl⟩;go_wp2;go_roundw
      case rel=>exact⟨k+1,by omega,by go_num,ae T7,ae br,ae HE⟩
      case measure=>simp [intOf];omega
     ·have HE:Hid (chkK L l N=7):=af (by have:=ae Ox;rw [if_pos rfl] at this;exact this (by decide));clear Oy G4 Ox GD dR nH jw;go_wp2_with fail
      refine(ae HH).mono ?_;rintro e w1 ⟨rfl,rfl⟩;go_wp2;go_ret;exact⟨by rw [ae HE];rfl,ae aL⟩
  ·obtain rfl:k=N:=by omega
   go_wp2;go_ret;exact⟨by rw [hz];rfl,ao⟩
end
end
section
variable {w:World} {p q:Nat} {S:Nat->Prop} {D:DS} {s:Int}
theorem Ey(a:Option Addr)(cap:Nat) :
  Calls Tryz.prog 202 #[.pointer (some ⟨q,0,none⟩),.slice a 0 cap] w fun e w'=>e=.returned (aR 0)/\Below w.heap.size w w':=by
 have D1:=@run_makeMap Tryz.prog;go_enter Tryz.func202,Tryz.ntmps202
 go_wp2_with fail
 go_loop [17] (fun v=>v=.int .i64 0) (fun _=>0)
 case atStart=>rfl
 case round =>subst hrel;go_wp2;go_ret;exact⟨rfl,zBr.alloc zNr _⟩
theorem Aa(h:pT w p S D)(hq:dU w q p s)(a:Option Addr)(cap:Nat)(l:List (Int×List Int))(hl:qa w S a cap l) :
  Calls Tryz.prog 202 #[.pointer (some ⟨q,0,none⟩),.slice a l.length cap] w fun e w'=>e=.returned (aR (cO (e9 D.secs.length) l))/\Below w.heap.size w w':=by
 unfold cO;by_cases h1:23<l.length
 ·rw [if_pos h1];exact(N2 hq a l.length cap h1 hl.2.1).mono fun e w' ⟨he,hw⟩=>⟨he,by rw [hw];exact zBr⟩
 ·rw [if_neg h1];by_cases h0:l=[]
  ·subst h0;exact Ey a cap
  ·obtain⟨b,off,rfl,_⟩:=hl.2.2 h0;exact N0 h hq b off cap l hl h0 (by omega)
def Y5(w:World)(b off i:Nat):Value:=(w.cell? ⟨b,off+(i * 2+1),none⟩).getD undef
theorem Rz(v:Option Addr)(n c:Nat):∀ u∈[Value.slice v n c],u.oneCell'=true:=by intro u hu;simp at hu;subst hu;rfl
theorem rF{base e size:Nat}{v:Value}{n:Nat}{xs:List Value}(h:w.ownsRow base e size v n xs):∀ k,v.ownBlock=some k->base<=k:=by
 intro k hk;rcases h.2 with ⟨rfl,_⟩ | ⟨g,cap,cur,rfl,hB,_⟩
 ·cases hk
 ·simp [Value.ownBlock] at hk;omega
theorem De{base e size base' e' size':Nat}{v v':Value}{n n':Nat}{xs xs':List Value}(h:w.ownsRow base e size v n xs)(h':w.ownsRow base' e' size' v' n' xs')(he:e≠e'):∀ g,v.ownBlock=some g->v'.ownBlock≠some g:=by intro g hg ow;obtain⟨cur,h1⟩:=eM h hg;obtain⟨cur',h2⟩:=eM h' ow;rw [h1] at h2;simp at h2;exact he h2.2
theorem uh{w':World}{base e size:Nat}{v:Value}{n:Nat}{xs:List Value}{row:Option Nat}(h:w.ownsRow base e size v n xs)(hg:w.grownBy w' row)(hn:∀ g,v.ownBlock=some g->row≠some g):w'.ownsRow base e size v n xs :=ed h (fun g ow=>hg.block g (by obtain⟨cur,h1⟩:=eM h ow;exact(zAg h1).1) (fun e=>hn g ow e.symm))
theorem VI{base e size:Nat}{v:Value}{n:Nat}{xs:List Value}(h:w.ownsRow base e size v n xs):∀ g,v.ownBlock=some g->g<w.heap.size:=by intro g hg;obtain⟨cur,h1⟩:=eM h hg;exact(zAg h1).1
theorem xk(w:World)(x:Value)(t:TypeId):∀ j u,([x]:List Value)[j]?=some u->(w.alloc (.cells #[x] t)).cell? (Addr.add ⟨w.heap.size,0,none⟩ j)=some u:=by
 intro j u hj;cases j with
 | zero =>simp at hj;subst hj;rw [addr_add,cell_of_row _ _ _ _ _ (0,0) (heap_alloc_new w _)];rfl
 | succ j=>simp at hj
def Mm(l:List (Int×List Int))(k:Nat):List Value:=(List.range k).map (fun i=>.int .i64 (l.getD i (0,[])).1)
def yn(w:World)(b off k:Nat):List Value:=(List.range k).map (Y5 w b off)
theorem RN(l:List (Int×List Int))(k:Nat):Mm l (k+1)=Mm l k++[.int .i64 (l.getD k (0,[])).1]:=by simp [Mm,List.range_succ]
theorem Oa(w:World)(b off k:Nat):yn w b off (k+1)=yn w b off k++[Y5 w b off k]:=by simp [yn,List.range_succ]
theorem Ru(b off cap:Nat)(l:List (Int×List Int))(hl:qa w S (some ⟨b,off,none⟩) cap l)(aO:l≠[])(hn:l.length<=23) :
  Calls Tryz.prog 204 #[.slice (some ⟨b,off,none⟩) l.length cap] w fun e w'=>∃ nv bv,e=.returned (.tuple #[nv,bv])/\w'.ownsRow w.heap.size 3 1 nv l.length (Mm l l.length)/\w'.ownsRow w.heap.size 30 1 bv l.length (yn w b off l.length)/\Below w.heap.size w w':=by
 obtain⟨kU,lR,lQ⟩:=hl;obtain⟨b',off',e',hSb,bk⟩:=lQ aO;simp only [Option.some.injEq,Addr.mk.injEq,and_true] at e';obtain⟨rfl,rfl⟩:=e';have HC:=af bk;clear bk lQ aO;generalize hN:l.length=N at *;have HN:=af hN;clear hN;obtain⟨i0,eP,cY,dw,dz⟩:=info_parts uD;obtain⟨i1,hi1,hy0,Sv,hy2⟩:=info_parts Ax;go_enter Tryz.func204,Tryz.ntmps204
 go_wp2_with fail
 go_loopw [2,3,8] (fun nv bv v wr=>∃ k:Nat,k<=N/\v=.int .i64 k/\wr.ownsRow w.heap.size 3 1 nv k (Mm l k)/\wr.ownsRow w.heap.size 30 1 bv k (yn w b off k)/\Below w.heap.size w wr) (fun _ _ v _=>N-(intOf v).toNat)
 case atStart=>exact⟨0,Nat.zero_le _,rfl,World.ownsRow_nil _ _ _ _,World.ownsRow_nil _ _ _ _,zBr⟩
 case round =>
  obtain⟨k,hk,rfl,hnv,hbv,ao⟩:=hrel;by_cases aM:k<N
  ·obtain⟨c0,ab,capb,c1,aX,_,sx,vB⟩:=ae HC k aM;have hV:Y5 w b off k=.slice ab (l.getD k (0,[])).2.length capb:=by unfold Y5;rw [c1];rfl
   rw [<- ao.cell (block_lt_of_cell c0)] at c0;rw [<- ao.cell (block_lt_of_cell c1)] at c1;rw [<- Nat.add_assoc] at c1;have JT:=aX.2.2.1;have cL:=ao.size;have BX:=af (World.ownsRow.alloc (World.ownsRow.alloc hnv (.cells #[.int .i64 (l.getD k (0,[])).1,.slice ab (l.getD k (0,[])).2.length capb] 223)) (.cells #[.int .i64 (l.getD k (0,[])).1] 3));have zm:=af (World.ownsRow.alloc (World.ownsRow.alloc hbv (.cells #[.int .i64 (l.getD k (0,[])).1,.slice ab (l.getD k (0,[])).2.length capb] 223)) (.cells #[.int .i64 (l.getD k (0,[])).1] 3));have aL:=af ((ao.alloc cL (.cells #[.int .i64 (l.getD k (0,[])).1,.slice ab (l.getD k (0,[])).2.length capb] 223)).alloc (by simp;omega) (.cells #[.int .i64 (l.getD k (0,[])).1] 3));have KW:=af (rF hnv);have zl6:=af (rF hbv);have UC:=af (De hnv hbv (by decide));have HNS:=af (RN l k);have nC:=af (Oa w b off k);rw [hV] at nC;have Oy:=af (VI hnv);have HPG:Hid (∀ o:Obj,(wr.alloc o).heap[wr.heap.size]?=some o):=af (fun o=>heap_alloc_new wr o);clear hnv hbv ao aX hV;generalize (l.getD k (0,[])).1=z at *;generalize (l.getD k (0,[])).2.length=bl at *;go_wp2_with (at_builtin;refine wpList_append_own_at _ rfl _ _ 44 rfl w.heap.size 3 i0 (.int .i64 0) 1 8 zu44 eP cY dw dz rfl (by decide) _ _ _ rfl (ae BX) ⟨wr.heap.size+1,0,none⟩ 1 1 [.int .i64 z] rfl rfl (sJ _ _ _ _) (FJ _) (by unfold maxLen;omega) (by omega) (by simp;omega) ?_)
   intro v9 w9 aZ mq _ _;rw [<- ae HNS] at aZ;have JG:w9.heap[wr.heap.size]?=some (.cells #[.int .i64 z,.slice ab bl capb] 223 (0,0)):=by rw [mq.block wr.heap.size (by simp;omega) (fun e=>by have:=ae Oy wr.heap.size e.symm;omega),heap_alloc_old _ _ (by simp),heap_alloc_new]
   have c3:w9.cell? ⟨wr.heap.size,1,none⟩=some (.slice ab bl capb):=by rw [cell_of_row w9 _ 1 _ _ (0,0) JG];rfl
   have mr:=(ae aL).grown mq (by simp;omega) (ae KW);have jI:=af (mr.alloc mr.size (.cells #[.slice ab bl capb] 30));have zhK:=mr.size;have HN9:=af (World.ownsRow.alloc aZ (.cells #[.slice ab bl capb] 30));have zeV:=uh (ae zm) mq (fun g hg e=>ae UC g e hg);have zjQ:=af (De zeV aZ (by decide));have nB:=af (World.ownsRow.alloc zeV (.cells #[.slice ab bl capb] 30));clear aZ mq JG mr zeV aL BX zm UC HNS HPG;go_wp2_with (at_builtin;refine wpList_append_own_at _ rfl _ _ 182 rfl w.heap.size 30 i1 (.slice none 0 0) 1 24 Tryz.underlying182 hi1 hy0 Sv hy2 rfl (by decide) _ _ _ rfl (ae nB) ⟨w9.heap.size,0,none⟩ 1 1 [.slice ab bl capb] rfl rfl (xk _ _ _) (Rz _ _ _) (by unfold maxLen;omega) (by omega) (by simp;omega) ?_)
   intro v10 w10 M9 Gb _ _;rw [<- ae nC] at M9;have sl:=af ((ae jI).grown Gb (by simp;omega) (ae zl6));have Zy:=af (uh (ae HN9) Gb (fun g hg e=>ae zjQ g e hg));have Ot:=af M9;clear M9 Gb jI HN9 nB zjQ nC;go_wp2;go_roundw
   case rel=>exact⟨k+1,by omega,by go_num,ae Zy,ae Ot,ae sl⟩
   case measure=>simp [intOf];omega
  ·obtain rfl:k=N:=by omega
   go_wp2;go_ret2;exact⟨_,_,rfl,hnv,hbv,ao⟩
end
def KL(w:World)(v:Value)(l:List Int):Prop:=bj l/\∃ a cap,v=.slice a l.length cap/\(l≠[]->∃ g,a=some ⟨g,0,none⟩/\∀ i,i<l.length->w.cell? ⟨g,i,none⟩=some (.int .i64 (l.getD i 0)))
theorem KL.nil(w:World):KL w (.slice none 0 0) []:=⟨fun z hz=>(by cases hz),none,0,rfl,fun h=>absurd rfl h⟩
def gK(l:List Int)(k:Nat):List Int:=(l.length:Int) :: l.take k
theorem MJ{l:List Int}{k:Nat}(h:k<l.length):gK l (k+1)=gK l k++[l.getD k 0]:=by unfold gK;rw [List.take_succ_eq_append_getElem h];simp [List.getD,h]
theorem VJ{w:World}{B g:Nat}{x:Int}(hB:B<=g)(h:w.heap[g]?=some (.cells #[.int .u8 x] 5 (0,0))):cj w B (.slice (some ⟨g,0,none⟩) 1 1) [x] :=⟨rfl,.inr ⟨g,1,#[.int .u8 x],rfl,hB,h,zNr,by decide,rfl,rfl⟩⟩
section
variable {w:World}
theorem zK(t:Int)(nv:Value)(l:List Int)(hn:KL w nv l)(hl:l.length<=23)(GL:¬ t<1)(iu:¬ 4294967295<t) :
  Calls Tryz.prog 131 #[.agg #[.int .i64 t,nv]] w fun e w'=>∃ g,e=.returned (.tuple #[.slice (some ⟨g,0,none⟩) 32 32,.nilIface])/\w.heap.size<=g/\fH w' g (cV t (gK l l.length))/\Below w.heap.size w w':=by
 obtain⟨fS,a,cap,rfl,bk⟩:=hn;have HC:=af bk;have ic:=af fS;have HM:Hid (∀ (w1:World) a1 c1,Bs w1 a1 c1 (gK l l.length)->Calls Tryz.prog 190 #[.int .i64 t,.slice a1 (l.length+1) c1] w1 fun e w'=>∃ g,e=.returned (.tuple #[.slice (some ⟨g,0,none⟩) 32 32,.nilIface])/\w1.heap.size<=g/\fH w' g (cV t (gK l l.length))/\Below w1.heap.size w1 w'):=af (fun w1 a1 c1 h=>by have:=Jf t a1 c1 (gK l l.length) w1 h GL iu (by simp [gK];omega);rwa [show(gK l l.length).length=l.length+1 by simp [gK]] at this);generalize cV t (gK l l.length)=Z at *;clear bk fS;obtain⟨i0,eP,cY,dw,dz⟩:=info_parts dQ;have Z6:(l.length:Int)<=255:=by omega
 go_enter Tryz.func131,Tryz.ntmps131
 go_wp2_with fail
 obtain⟨w1,fR⟩:∃ w1,w1=w.alloc (.cells #[.int .i64 t,.slice a l.length cap] 207):=⟨_,rfl⟩;have gP:w1.heap.size=w.heap.size+1:=by rw [fR];simp
 have ay:Below w.heap.size w w1:=by rw [fR];exact zBr.alloc zNr _
 have uO:w1.heap[w.heap.size]?=some (.cells #[.int .i64 t,.slice a l.length cap] 207 (0,0)):=by rw [fR];exact heap_alloc_new _ _
 rw [<- fR];clear fR;have mB:=af gP;have aL:=af ay;have KS:=af uO;clear gP ay uO;go_loopw [4,15] (fun bv v wr=>∃ k:Nat,k<=l.length/\v=.int .i64 k/\cj wr (w.heap.size+1) bv (gK l k)/\Below (w.heap.size+1) w1 wr) (fun _ v _=>l.length-(intOf v).toNat)
 case atStart =>
  refine⟨0,Nat.zero_le _,rfl,?_,?_⟩
  ·refine VJ zNr ?_;rw [<- ae mB];exact heap_alloc_new _ _
  ·rw [<- ae mB];exact zBr.alloc zNr _
 case round =>
  obtain⟨k,hk,rfl,az,ao⟩:=hrel;have hm:=(ao.block w.heap.size (by omega)).trans (ae KS);have cL:=ao.size;rw [ae mB] at cL;by_cases aM:k<l.length
  ·obtain⟨g,rfl,hc⟩:=ae HC (by intro e;rw [e] at aM;cases aM);have Cm:=hc k aM;have zbL:=block_lt_of_cell Cm;rw [<- (ae aL).cell zbL,<- (ao.mono (by omega:w.heap.size<=w.heap.size+1)).cell (Nat.lt_of_lt_of_le zbL (by have:=ae mB;omega))] at Cm;obtain⟨z0,z1⟩:=(ae ic).getD k;have HSU:=af (MJ aM);unfold cj at az;rw [show(gK l k).length=k+1 by simp [gK];omega] at az;have HO:=af (World.ownsRow.alloc az (.cells #[.int .u8 (l.getD k 0)] 5));have br:=af (ao.alloc cL (.cells #[.int .u8 (l.getD k 0)] 5));have KW:=af (rF az);clear az ao hm hc zbL;generalize l.getD k 0=z at *;go_wp2_with (at_builtin;refine wpList_append_own_at _ rfl _ _ 30 rfl (w.heap.size+1) 5 i0 (.int .u8 0) 1 1 zu30 eP cY dw dz rfl (by decide) _ _ _ rfl (ae HO) ⟨wr.heap.size,0,none⟩ 1 1 [.int .u8 z] rfl rfl (xk _ _ _) (dE [z]) (by unfold maxLen;omega) (by omega) (by simp;omega) ?_)
   intro v9 w9 aZ mq _ _;have pS:Hid (cj w9 (w.heap.size+1) v9 (gK l (k+1))):=af (by unfold cj;rw [ae HSU,List.map_append];rw [show(gK l k++[z]).length=k+1+1 by simp [gK];omega];exact aZ);have jI:=af ((ae br).grown mq (by simp;omega) (ae KW));clear aZ mq HO br KW HSU;go_wp2;go_roundw
   case rel=>exact⟨k+1,by omega,by go_num,ae pS,ae jI⟩
   case measure=>simp [intOf];omega
  ·obtain rfl:k=l.length:=by omega
   have fS:bj (gK l l.length):=by
    intro z hz;unfold gK at hz;rcases zMc hz with rfl | hz
    ·omega
    ·exact ae ic z (List.mem_of_mem_take hz)
   have zcU:(gK l l.length).length=l.length+1:=by simp [gK]
   obtain⟨a1,c1,rfl,aX⟩:=az.bs fS (by omega);have Nb:=ae HM wr a1 c1 aX;rw [zcU];have c0:wr.cell? ⟨w.heap.size,0,none⟩=some (.int .i64 t):=by rw [cell_of_row _ _ _ _ _ _ hm];rfl
   have HMK:=af Nb;have aQ:=af ((ae aL).trans (ao.mono (by omega:w.heap.size<=w.heap.size+1)));clear Nb aX az ao hm HM fS zcU;go_wp2_with fail
   refine(ae HMK).mono ?_;rintro e w2 ⟨g2,rfl,qg,h2,h3⟩;go_wp2;go_ret2;exact⟨g2,rfl,Nat.le_trans (ae aQ).size qg,h2,zTs aQ h3⟩
end
def plus(S:Nat->Prop)(q:Nat):Nat->Prop:=fun k=>S k\/k=q
theorem aE.plus{S S':Nat->Prop}{w w':World}(h:aE S S' w w')(q:Nat):aE (plus S q) (plus S' q) w w' :=
 ⟨h.os,h.tape,h.output,h.size,fun k hk hn=>h.block k hk (fun hs=>hn (.inl hs)),fun k hk hs=>by
  rcases hs with hs | hs
  ·exact .inl (h.bA k hk hs)
  ·exact .inr hs⟩
theorem Vb:cV 2 [0]=cV 2 []:=by decide
theorem zag(x:DS×Int)(f:Nat->Int×List Int):kT x f 1=eJ x (f 0).1 (f 0).2:=rfl
theorem zaf(x:DS×Int)(f:Nat->Int×List Int):kT x f 2=eJ (eJ x (f 0).1 (f 0).2) (f 1).1 (f 1).2:=rfl
def J5(i:Nat):List Int:=if i=0 then cV 2 [] else ag 32
section
variable {w0 w:World} {p:Nat} {S:Nat->Prop} {D:DS}
theorem AY(h:Live w0 w p S D)(hc:¬ e9 D.secs.length<1) :
  Calls Tryz.prog 66 #[.pointer (some ⟨p,0,none⟩)] w fun e w'=>∃ v S',e=.returned (.tuple #[v,aR (cI D).2])/\Live w0 w' p S' (cI D).1/\aE S S' w w' /\
   ((cI D).2=0->∃ q,v=.pointer (some ⟨q,0,none⟩)/\dU w' q p 2/\w.heap.size<=q/\¬ S' q)/\((cI D).2≠0->v=.pointer none):=by
 have HC:=af (ke h.dev);have gN:=zK 2 (.slice none 0 0) [] (KL.nil w) (by decide) (by decide) (by decide);have hmo:cV 2 (gK [] ([]:List Int).length)=cV 2 []:=Vb;rw [hmo] at gN;have Zn:=af gN;have H:=af h;obtain⟨i0,eP,cY,dw,dz⟩:=info_parts dQ;generalize e9 D.secs.length=L at *;clear h gN hmo;generalize hX:cI D=X;have HX:=af hX;clear hX;go_enter Tryz.func66,Tryz.ntmps66
 go_wp2_with fail
 refine(ae HC).mono ?_;rintro e w1 ⟨rfl,rfl⟩;go_wp2_with fail
 refine(ae Zn).mono ?_;rintro e w1 ⟨g1,rfl,JO,ay,zc4⟩;have aL:=af ay;have ZM:=af zc4;clear ay zc4 Zn HC;go_wp2_with (at_make;refine bE rfl _ _ 30 rfl i0 zu30 eP cY dw dz _ _ _ _ 32 rfl rfl rfl rfl (by omega) ?_)
 intro w2 gO gM lr;have fR:w.heap.size<=w1.heap.size:=(ae ZM).size;have XV:Below w.heap.size w (w2.alloc (.cells #[.slice (some ⟨g1,0,none⟩) 32 32,.slice (some ⟨w1.heap.size,0,none⟩) 32 32] 30)):=((ae ZM).trans (lr.mono fR)).alloc (by omega) _;have hlA:=(ae H).below XV;have bn:=heap_alloc_new w2 (.cells #[.slice (some ⟨g1,0,none⟩) 32 32,.slice (some ⟨w1.heap.size,0,none⟩) 32 32] 30);have JS:BG (w2.alloc (.cells #[.slice (some ⟨g1,0,none⟩) 32 32,.slice (some ⟨w1.heap.size,0,none⟩) 32 32] 30)) S (w1.heap.size+1) 2 J5:=by
  rw [gM] at bn;refine⟨fun hs=>by have:=(ae H).dev.lt _ hs;omega,fun k hk=>?_⟩;have zlg:k=0\/k=1:=by omega
  rcases zlg with rfl | rfl
  ·refine⟨some ⟨g1,0,none⟩,32,?_,?_,fun _ x hx hs=>?_⟩
   ·rw [cell_of_row _ _ _ _ _ _ bn,show J5 0=cV 2 [] from rfl,yZ.1];rfl
   ·rw [show J5 0=cV 2 [] from rfl];exact(pI ((ae aL).below lr) yZ).below (zBr.alloc zNr _)
   ·obtain rfl:=zOi hx;have:=(ae H).dev.lt _ hs;dsimp only at this;omega
  ·refine⟨some ⟨w1.heap.size,0,none⟩,32,?_,?_,fun _ x hx hs=>?_⟩
   ·rw [cell_of_row _ _ _ _ _ _ bn,show J5 1=ag 32 from rfl,aj];rfl
   ·rw [show J5 1=ag 32 from rfl];exact(pI gO rz).below (zBr.alloc zNr _)
   ·obtain rfl:=zOi hx;have:=(ae H).dev.lt _ hs;dsimp only at this;omega
 have qM:=G8 133 (w1.heap.size+1) 2 2 J5 (fun i=>(i:Int)) hlA JS (by rw [size_alloc];omega) (by decide) (by decide) Tryz.call133 (fun w' S' ht k hk=>J2 k w');rw [zaf] at qM;have bw:eD (eJ (eJ (D,0) ((0:Nat):Int) (J5 0)) ((1:Nat):Int) (J5 1))=cI D:=rfl;rw [bw,ae HX] at qM;have Uv:=af qM;have zdf:=af XV;clear qM JS bn hlA XV bw aL ZM gO lr;go_wp2_with fail
 refine(ae Uv).mono ?_;rintro e w3 ⟨rfl,S3,lQ,tD⟩;have tz:=af lQ;have Ux:=af ((aE.aW (S:=S) (ae zdf)).trans tD);clear lQ tD Uv zdf;by_cases hE:X.2=0
 ·rw [hE,aA];go_wp2;go_ret2;have hq:=heap_alloc_new w3 (.cells #[.pointer (some ⟨p,0,none⟩),.int .i64 2] 211);refine⟨_,S3,by rw [hE];rfl,(ae tz).below (zBr.alloc zNr _),(ae Ux).trans (aE.alloc S3 _ _),fun _=>⟨w3.heap.size,rfl,hq,(ae Ux).size,fun hs=>?_⟩,fun h=>absurd hE h⟩;have:=(ae tz).dev.lt _ hs;omega
 ·rw [aC _ hE];go_wp2;go_ret2;exact⟨_,S3,by rw [aC _ hE];rfl,ae tz,ae Ux,fun h=>absurd h hE,fun _=>rfl⟩
end
theorem qa.dZ{w w':World}{S S':Nat->Prop}{a:Option Addr}{cap:Nat}{l:List (Int×List Int)}(h:qa w S a cap l)(ht:aE S S' w w'):qa w' S' a cap l:=by obtain⟨h1,h2,h3⟩:=h;refine⟨h1,h2,fun aO=>?_⟩;obtain⟨b,off,h4,h5,h6⟩:=h3 aO;have jf:0<l.length:=List.length_pos_iff.2 aO;have aM:b<w.heap.size:=block_lt_of_cell (h6 0 jf).1;refine⟨b,off,h4,fun hs=>h5 (ht.bA b aM hs),fun i hi=>?_⟩;obtain⟨c0,ab,capb,c1,aX,hn,hr⟩:=h6 i hi;obtain⟨q1,q2⟩:=aX.turns hn ht;exact⟨(World.cell?_of_block (a:=⟨b,off+i * 2,none⟩) (ht.block b aM h5)).trans c0,ab,capb,(World.cell?_of_block (a:=⟨b,off+(i * 2+1),none⟩) (ht.block b aM h5)).trans c1,q1,q2,hr⟩
theorem qa.below{w w':World}{S:Nat->Prop}{a:Option Addr}{cap:Nat}{l:List (Int×List Int)}(h:qa w S a cap l)(hb:Below w.heap.size w w'):qa w' S a cap l:=h.dZ (aE.aW hb)
theorem vV{w:World}{base e:Nat}{v:Value}{n:Nat}{xs:List Value}(h:w.ownsRow base e 1 v n xs)(hn:0<n):∃ g cap,v=.slice (some ⟨g,0,none⟩) n cap/\base<=g/\n<=cap/\g<w.heap.size/\∀ i,i<n->w.cell? ⟨g,i,none⟩=xs[i]?:=by
 rcases h.2 with ⟨_,h0⟩ | ⟨g,cap,cur,rfl,hB,hc,h3,h4,h5,h6⟩
 ·omega
 ·refine⟨g,cap,rfl,hB,h3,(zAg hc).1,fun i hi=>?_⟩;rw [cell_of_row _ _ _ _ _ _ hc,<- h6,List.getElem?_take,if_pos (by omega)];simp
structure Kit (w:World) (S:Nat->Prop) (q p:Nat) (s:Int) (m:Nat) (t:Int) (nv:Value) (gn n:Nat) (num:Nat->Int) (gb:Nat) (B:Nat->List Int) (gs:Nat) (X:List Int) (sb:Nat) (sd:Int):Prop where
 pg:dU w q p s
 npg:¬ S q
 mrk:w.heap[m]?=some (.cells #[.int .i64 t,nv] 207 (0,0))
 nm:¬ S m
 vX:∀ i,i<n->w.cell? ⟨gn,i,none⟩=some (.int .i64 (num i))
 nn:¬ S gn
 ln:gn<w.heap.size
 zfp:BG w S gb n B
 lb:gb<w.heap.size
 sec:fH w gs X
 ns:¬ S gs
 sid:w.cell? ⟨sb,0,none⟩=some (.int .i64 sd)
 nsb:¬ S sb
section
variable {w w':World} {S S':Nat->Prop} {q p:Nat} {s:Int} {m:Nat} {t:Int} {nv:Value} {gn n:Nat} {num:Nat->Int} {gb:Nat} {B:Nat->List Int} {gs:Nat} {X:List Int} {sb:Nat} {sd:Int}
theorem Kit.dZ(h:Kit w S q p s m t nv gn n num gb B gs X sb sd)(ht:aE S S' w w'):Kit w' S' q p s m t nv gn n num gb B gs X sb sd:=by have lm:m<w.heap.size:=(zAg h.mrk).1;have lsb:sb<w.heap.size:=block_lt_of_cell h.sid;exact⟨(h.pg.dZ ht h.npg).1,(h.pg.dZ ht h.npg).2,(ht.block m lm h.nm).trans h.mrk,fun hs=>h.nm (ht.bA m lm hs),fun i hi=>(World.cell?_of_block (a:=⟨gn,i,none⟩) (ht.block gn h.ln h.nn)).trans (h.vX i hi),fun hs=>h.nn (ht.bA gn h.ln hs),Nat.lt_of_lt_of_le h.ln ht.size,h.zfp.dZ ht h.lb,Nat.lt_of_lt_of_le h.lb ht.size,h.sec.same (ht.block gs h.sec.lt h.ns),fun hs=>h.ns (ht.bA gs h.sec.lt hs),(World.cell?_of_block (a:=⟨sb,0,none⟩) (ht.block sb lsb h.nsb)).trans h.sid,fun hs=>h.nsb (ht.bA sb lsb hs)⟩
theorem Kit.below(h:Kit w S q p s m t nv gn n num gb B gs X sb sd)(hb:Below w.heap.size w w'):Kit w' S q p s m t nv gn n num gb B gs X sb sd:=h.dZ (aE.aW hb)
theorem Kit.m0(h:Kit w S q p s m t nv gn n num gb B gs X sb sd):w.cell? ⟨m,0,none⟩=some (.int .i64 t):=by rw [cell_of_row _ _ _ _ _ _ h.mrk];rfl
end
section
variable {w0 w:World} {p q:Nat} {S:Nat->Prop} {D:DS} {s:Int}
theorem NS(h:Live w0 w p S D)(hq:dU w q p s)(a:Option Addr)(cap:Nat)(l:List (Int×List Int))(hl:qa w S a cap l)(he:cO (e9 D.secs.length) l≠0) :
  Calls Tryz.prog 142 #[.pointer (some ⟨q,0,none⟩),.slice a l.length cap] w fun e w'=>e=.returned (aR (cO (e9 D.secs.length) l))/\Below w.heap.size w w':=by
 have HC:=af (Aa h.dev hq a cap l hl);clear h hq hl;generalize cO (e9 D.secs.length) l=E at *;generalize l.length=N at *;rw [aC _ he] at *;go_enter Tryz.func142,Tryz.ntmps142
 go_wp2_with fail
 refine(ae HC).mono ?_;rintro e w1 ⟨rfl,hb⟩;go_wp2;go_ret;exact⟨rfl,hb⟩
theorem Ki(h:Live w0 w p S D)(hq:dU w q p s)(a:Option Addr)(cap:Nat) :
  Calls Tryz.prog 142 #[.pointer (some ⟨q,0,none⟩),.slice a 0 cap] w fun e w'=>e=.returned (aR (if D.down then 9 else 0))/\Below w.heap.size w w':=by
 have HC:=af (Ey (w:=w) (q:=q) a cap);rw [aA] at HC;have HP:Hid (∀ w1,Below w.heap.size w w1->Calls Tryz.prog 203 #[.pointer (some ⟨q,0,none⟩)] w1 fun e w'=>e=.returned (aR (if D.down then 9 else 0))/\w1=w'):=af (fun w1 hb=>Rs (h.below hb).dev (hq.below hb));clear h hq;generalize (if D.down=true then (9:Int) else 0)=E at *;go_enter Tryz.func142,Tryz.ntmps142
 go_wp2_with fail
 refine(ae HC).mono ?_;rintro e w1 ⟨rfl,hb⟩;have HB:=af hb;have lK:=af (ae HP w1 hb);clear hb HP;go_wp2_with fail
 refine(ae lK).mono ?_;rintro e w2 ⟨rfl,rfl⟩;go_wp2;go_ret;exact⟨rfl,ae HB⟩
end
theorem yO{D:DS}{s:Int}{L:Nat}{l:List (Int×List Int)}(hv:cO L l=0)(hl:l≠[])(hL:48<=D.secs.length)(h0:0<=s)(h1:s<4294967295){X1 X2 X3:DS×Int}
  (e1:X1=eD (kT (D,0) (fun i=>(2+23 * ((s+1) % 2)+i,(l.getD i (0,[])).2)) l.length))
  (e2:X2=eD (kT (X1.1,0) (fun i=>((s+1) % 2,cV (s+1) (dM l))) 1))
  (e3:X3=eD (kT (X2.1,0) (fun i=>(48+(l.getD i (0,[])).1,(l.getD i (0,[])).2)) l.length)) :
  (X1.2≠0->aG D s L l=(X1.1,s,X1.2))/\(X1.2=0->X2.2≠0->aG D s L l=(X2.1,s,X2.2))/\(X1.2=0->X2.2=0->X3.2≠0->aG D s L l=(X3.1,s,X3.2))/\(X1.2=0->X2.2=0->X3.2=0->aG D s L l=(X3.1,s+1,0)):=by
 have lG:=qp hv;have hm:gL (s+1) (dM l)=(cV (s+1) (dM l),0):=(rM lG (by omega) (by omega)).1;have hA:fq D ((s+1) % 2) l=X1:=e1.symm;have hB:X1.2=0->cM X1 ((s+1) % 2) (s+1) l=X2:=fun hx=>by unfold cM;rw [if_pos hx,hm,if_pos rfl,e2,zag,<- Pd hx]
 have cD:X1.2≠0->cM X1 ((s+1) % 2) (s+1) l=X1:=fun hx=>by unfold cM;rw [if_neg hx,ib hx]
 have hC:X2.2=0->jD X2 l=X3:=fun hx=>by unfold jD;rw [e3,<- Pd hx]
 have hC2:∀ X:DS×Int,X.2≠0->jD X l=X:=fun X hx=>by unfold jD;rw [vJ hx,ib hx]
 rw [Cu hv hl hL (by omega)];unfold bC;rw [hA];refine⟨fun hx=>?_,fun hx hy=>?_,fun hx hy hz=>?_,fun hx hy hz=>?_⟩
 ·rw [cD hx,hC2 _ hx,if_neg hx]
 ·rw [hB hx,hC2 _ hy,if_neg hy]
 ·rw [hB hx,hC hy,if_neg hz]
 ·rw [hB hx,hC hy,if_pos hz,hz]
theorem TP{L:Nat}{l:List (Int×List Int)}(hv:Valid L l)(hL:L<=200):bj (dM l):=by
 intro z hz;unfold dM at hz;rcases zMc hz with rfl | hz
 ·have:=hv.len;omega
 ·obtain⟨x,hx,rfl⟩:=List.mem_map.1 hz;obtain⟨j,hj,D3⟩:=List.getElem_of_mem hx;have:=hv.num j hj;have hg:l.getD j (0,[])=x:=by simp [List.getD,hj,D3]
  rw [hg] at this;omega
section
variable {w0 w:World} {p q:Nat} {S:Nat->Prop} {D:DS} {s:Int}
theorem TD{L:Nat}(h:Live w0 w p S D)(hq:dU w q p s)(Xr:¬ S q)(Cf:w0.heap.size<=q)(b off cap:Nat)(l:List (Int×List Int))(hl:qa w S (some ⟨b,off,none⟩) cap l)(hL:e9 D.secs.length=L)(aO:l≠[])(he:cO L l=0)(h0:0<=s)(h1:s<4294967295) :
  Calls Tryz.prog 142 #[.pointer (some ⟨q,0,none⟩),.slice (some ⟨b,off,none⟩) l.length cap] w fun e w'=>e=.returned (aR (aG D s L l).2.2)/\∃ S',Live w0 w' p S' (aG D s L l).1/\dU w' q p (aG D s L l).2.1/\¬ S' q/\aE (plus S q) (plus S' q) w w':=by
 have lG:=qp he;have hlen:=lG.len;have jf:0<l.length:=List.length_pos_iff.2 aO;have zlB:48<=D.secs.length/\L<=200:=by unfold e9 at hL;split at hL <;> omega
 obtain⟨X1,e1⟩:∃ X1,X1=eD (kT (D,0) (fun i=>(2+23 * ((s+1) % 2)+i,(l.getD i (0,[])).2)) l.length):=⟨_,rfl⟩;obtain⟨X2,e2⟩:∃ X2,X2=eD (kT (X1.1,0) (fun i=>((s+1) % 2,cV (s+1) (dM l))) 1):=⟨_,rfl⟩;obtain⟨X3,e3⟩:∃ X3,X3=eD (kT (X2.1,0) (fun i=>(48+(l.getD i (0,[])).1,(l.getD i (0,[])).2)) l.length):=⟨_,rfl⟩;have GA:=af (yO he aO zlB.1 h0 h1 e1 e2 e3);generalize hR:aG D s L l=R at *;clear hR;have Cl:=Aa h.dev hq (some ⟨b,off,none⟩) cap l hl;rw [hL,he,aA] at Cl;have CC:=af Cl;have HPT:Hid (∀ w1,Below w.heap.size w w1->Calls Tryz.prog 204 #[.slice (some ⟨b,off,none⟩) l.length cap] w1 fun e w'=>∃ nv bv,e=.returned (.tuple #[nv,bv])/\w'.ownsRow w1.heap.size 3 1 nv l.length (Mm l l.length)/\w'.ownsRow w1.heap.size 30 1 bv l.length (yn w1 b off l.length)/\Below w1.heap.size w1 w'):=af (fun w1 hb=>Ru b off cap l (hl.below hb) aO hlen);have H:=af h;have HQ:=af hq;have HL:=af hl;have zfu:=af lG;have E1:=af e1;have E2:=af e2;have E3:=af e3;clear h hq hl lG Cl hL e1 e2 e3;generalize hN:l.length=N at *;have HN:=af hN;clear hN;go_enter Tryz.func142,Tryz.ntmps142
 go_wp2_with fail
 refine(ae CC).mono ?_;rintro e w1 ⟨rfl,ay⟩;have lK:=af (ae HPT w1 ay);have aL:=af ay;clear ay HPT CC;go_wp2_with fail
 refine(ae lK).mono ?_;rintro e w2 ⟨nv,bv,rfl,hnv,hbv,aK⟩;obtain⟨gn,cn,rfl,hgn,hcn,zmz,hnc⟩:=vV hnv jf;obtain⟨gb,cb,rfl,AM,hcb,zmA,hbc⟩:=vV hbv jf;have hpq:=((ae HQ).below (ae aL)).below aK;have c1:=hpq.c1;have gP:=(ae aL).size;have gM:=aK.size;have HPQ:=af hpq;have br:=zTr aL aK;have ZO:=af aK;have HNC:=af hnc;have HBC:=af hbc;have Sz:s+1<=4294967295:=by omega
 clear hnv hbv aK hpq hnc hbc lK;go_wp2_with fail
 have bR:Below w2.heap.size w2 (w2.alloc (.cells #[.int .i64 (s+1),.slice (some ⟨gn,0,none⟩) N cn] 207)):=zBr.alloc zNr _;have qO:=heap_alloc_new w2 (.cells #[.int .i64 (s+1),.slice (some ⟨gn,0,none⟩) N cn] 207);have oq:(w2.alloc (.cells #[.int .i64 (s+1),.slice (some ⟨gn,0,none⟩) N cn] 207)).heap.size=w2.heap.size+1:=by simp
 have ou:∀ i,i<N->w2.cell? ⟨gn,i,none⟩=some (.int .i64 (l.getD i (0,[])).1):=fun i hi=>by rw [ae HNC i hi];simp [Mm,hi]
 generalize w2.alloc (.cells #[.int .i64 (s+1),.slice (some ⟨gn,0,none⟩) N cn] 207)=w3 at *;have DZ:KL w3 (.slice (some ⟨gn,0,none⟩) N cn) (l.map (·.1)):=by
  refine⟨fun z hz=>?_,some ⟨gn,0,none⟩,cn,by rw [zLm,ae HN],fun _=>⟨gn,rfl,fun i hi=>?_⟩⟩
  ·obtain⟨x,hx,rfl⟩:=List.mem_map.1 hz;obtain⟨j,hj,D3⟩:=List.getElem_of_mem hx;have:=(ae zfu).num j hj;have hg:l.getD j (0,[])=x:=by simp [List.getD,hj,D3]
   rw [hg] at this;omega
  ·rw [zLm,ae HN] at hi;have e:=ou i hi;rw [bR.cell (block_lt_of_cell e),e,wR l (by rw [ae HN];exact hi)]
 have gN:=zK (s+1) _ _ DZ (by rw [zLm,ae HN];exact hlen) (by omega) (by omega);have Nb:gK (l.map (·.1)) (l.map (·.1)).length=dM l:=by unfold gK dM;rw [List.take_of_length_le zNr,zLm]
 rw [Nb] at gN;have Zn:=af gN;have HM3:=af qO;have Zx:=af ou;have cT:=af bR;clear gN qO DZ Nb ou bR HNC;refine(ae Zn).mono ?_;rintro e w4 ⟨g4,rfl,hg4,PN,dO⟩;have Nd:=(dO.block w2.heap.size (by omega)).trans (ae HM3);have m0:w4.cell? ⟨w2.heap.size,0,none⟩=some (.int .i64 (s+1)):=by rw [cell_of_row _ _ _ _ _ _ Nd];rfl
 have m1:w4.cell? ⟨w2.heap.size,1,none⟩=some (.slice (some ⟨gn,0,none⟩) N cn):=by rw [cell_of_row _ _ _ _ _ _ Nd];rfl
 have ZB:=af Nd;have HK4:=af PN;have hs4:=dO.size;have ez:=af ((ae cT).trans (dO.mono (by omega)));clear Nd PN dO Zn HM3 cT;go_wp2_with fail
 refine(U5 (s+1) _ w4 (by omega) (by omega)).mono ?_;rintro e w5 ⟨rfl,gJ⟩;have zkW:(s+1) % 2=0\/(s+1) % 2=1:=by omega
 generalize (s+1) % 2=sd at *;clear m0 m1;have hs5:=gJ.size
 -- all that is laid aside
 have tK:Below w4.heap.size w4 (w5.alloc (.cells #[.int .i64 sd] 3)):=gJ.alloc gJ.size _;have S0:Below w2.heap.size w2 (w5.alloc (.cells #[.int .i64 sd] 3)):=(ae ez).trans (tK.mono (by omega));have fp:Below w.heap.size w (w5.alloc (.cells #[.int .i64 sd] 3)):=(ae br).trans (S0.mono (by omega));have iA:∀ k,w.heap.size<=k->¬ S k:=fun k hk hs=>by have:=(ae H).dev.lt k hs;omega
 have zbF:Kit (w5.alloc (.cells #[.int .i64 sd] 3)) S q p s w2.heap.size (s+1) (.slice (some ⟨gn,0,none⟩) N cn) gn N (fun i=>(l.getD i (0,[])).1) gb (fun i=>(l.getD i (0,[])).2) g4 (cV (s+1) (dM l)) w5.heap.size sd:=by
  refine⟨(ae HPQ).below S0,Xr,(tK.block _ (by omega)).trans (ae ZB),iA _ (by omega),fun i hi=>?_,iA _ (by omega),by simp;omega,⟨iA _ (by omega),fun i hi=>?_⟩,by simp;omega,(ae HK4).below tK,iA _ (by omega),?_,iA _ (by omega)⟩
  ·have e:=ae Zx i hi;rw [S0.cell (block_lt_of_cell e),e]
  ·have pM:=((ae HL).below (ae aL));obtain⟨b',off',e',hSb,bk⟩:=pM.2.2 aO;simp only [Option.some.injEq,Addr.mk.injEq,and_true] at e';obtain⟨rfl,rfl⟩:=e';obtain⟨_,ab,capb,d1,aX,hn,_⟩:=bk i (by rw [ae HN];exact hi);have e:=ae HBC i hi;have e2:(yn w1 b off N)[i]?=some (.slice ab (l.getD i (0,[])).2.length capb):=by simp only [yn,List.getElem?_map,List.getElem?_range hi,Option.map_some];unfold Y5;rw [d1];rfl
   rw [e2] at e;have GU:Below w1.heap.size w1 (w5.alloc (.cells #[.int .i64 sd] 3)):=by have h12:Below w1.heap.size w1 w2:=ae ZO;exact h12.trans (S0.mono h12.size)
   exact⟨ab,capb,(S0.cell (block_lt_of_cell e)).trans e,aX.below GU,hn⟩
  ·rw [cell_of_row _ _ _ _ _ _ (heap_alloc_new _ _)];rfl
 have ZE:=af zbF;have kj:=af fp;have HLV:=af ((ae H).below fp);have c0:=zbF.pg.c0;have c5:=zbF.sid;clear gJ tK S0 fp zbF ez HK4 ZB HPQ Zx HBC ZO c1;go_wp2_with fail
 generalize w5.alloc (.cells #[.int .i64 sd] 3)=w6 at *;have HW1:Hid (∀ wx g,Below w6.heap.size w6 wx->w6.heap.size<=g->wx.cell? ⟨g,0,none⟩=some (.int .i64 sd)->Calls Tryz.prog 132 #[.pointer (some ⟨p,0,none⟩),.slice (some ⟨gb,0,none⟩) N cb,.func (.func 212) #[] #[.pointer (some ⟨g,0,none⟩)]] wx fun e w'=>e=.returned (aR X1.2)/\∃ S',Live w0 w' p S' X1.1/\aE S S' w6 w'):=af (fun wx g K7 hg hc=>by
  have hk:=(ae ZE).below K7;have xZ:=block_lt_of_cell hc;have GS:¬ S g:=fun hs=>by have:=(ae HLV).dev.lt g hs;omega
  have:=mL 212 g gb N cb (fun i=>(l.getD i (0,[])).2) (fun i=>2+23 * sd+i) ((ae HLV).below K7) hk.zfp hk.lb (by omega) hcb Tryz.call212 (fun w' S' ht k hk=>zJ g sd k w' zkW (by omega) ((World.cell?_of_block (a:=⟨g,0,none⟩) (ht.block g xZ GS)).trans hc));rw [<- ae E1] at this;exact this.mono fun e w' ⟨he,S',hl,ht⟩=>⟨he,S',hl,(aE.aW K7).trans ht⟩)
 have hq6:q<w6.heap.size:=(ae ZE).pg.lt;have zkX:w5.heap.size<w6.heap.size:=block_lt_of_cell c5;go_region_held3 (fun w'=>w'.cell? ⟨q,0,none⟩=some (.pointer (some ⟨p,0,none⟩))/\w'.cell? ⟨w5.heap.size,0,none⟩=some (.int .i64 sd)) (first | go_keep | (go_split_ands;refine⟨?_,?_⟩ <;> go_keep))
  (first
   | (go_at_call 146;refine(CT _ _).mono ?_;rintro e wa ⟨rfl,Xa⟩;have nk:Below w6.heap.size w6 wa:=(by rw [Xa];exact(below_drewN zBr _).alloc zNr _);have hca:wa.cell? ⟨w6.heap.size,0,none⟩=some (.int .i64 sd):=(by rw [Xa];exact cell_of_row _ _ _ _ _ _ (heap_alloc_new _ _));clear Xa;have hka:=(ae ZE).below nk;have ra1:=hka.pg.c0;have ra2:=hka.sid)
   | (go_at_call 132;refine(ae HW1 _ _ (by exact⟨nk.os,nk.tape,nk.output,nk.size,nk.block⟩) (by exact zNr) (by exact hca)).mono ?_;rintro e wb ⟨rfl,S7,PJ,ht7⟩;have hk7:=(ae ZE).dZ ht7;have rb1:=hk7.pg.c0;have rb2:=hk7.sid))
 all_goals
  have HT7:=af ((aE.aW (S:=S) (ae kj)).trans ht7);have BB:=af PJ;have HK7:=af hk7;have ze4:kS (cV (s+1) (dM l)):=⟨gg _ _ (by rw [lE,ae HN];omega),qV _ _ (TP (ae zfu) (by omega))⟩;clear PJ hk7 ht7 hka nk hca ra1 ra2 HW1 HLV ZE kj aL br rb2 c0 c5 hq6 zkX;by_cases Td:X1.2=0
  ·rw [Td,aA];have SZ:Below wb.heap.size wb (wb.alloc (.cells #[.slice (some ⟨g4,0,none⟩) 32 32] 30)):=zBr.alloc zNr _;have hk8:=(ae HK7).below SZ;have PI:=(ae BB).below SZ;have JS:BG (wb.alloc (.cells #[.slice (some ⟨g4,0,none⟩) 32 32] 30)) S7 wb.heap.size 1 (fun _=>cV (s+1) (dM l)):=by
    refine⟨fun hs=>by have:=(ae BB).dev.lt _ hs;omega,fun k hk=>?_⟩;obtain rfl:k=0:=by omega
    refine⟨some ⟨g4,0,none⟩,32,?_,pI hk8.sec ze4,fun _ x hx hs=>?_⟩
    ·rw [cell_of_row _ _ _ _ _ _ (heap_alloc_new _ _),ze4.1];rfl
    ·obtain rfl:=zOi hx;exact hk8.ns hs
   have zer:=hk8.sid;have zhY:=hk8.nsb;have qM:=mL 206 w5.heap.size wb.heap.size 1 1 (fun _=>cV (s+1) (dM l)) (fun _=>sd) PI JS (by rw [size_alloc];omega) (by decide) (by decide) Tryz.call206 (fun w' S' ht k hk=>Kl w5.heap.size sd k w' ((World.cell?_of_block (a:=⟨w5.heap.size,0,none⟩) (ht.block _ (block_lt_of_cell zer) zhY)).trans zer));rw [<- ae E2] at qM;have Uv:=af qM;have HK8:=af hk8;clear qM hk8 PI JS zer zhY SZ ze4;go_wp2_with fail
   refine(ae Uv).mono ?_;rintro e w9 ⟨rfl,S9,hl9,ht9⟩;have hk9:=(ae HK8).dZ ht9;have HT9:=af (((ae HT7).trans (aE.alloc S7 _ _)).trans ht9);have HL9:=af hl9;have HK9:=af hk9;have rq:=hk9.pg.c0;clear hl9 hk9 ht9 Uv HK8 HT7 BB HK7 rb1;by_cases X8:X2.2=0
   ·rw [X8,aA];have HW3:Hid (∀ wx g,Below w9.heap.size w9 wx->w9.heap.size<=g->wx.cell? ⟨g,0,none⟩=some (.slice (some ⟨gn,0,none⟩) N cn)->Calls Tryz.prog 132 #[.pointer (some ⟨p,0,none⟩),.slice (some ⟨gb,0,none⟩) N cb,.func (.func 213) #[] #[.pointer (some ⟨g,0,none⟩)]] wx fun e w'=>e=.returned (aR X3.2)/\∃ S',Live w0 w' p S' X3.1/\aE S9 S' w9 w'):=af (fun wx g K7 hg hc=>by
     have hk:=(ae HK9).below K7;have xZ:=block_lt_of_cell hc;have GS:¬ S9 g:=fun hs=>by have:=(ae HL9).dev.lt g hs;omega
     have:=mL 213 g gb N cb (fun i=>(l.getD i (0,[])).2) (fun i=>48+(l.getD i (0,[])).1) ((ae HL9).below K7) hk.zfp hk.lb (by omega) hcb Tryz.call213 (fun w' S' ht k hkk=>DX g gn cn N k (l.getD k (0,[])).1 w' hkk (by omega) (by have:=(ae zfu).num k (by rw [ae HN];exact hkk);omega) ((World.cell?_of_block (a:=⟨g,0,none⟩) (ht.block g xZ GS)).trans hc) ((World.cell?_of_block (a:=⟨gn,k,none⟩) (ht.block gn hk.ln hk.nn)).trans (hk.vX k hkk)));rw [<- ae E3] at this;exact this.mono fun e w' ⟨he,S',hl,ht⟩=>⟨he,S',hl,(aE.aW K7).trans ht⟩)
    go_wp2_with fail
    go_region_held3 (fun w'=>w'.cell? ⟨q,0,none⟩=some (.pointer (some ⟨p,0,none⟩))) (go_keep)
     (first
      | (go_at_call 147;refine(JI _ _ _ _).mono ?_;rintro e wa ⟨rfl,Xa⟩;have nk:Below w9.heap.size w9 wa:=(by rw [Xa];exact(below_drewN zBr _).alloc zNr _);have hca:wa.cell? ⟨w9.heap.size,0,none⟩=some (.slice (some ⟨gn,0,none⟩) N cn):=(by rw [Xa];exact cell_of_row _ _ _ _ _ _ (heap_alloc_new _ _));clear Xa;have hka:=(ae HK9).below nk;have ra1:=hka.pg.c0)
      | (go_at_call 132;refine(ae HW3 _ _ (by exact⟨nk.os,nk.tape,nk.output,nk.size,nk.block⟩) (by exact zNr) (by exact hca)).mono ?_;rintro e wc ⟨rfl,S11,zh7,zep⟩;have SO:=(ae HK9).dZ zep;have rc1:=SO.pg.c0))
    all_goals
     have zjo:=af ((ae HT9).trans zep);have zjw:=af zh7;have ZF:=af SO;have m0:=SO.m0;have q1:=SO.pg.c1;have qf:=SO.pg.fr 1;clear zh7 SO zep hka nk hca ra1 HW3 HT9 HL9 HK9 rc1 rq;by_cases hX3:X3.2=0
     ·rw [hX3,aA];go_wp2;go_ret;have hR:=(ae GA).2.2.2 Td X8 hX3;rw [hR];exact⟨rfl,S11,(ae zjw).U9 (ae ZF).npg Cf,(ae ZF).pg.set _,(ae ZF).npg,((ae zjo).plus q).trans (aE.setCell (S:=plus S11 q) wc _ (.inr rfl))⟩
     ·rw [aC _ hX3];go_wp2;go_ret;have hR:=(ae GA).2.2.1 Td X8 hX3;rw [hR];exact⟨by rw [aC _ hX3];rfl,S11,ae zjw,(ae ZF).pg,(ae ZF).npg,(ae zjo).plus q⟩
   ·rw [aC _ X8];go_wp2;go_ret;have hR:=(ae GA).2.1 Td X8;rw [hR];exact⟨by rw [aC _ X8];rfl,S9,ae HL9,(ae HK9).pg,(ae HK9).npg,(ae HT9).plus q⟩
  ·rw [aC _ Td];go_wp2;go_ret;have hR:=(ae GA).1 Td;rw [hR];exact⟨by rw [aC _ Td];rfl,S7,ae BB,(ae HK7).pg,(ae HK7).npg,(ae HT7).plus q⟩
end
theorem NT{w0 w:World}{p q:Nat}{S:Nat->Prop}{D:DS}{s:Int}{L:Nat}(h:Live w0 w p S D)(hq:dU w q p s)(Xr:¬ S q)(Cf:w0.heap.size<=q)(a:Option Addr)(cap:Nat)(l:List (Int×List Int))(hl:qa w S a cap l)(hL:e9 D.secs.length=L)(h0:0<=s)(h1:s<4294967295) :
  Calls Tryz.prog 142 #[.pointer (some ⟨q,0,none⟩),.slice a l.length cap] w fun e w'=>e=.returned (aR (aG D s L l).2.2)/\∃ S',Live w0 w' p S' (aG D s L l).1/\dU w' q p (aG D s L l).2.1/\¬ S' q/\aE (plus S q) (plus S' q) w w':=by
 by_cases he:cO L l=0
 ·by_cases aO:l=[]
  ·subst aO;have e:aG D s L []=(D,s,if D.down then 9 else 0):=by unfold aG;rw [if_neg (by rw [he];exact fun h=>h rfl)];cases D.down <;> rfl
   rw [e];exact(Ki h hq a cap).mono fun e w' ⟨he,hb⟩=>⟨he,S,h.below hb,hq.below hb,Xr,(aE.aW hb).plus q⟩
  ·obtain⟨b,off,rfl,_⟩:=hl.2.2 aO;exact TD h hq Xr Cf b off cap l hl hL aO he h0 h1
 ·have e:aG D s L l=(D,s,cO L l):=by unfold aG;rw [if_pos he]
  rw [e];have:=NS h hq a cap l hl (by rw [hL];exact he);rw [hL] at this;exact this.mono fun e w' ⟨he,hb⟩=>⟨he,S,h.below hb,hq.below hb,Xr,(aE.aW hb).plus q⟩
theorem R8(g:Nat)(L z:Int)(w:World)(hz:0<=z/\z<=255)(hg:w.cell? ⟨g,0,none⟩=some (.int .i64 L)) :
  Calls Tryz.prog 242 #[.int .u8 z,.pointer (some ⟨g,0,none⟩)] w fun e w'=>e=.returned (.bool (decide (L<=z)))/\w=w':=by
 obtain⟨z0,z1⟩:=hz;go_enter Tryz.func242,Tryz.ntmps242
 go_wp2;go_ret;exact⟨rfl,rfl⟩
def badAt(L:Int):List Int->Int->Int
 | [],_=>-1
 | z :: r,i=>if L<=z then i else badAt L r (i+1)
theorem xm{L:Int}:∀ {l:List Int} {i:Int},0<=i->(0<=badAt L l i ↔ ∃ z∈l,L<=z)
 | [],i,h=>by simp [badAt]
 | z :: r,i,h=>by
  unfold badAt;by_cases hz:L<=z
  ·rw [if_pos hz];exact⟨fun _=>⟨z,by simp,hz⟩,fun _=>h⟩
  ·rw [if_neg hz,xm (by omega)];constructor
   ·rintro ⟨x,hx,k7⟩;exact⟨x,by simp [hx],k7⟩
   ·rintro ⟨x,hx,k7⟩;rcases zMc hx with rfl | hx
    ·exact absurd k7 hz
    ·exact⟨x,hx,k7⟩
section
variable {w:World}
theorem Sp(g:Nat)(L:Int)(a:Option Addr)(cap:Nat)(l:List Int)(hb:Bs w a cap l)(hg:w.cell? ⟨g,0,none⟩=some (.int .i64 L)) :
  Calls Tryz.prog 161 #[.slice a l.length cap,.func (.func 242) #[] #[.pointer (some ⟨g,0,none⟩)]] w fun e w'=>e=.returned (.int .i64 (badAt L l 0))/\w=w':=by
 have hl:=hb.2.2.1;have HB:=af hb;have HK:Hid (∀ k,k<l.length->0<=l.getD k 0/\l.getD k 0<=255):=af (fun k hk=>hb.1.getD k);have HD:Hid (∀ k,k<l.length->badAt L (l.drop k) k=if L<=l.getD k 0 then (k:Int) else badAt L (l.drop (k+1)) (k+1)):=af (fun k hk=>by
  rw [List.drop_eq_getElem_cons hk]
  show(if L<=l[k] then (k:Int) else badAt L (l.drop (k+1)) (k+1))=_
  simp [List.getD,hk])
 clear hb;go_enter Tryz.func161,Tryz.ntmps161
 go_wp2_with fail
 go_loop [8] (fun i=>∃ k:Nat,k<=l.length/\i=.int .i64 k/\badAt L l 0=badAt L (l.drop k) k) (fun i=>l.length-(intOf i).toNat)
 case atStart=>exact⟨0,by omega,rfl,rfl⟩
 case round =>
  obtain⟨k,hk,rfl,bB⟩:=hrel;by_cases aM:k<l.length
  ·obtain⟨b,off,rfl,hc⟩:=(ae HB).2.2.2.2 (by intro e;rw [e] at aM;cases aM);have Cl:=hc k aM;have HC:=af (R8 g L (l.getD k 0) w (ae HK k aM) hg);rw [ae HD k aM] at bB;obtain⟨z0,z1⟩:=ae HK k aM;clear hc;generalize l.getD k 0=z at *;by_cases hz:L<=z
   ·rw [if_pos hz] at bB;rw [decide_eq_true hz] at HC;have HA:=af bB;clear bB hz;go_wp2_with (go_at_call 242;refine(ae HC).mono ?_;rintro e w' ⟨rfl,rfl⟩)
    go_ret;exact⟨by rw [ae HA];rfl,rfl⟩
   ·rw [if_neg hz] at bB;rw [decide_eq_false hz] at HC;have HA:=af bB;clear bB hz;go_wp2_with (go_at_call 242;refine(ae HC).mono ?_;rintro e w' ⟨rfl,rfl⟩)
    go_round
    case rel=>exact⟨k+1,by omega,by go_num,by rw [ae HA];rfl⟩
    case measure=>simp [intOf];omega
  ·obtain rfl:k=l.length:=by omega
   have hd:l.drop l.length=[]:=List.drop_eq_nil_of_le zNr;rw [hd] at bB;go_wp2;go_ret;exact⟨rfl,rfl⟩
theorem B6(g:Nat)(L:Int)(a:Option Addr)(cap:Nat)(l:List Int)(hb:Bs w a cap l)(hg:w.cell? ⟨g,0,none⟩=some (.int .i64 L)) :
  Calls Tryz.prog 99 #[.slice a l.length cap,.func (.func 242) #[] #[.pointer (some ⟨g,0,none⟩)]] w fun e w'=>e=.returned (.bool (decide (0<=badAt L l 0)))/\w=w':=by
 have HC:=af (Sp g L a cap l hb hg);clear hb;generalize badAt L l 0=r at *;generalize l.length=n at *;go_enter Tryz.func99,Tryz.ntmps99
 go_wp2_with fail
 refine(ae HC).mono ?_;rintro e w1 ⟨rfl,rfl⟩;go_wp2;go_ret;exact⟨rfl,rfl⟩
end
end Go.Proofs.YtcimhnnendlblaaGreat
