/-
  Parts of the proofs.
-/
import Derived.Test.YtcimhnnendlblaaGreatJRtp
import Derived.Test.YtcimhnnendlblaaGreatJCh
set_option maxRecDepth 100000
set_option maxHeartbeats 16000000
set_option linter.all false
namespace Go.Proofs.YtcimhnnendlblaaGreat
open Go.RowKit
section
variable {w w':World} {g:Nat} {r:GY}
end
section
open Go.Sort
theorem Ec(g c N x n:Nat)(w:World)(hN:N<=140737488351232)(hp:x+n<=N)(hn:N<=c)(aM:x<c) :
  Calls Tryz.prog 73 #[.slice (some ⟨g,0,none⟩) N c,.agg #[.int .i64 x,.int .i64 n]] w fun e w'=>e=.returned (.slice (some ⟨g,x,none⟩) n (c-x))/\Below w.heap.size w w':=by
 have gP:=fun w'=>Ba (P:=Tryz.prog) (t:=30) zu30 aN g c N x n hp hn aM w'
 go_enter Tryz.func73,Tryz.ntmps73
 go_wp2;go_ret;exact⟨rfl,zBr.alloc zNr _⟩
theorem Tf(g c:Nat)(L:List Int)(x n:Nat)(w:World)(aX:Bs w (some ⟨g,0,none⟩) c L)(hx:x+n<=L.length) :
  ∃ q,(∀ w',(Instr.slice 30 (.slice (some ⟨g,0,none⟩) L.length c) (some (.int .i64 x)) (some (.int .i64 ((x:Int)+n))) none).run Tryz.prog w'=.ok (.slice q n (c-x)) w')/\Bs w q (c-x) ((L.drop x).take n)/\(0<n->q=some ⟨g,x,none⟩):=by
 rcases Nat.eq_zero_or_pos n with rfl | hn
 ·obtain⟨a1,gP,ay⟩:=eU (P:=Tryz.prog) (t:=30) zu30 aN aX x (x+0) (by omega) hx;rw [show x+0-x=0 by omega] at gP ay;exact⟨a1,fun w'=>by have:=gP w';rw [show((x+0:Nat):Int)=(x:Int)+((0:Nat):Int) by omega] at this;exact this,ay,fun h=>absurd h (Nat.lt_irrefl _)⟩
 ·have hc:=aX.2.1;refine⟨some ⟨g,x,none⟩,fun w'=>Ba (P:=Tryz.prog) (t:=30) zu30 aN g c L.length x n hx hc (by omega) w',?_,fun _=>rfl⟩;have:=(aX.drop x (by omega)).take n;rw [if_neg (by omega)] at this;simpa [addr_add] using this
theorem zbS(a:Option Addr)(cap N:Nat)(x n:Nat)(a1:Option Addr)(hN:N<=140737488351232)(hx:x+n<=N)(hs:∀ w',(Instr.slice 30 (.slice a N cap) (some (.int .i64 (x:Int))) (some (.int .i64 ((x:Int)+n))) none).run Tryz.prog w'=.ok (.slice a1 n (cap-x)) w')(w:World) :
  Calls Tryz.prog 73 #[.slice a N cap,.agg #[.int .i64 (x:Int),.int .i64 (n:Int)]] w fun e w'=>e=.returned (.slice a1 n (cap-x))/\∃ q os,w'=grow (w.drewN q) os:=by
 go_enter Tryz.func73,Tryz.ntmps73
 go_wp2;go_ret;exact⟨rfl,0,_,by rw [alloc_eq_grow];rfl⟩
theorem Hp.jB{w:World}{B p g c:Nat}{L:List Int}(hh:Hp w B p g c L){h:Int}(hc:aP L h=0):288<=(ai L h).2.1/\1<=(ai L h).2.2.1/\(ai L h).2.2.1<=1000/\(ai L h).2.1+(ai L h).2.2.1<=L.length:=by obtain⟨h1,h2,h3⟩:=aJ.1 hc;have h4:=aF.1 h2;have:=hh.aV.jB h4.1 h4.2 h3;omega
theorem Eb(p g c B:Nat)(L:List Int)(h x n:Int)(w:World)(hh:Hp w B p g c L)(hc:aP L h≠0) :
  Calls Tryz.prog 74 #[.pointer (some ⟨p,0,none⟩),.int .i64 h,.int .i64 x,.int .i64 n] w fun e w'=>e=.returned (.tuple #[.slice none 0 0,aR (aP L h)])/\Below w.heap.size w w':=by
 have HG:=af (Pz (some ⟨g,0,none⟩) c L h w hh.bs hc);rw [aC _ hc] at HG ⊢;have mH:=hh.cell;have hl:=hh.len;clear hh hc;unfold k8 YA at HG;dsimp only at HG;generalize aP L h=X at *;generalize L.length=N at *;go_enter Tryz.func74,Tryz.ntmps74
 go_wp2_with fail
 refine(ae HG).mono ?_;rintro e w1 ⟨rfl,ay⟩;have HB:=af ay;clear ay HG mH;go_wp2;go_ret2;exact⟨rfl,(ae HB).alloc (ae HB).size _⟩
theorem uT(p g c B:Nat)(L:List Int)(h x n:Int)(w:World)(hh:Hp w B p g c L)(hc:aP L h=0)(hx:x<=9223372036854775807)(hn:n<=9223372036854775807)(hZ:x<0\/n<0\/(ai L h).2.2.1<x+n) :
  Calls Tryz.prog 74 #[.pointer (some ⟨p,0,none⟩),.int .i64 h,.int .i64 x,.int .i64 n] w fun e w'=>e=.returned (.tuple #[.slice none 0 0,aR 3])/\Below w.heap.size w w':=by
 have HG:=af (uI (some ⟨g,0,none⟩) c L h w hh.bs hc);rw [aC _ (by decide)];have mH:=hh.cell;have hl:=hh.len;have fc:=hh.jB hc;clear hh hc;generalize ai L h=E at *;obtain⟨e1,e2,e3,e4⟩:=E;unfold k8 at HG;dsimp only at HG fc hZ;generalize L.length=N at *;by_cases c1:x<0
 ·clear hZ hx hn;go_enter Tryz.func74,Tryz.ntmps74
  go_wp2_with fail
  refine(ae HG).mono ?_;rintro e w1 ⟨rfl,ay⟩;have HB:=af ay;clear ay HG mH;go_wp2;go_ret2;exact⟨rfl,(ae HB).alloc (ae HB).size _⟩
 ·by_cases c2:n<0
  ·clear hZ hx hn;go_enter Tryz.func74,Tryz.ntmps74
   go_wp2_with fail
   refine(ae HG).mono ?_;rintro e w1 ⟨rfl,ay⟩;have HB:=af ay;clear ay HG mH;go_wp2;go_ret2;exact⟨rfl,(ae HB).alloc (ae HB).size _⟩
  ·have c3:e3-x<n:=by omega
   have c4:wrap64 (e3-x)=e3-x:=by unfold wrap64;omega
   clear hZ;go_enter Tryz.func74,Tryz.ntmps74
   go_wp2_with fail
   refine(ae HG).mono ?_;rintro e w1 ⟨rfl,ay⟩;have HB:=af ay;clear ay HG mH;go_wp2;go_ret2;exact⟨rfl,(ae HB).alloc (ae HB).size _⟩
theorem AS(p g c B:Nat)(L:List Int)(h:Int)(x n:Nat)(w:World)(hh:Hp w B p g c L)(hc:aP L h=0)(hn:(x:Int)+n<=(ai L h).2.2.1) :
  Calls Tryz.prog 74 #[.pointer (some ⟨p,0,none⟩),.int .i64 h,.int .i64 x,.int .i64 n] w fun e w'=>∃ q c',e=.returned (.tuple #[.slice q n c',.nilIface])/\Bs w' q c' ((L.drop ((ai L h).2.1.toNat+x)).take n)/\(0<n->q=some ⟨g,(ai L h).2.1.toNat+x,none⟩)/\Below w.heap.size w w':=by
 have mixed:Tryz.prog.follows .mixedOrders=true:=by kernel_rfl
 have HG:=af (uI (some ⟨g,0,none⟩) c L h w hh.bs hc);have mH:=hh.cell;have hl:=hh.len;have fc:=hh.jB hc;obtain⟨q,hs,hbq,hq⟩:=Tf g c L ((ai L h).2.1.toNat+x) n w hh.bs (by omega);clear hc;generalize ai L h=E at *;obtain⟨e1,e2,e3,e4⟩:=E;unfold k8 at HG;dsimp only at HG fc hn hs hbq hq ⊢;obtain⟨X,rfl⟩:=Int.eq_ofNat_of_zero_le (show 0<=e2 by omega);obtain⟨Y,rfl⟩:=Int.eq_ofNat_of_zero_le (show 0<=e3 by omega);rw [zTn] at *;have HP:=af (fun W=>zbS (some ⟨g,0,none⟩) c L.length (X+x) n q (by omega) (by omega) hs W);rw [show((X+x:Nat):Int)=IntKind.i64.wrap ((X:Int)+x) by rw [IntKind.wrap_i64];omega] at HP;have HH:=af hh;have HQ:=af hq;have HBQ:=af hbq;clear hh hs hq hbq;generalize hR:(L.drop (X+x)).take n=R at *;clear hR;generalize hN:L.length=N at *;generalize c-(X+x)=c' at *;obtain⟨n1,n2,n3,n4⟩:=fc;obtain⟨m1,m2,m3⟩:=hl;have s1:(X:Int)+x<=6400:=by omega
 have s2:0<=(X:Int)+x:=by omega
 go_enter Tryz.func74,Tryz.ntmps74
 go_wp2_with fail
 refine(ae HG).mono ?_;rintro e w1 ⟨rfl,ay⟩;have dm:Below w.heap.size w (w1.alloc (.cells #[.int .i64 e1,.int .i64 X,.int .i64 Y,.int .i64 e4] 125)):=ay.alloc ay.size _;have zbK:=((ae HH).below dm).cell;rw [hN] at zbK;have ox:=rf.new w1 (e1,(X:Int),(Y:Int),e4);have k0:=fun n os=>cell_grown ((ae HH).below dm).BJ zbK n os
 have k1:=fun n os=>cell_grown ox.lt ox.cells.2.1 n os
 have zls:=ox.cells.2.2.1;have aL:=af dm;clear ay dm HG mH HH zbK ox;dsimp only at k1 zls;go_wp2_with fail
 generalize w1.alloc (.cells #[.int .i64 e1,.int .i64 X,.int .i64 Y,.int .i64 e4] 125)=W at *;go_quiet_grown ((go_at_call 73;with_reducible exact Calls.grown_of (ae HP _)))
 go_wp2;go_ret2;have hb:Below w.heap.size w (grow (W.drewN nq) osq):=zTs aL fE;exact⟨q,c',rfl,(ae HBQ).below hb,ae HQ,hb⟩
theorem JW(p g c B:Nat)(L:List Int)(h x n E:Int)(w:World)(hE:E≠0)(Xt:Calls Tryz.prog 74 #[.pointer (some ⟨p,0,none⟩),.int .i64 h,.int .i64 x,.int .i64 n] w fun e w'=>e=.returned (.tuple #[.slice none 0 0,aR E])/\Below w.heap.size w w') :
  Calls Tryz.prog 28 #[.pointer (some ⟨p,0,none⟩),.int .i64 h,.int .i64 x,.int .i64 n] w fun e w'=>e=.returned (.tuple #[.slice none 0 0,aR E])/\Below w.heap.size w w':=by
 have HP:=af Xt;rw [aC _ hE] at HP ⊢;clear Xt hE;go_enter Tryz.func28,Tryz.ntmps28
 go_wp2_with fail
 refine(ae HP).mono ?_;rintro e w1 ⟨rfl,ay⟩;have HB:=af ay;clear ay HP;go_wp2;go_ret2;exact⟨rfl,ae HB⟩
theorem Ea(p g c B:Nat)(L:List Int)(h:Int)(x n:Nat)(w:World)(hh:Hp w B p g c L)(hc:aP L h=0)(hn:(x:Int)+n<=(ai L h).2.2.1) :
  Calls Tryz.prog 28 #[.pointer (some ⟨p,0,none⟩),.int .i64 h,.int .i64 x,.int .i64 n] w fun e w'=>∃ a' c',e=.returned (.tuple #[.slice a' n c',.nilIface])/\cj w' w.heap.size (.slice a' n c') ((L.drop ((ai L h).2.1.toNat+x)).take n)/\Below w.heap.size w w':=by
 have HP:=af (AS p g c B L h x n w hh hc hn);have fc:=hh.jB hc;have hl:=hh.len;have hRl:((L.drop ((ai L h).2.1.toNat+x)).take n).length=n:=by simp;omega
 generalize (L.drop ((ai L h).2.1.toNat+x)).take n=R at *;have HC:=af (fun(q:Option Addr) (c':Nat) (W:World) (hb:Bs W q c' R)=>kg q c' R W hb);rw [hRl] at HC;have wH:n<=1000:=by omega
 clear hh hc fc;go_enter Tryz.func28,Tryz.ntmps28
 go_wp2_with fail
 refine(ae HP).mono ?_;rintro e w1 ⟨q,c',rfl,aX,hq,ay⟩;have mC:=af (ae HC q c' w1 aX);have HB:=af ay;clear ay HP HC aX hq;go_wp2_with fail
 refine(ae mC).mono ?_;rintro e w2 ⟨a',c2,rfl,az,aK⟩;have HO:=af az;have br:=zTr HB aK;have Qu:=af (ae HB).size;clear az aK mC HB;go_wp2;go_ret2;exact⟨a',c2,rfl,(ae HO).lower (ae Qu),ae br⟩
theorem Te(p g c B:Nat)(L:List Int)(h x n:Int)(w:World)(hh:Hp w B p g c L)(hx:x<=9223372036854775807)(hn:n<=9223372036854775807) :
  Calls Tryz.prog 28 #[.pointer (some ⟨p,0,none⟩),.int .i64 h,.int .i64 x,.int .i64 n] w fun e w'=>∃ a' c',e=.returned (.tuple #[.slice a' (L7 L h x n).length c',aR (vz L h x n)])/\cj w' w.heap.size (.slice a' (L7 L h x n).length c') (L7 L h x n)/\Below w.heap.size w w':=by
 by_cases h0:vz L h x n=0
 ·obtain⟨h1,h2,h3,h4⟩:=l5.1 h0;obtain⟨X,rfl⟩:=Int.eq_ofNat_of_zero_le h2;obtain⟨N,rfl⟩:=Int.eq_ofNat_of_zero_le h3;have fc:=hh.jB h1;have hl:=hh.len;have hR:L7 L h X N=(L.drop ((ai L h).2.1.toNat+X)).take N:=by unfold L7;rw [if_pos h0,zTn,zTn]
  have hRl:(L7 L h X N).length=N:=by rw [hR];simp;omega
  rw [hRl,h0,aA];refine(Ea p g c B L h X N w hh h1 h4).mono fun e w' ⟨a',c',he,ho,hb⟩=>⟨a',c',he,?_,hb⟩
  rw [<- hR] at ho;exact ho
 ·have hR:L7 L h x n=[]:=by unfold L7;rw [if_neg h0]
  rw [hR];by_cases h1:aP L h=0
  ·have hZ:x<0\/n<0\/(ai L h).2.2.1<x+n:=Classical.byContradiction fun hc=>h0 (l5.2 ⟨h1,by omega,by omega,by omega⟩)
   have e3:vz L h x n=3:=by unfold vz;rw [if_neg (fun h=>h h1),if_pos hZ]
   rw [e3];exact(JW p g c B L h x n 3 w (by decide) (uT p g c B L h x n w hh h1 hx hn hZ)).mono fun e w' ⟨he,hb⟩=>⟨none,0,he,cj.nil _ _,hb⟩
  ·have e3:vz L h x n=aP L h:=by unfold vz;rw [if_pos h1]
   rw [e3];exact(JW p g c B L h x n (aP L h) w h1 (Eb p g c B L h x n w hh h1)).mono fun e w' ⟨he,hb⟩=>⟨none,0,he,cj.nil _ _,hb⟩
theorem D8(p g c B:Nat)(L:List Int)(h x E:Int)(a:Option Addr)(n cap:Nat)(w:World)(hE:E≠0)(hn:n<=140737488351232)(Xt:Calls Tryz.prog 74 #[.pointer (some ⟨p,0,none⟩),.int .i64 h,.int .i64 x,.int .i64 n] w fun e w'=>e=.returned (.tuple #[.slice none 0 0,aR E])/\Below w.heap.size w w') :
  Calls Tryz.prog 24 #[.pointer (some ⟨p,0,none⟩),.int .i64 h,.int .i64 x,.slice a n cap] w fun e w'=>e=.returned (aR E)/\Below w.heap.size w w':=by
 have HP:=af Xt;rw [aC _ hE] at HP ⊢;clear Xt hE;go_enter Tryz.func24,Tryz.ntmps24
 go_wp2_with fail
 refine(ae HP).mono ?_;rintro e w1 ⟨rfl,ay⟩;have HB:=af ay;clear ay HP;go_wp2;go_ret;exact⟨rfl,ae HB⟩
theorem Nl(p g c B:Nat)(L:List Int)(h:Int)(x:Nat)(a:Option Addr)(cap:Nat)(l:List Int)(w:World)(hh:Hp w B p g c L)(hb:Bs w a cap l)(hc:aP L h=0)(hn:(x:Int)+l.length<=(ai L h).2.2.1) :
  Calls Tryz.prog 24 #[.pointer (some ⟨p,0,none⟩),.int .i64 h,.int .i64 x,.slice a l.length cap] w fun e w'=>e=.returned .nilIface/\Hp w' B p g c (splice L ((ai L h).2.1.toNat+x) l)/\aE (bA p g) (bA p g) w w':=by
 have HP:=af (AS p g c B L h x l.length w hh hc hn);obtain⟨g1,g2,g3⟩:=aJ.1 hc;have g4:=aF.1 g2;have qP:=sQ hh.aV g4.1 g4.2 g3 (p:=x) (r:=l) hn;have fc:=hh.jB hc;have hl:=hh.len;have iq:=hb.2.2.1;have HKE:=af qP.1;have HH:=af hh;have nC:=af hb;clear hh hc qP g1 g2 g3 g4 hb;by_cases h0:l=[]
 ·subst h0;have jQ:splice L ((ai L h).2.1.toNat+x) []=L:=by simp [splice]
  rw [jQ];simp only [List.length_nil] at HP hn iq ⊢;clear HKE;generalize (ai L h).2.1.toNat+x=off at *;go_enter Tryz.func24,Tryz.ntmps24
  go_wp2_with fail
  refine(ae HP).mono ?_;rintro e w1 ⟨q,c',rfl,aX,hq,ay⟩;have HB:=af ay;have D7:Sem.run Tryz.prog (Builtin.copy_ #[30,30] 3 #[.slice q 0 c',.slice a 0 cap]) w1=.ok (.int .i64 0) w1:=by have:=run_copy_none (P:=Tryz.prog) w1 30 30 3 5 q a 0 c' 0 cap zu30 aN (by simp);simpa [goInt] using this
  clear ay HP aX hq;go_wp2;go_ret;exact⟨rfl,(ae HH).below (ae HB),aE.aW (ae HB)⟩
 ·have jf:0<l.length:=List.length_pos_iff.2 h0;have dc:(ai L h).2.1.toNat+x+l.length<=L.length:=by omega
  clear fc;generalize (ai L h).2.1.toNat+x=off at *;go_enter Tryz.func24,Tryz.ntmps24
  go_wp2_with fail
  refine(ae HP).mono ?_;rintro e w1 ⟨q,c',rfl,aX,hq,ay⟩;obtain rfl:=hq jf;have wK:=(ae HH).below ay;obtain⟨cur,bn⟩:=wK.row;have D7:Sem.run Tryz.prog (Builtin.copy_ #[30,30] 3 #[.slice (some ⟨g,off,none⟩) l.length c',.slice a l.length cap]) w1=.ok (.int .i64 l.length) (fJ w1 g cur off l) :=fz w1 _ _ _ zu30 aN _ g off _ _ c cur a cap L l zNr h0 dc bn ((ae nC).below ay);have zcn:=af (wK.lay bn dc (ae nC).1 (ae HKE));have HT:=af (aE.aW (S:=bA p g) ay);clear ay HP aX hq wK bn;generalize fJ w1 g cur off l=w2 at *;go_wp2;go_ret;exact⟨rfl,(ae zcn).1,(ae HT).trans (ae zcn).2⟩
theorem AQ(p g c B:Nat)(L:List Int)(h x:Int)(a:Option Addr)(cap:Nat)(l:List Int)(w:World)(hh:Hp w B p g c L)(hb:Bs w a cap l)(hx:x<=9223372036854775807) :
  Calls Tryz.prog 24 #[.pointer (some ⟨p,0,none⟩),.int .i64 h,.int .i64 x,.slice a l.length cap] w fun e w'=>e=.returned (aR (vz L h x l.length))/\Hp w' B p g c (tB L h x l)/\aE (bA p g) (bA p g) w w':=by
 have iq:=hb.2.2.1;by_cases h0:vz L h x l.length=0
 ·obtain⟨h1,h2,h3,h4⟩:=l5.1 h0;obtain⟨X,rfl⟩:=Int.eq_ofNat_of_zero_le h2;have hR:tB L h X l=splice L ((ai L h).2.1.toNat+X) l:=by unfold tB;rw [if_pos h0,zTn]
  rw [hR,h0,aA];exact Nl p g c B L h X a cap l w hh hb h1 h4
 ·have hR:tB L h x l=L:=by unfold tB;rw [if_neg h0]
  rw [hR];by_cases h1:aP L h=0
  ·have hZ:x<0\/(l.length:Int)<0\/(ai L h).2.2.1<x+l.length:=Classical.byContradiction fun hc=>h0 (l5.2 ⟨h1,by omega,by omega,by omega⟩)
   have e3:vz L h x l.length=3:=by unfold vz;rw [if_neg (fun h=>h h1),if_pos hZ]
   rw [e3];exact(D8 p g c B L h x 3 a l.length cap w (by decide) iq (uT p g c B L h x l.length w hh h1 hx (by omega) hZ)).mono fun e w' ⟨he,hb⟩=>⟨he,hh.below hb,aE.aW hb⟩
  ·have e3:vz L h x l.length=aP L h:=by unfold vz;rw [if_pos h1]
   rw [e3];exact(D8 p g c B L h x (aP L h) a l.length cap w h1 iq (Eb p g c B L h x l.length w hh h1)).mono fun e w' ⟨he,hb⟩=>⟨he,hh.below hb,aE.aW hb⟩
end
theorem wy(a:Option Addr)(cap:Nat)(l:List (Int×Int×Int×Int))(w:World)(hs:fG tM 4 w a cap l)(hl:l.length<=40) :
  Calls Tryz.prog 70 #[.slice a l.length cap] w fun e w'=>e=.returned (.tuple #[.int .i64 (if 40<mb l then 0 else mb l),aR (if 40<mb l then 4 else 0)])/\Below w.heap.size w w':=by
 have py:=hs.2.2.1;have HS:=af hs;clear hs;generalize hA:(if 40<mb l then (0:Int) else mb l)=RA;generalize hE:aR (if 40<mb l then 4 else 0)=RE;have HA:=af hA;have HE:=af hE;clear hA hE;go_enter Tryz.func70,Tryz.ntmps70
 go_wp2_with fail
 go_loopw [4,9] (fun hv iv wr=>∃ k:Nat,k<=l.length/\iv=.int .i64 k/\hv=.int .i64 (mb (l.take k))/\Below w.heap.size w wr) (fun _ iv _=>l.length-(intOf iv).toNat)
 case atStart=>exact⟨0,Nat.zero_le _,rfl,rfl,zBr⟩
 case round =>
  obtain⟨k,hk,rfl,rfl,ao⟩:=hrel;have sE:=zbp (l.take k);by_cases aM:k<l.length
  ·have aO:l≠[]:=by intro e;rw [e] at aM;simp at aM
   obtain⟨b1,o1,rfl,dR⟩:=((ae HS).below ao).2.2.2 aO;obtain⟨f,hf⟩:∃ f,l[k]?=some f:=⟨l[k],zLg aM⟩;obtain⟨q0,q1,q2,q3⟩:=fG.jB (cap:=0) dR hf;have HT:=af (Sc hf);have aQ:=af ao;have BR:(l.take k).length<=40:=by simp;omega
   obtain⟨x,y,z,t⟩:=f;dsimp only at *;clear dR hf aO ao;generalize mb (l.take k)=H at *;by_cases he:x=H
   ·subst he;go_wp2;go_roundw
    case rel=>exact⟨k+1,by omega,by go_num,by rw [ae HT,if_pos rfl],(ae aQ).alloc (ae aQ).size _⟩
    case measure=>simp [intOf];omega
   ·have Z9:(x == H)=false:=by rw [beq_eq_false_iff_ne];exact he
    go_wp2;go_roundw
    case rel=>exact⟨k+1,by omega,by go_num,by rw [ae HT,if_neg he],(ae aQ).alloc (ae aQ).size _⟩
    case measure=>simp [intOf];omega
  ·obtain rfl:k=l.length:=by omega
   rw [List.take_length] at sE ⊢;have aQ:=af ao;clear ao;generalize mb l=H at *;by_cases hH:40<H
   ·go_wp2;go_ret2;have h1:=ae HA;have h2:=ae HE;rw [if_pos hH] at h1 h2;exact⟨by rw [<- h1,<- h2];rfl,ae aQ⟩
   ·go_wp2;go_ret2;have h1:=ae HA;have h2:=ae HE;rw [if_neg (by omega)] at h1 h2;exact⟨by rw [<- h1,<- h2];rfl,ae aQ⟩
theorem Jr:(Tryz.prog.info? 123).map (fun i=>(i.zero,i.size,i.bytes))=some (some (.agg #[.int .i64 0,.int .i64 0]),2,16):=by kernel_rfl
theorem P5(e:Int×Int):∀ u∈nI e,u.oneCell'=true:=by
 intro u hu;unfold nI at hu;rcases zMc hu with rfl | hu
 ·rfl
 rw [zMs hu];rfl
theorem zaE{l:List (Int×Int×Int×Int)}{k:Nat}{e:(Int×Int×Int×Int)}(h:l[k]?=some e):(l.map jJ).take (k+1)=(l.map jJ).take k++[(e.2.1-288,e.2.2.1)]:=by rw [List.take_add_one,List.getElem?_map,h];rfl
theorem Iv(n:Nat)(a:Option Addr)(cap:Nat)(l:List (Int×Int×Int×Int))(size:Int)(w:World)(hs:fG tM 4 w a cap l)(hl:l.length<=40)(hn:288<=n/\n<=6400)(eQ:∀ e∈l,0<=e.2.1/\e.2.1<=65535/\0<=e.2.2.1/\e.2.2.1<=65535) :
  Calls Tryz.prog 71 #[.int .i64 n,.slice a l.length cap,.int .i64 size] w fun e w'=>e=.returned (.tuple #[.int .i64 (if jg ((n:Int)-288) (l.map jJ) size=0 then 288+iC ((n:Int)-288) (l.map jJ) size else 0),aR (jg ((n:Int)-288) (l.map jJ) size)])/\Below w.heap.size w w':=by
 obtain⟨i0,eP,cY,dw,dz⟩:=info_parts Jr;have py:=hs.2.2.1;have HS:=af hs;have HIN:=af eQ;clear hs eQ;generalize hA:(if jg ((n:Int)-288) (l.map jJ) size=0 then 288+iC ((n:Int)-288) (l.map jJ) size else 0)=RA;generalize hE:aR (jg ((n:Int)-288) (l.map jJ) size)=RE;have HA:=af hA;have HE:=af hE;clear hA hE;go_enter Tryz.func71,Tryz.ntmps71
 go_wp2_with fail
 go_loopw [8,15] (fun v iv wr=>∃ k:Nat,k<=l.length/\iv=.int .i64 k/\bT nI 2 123 wr w.heap.size v ((l.map jJ).take k)/\Below w.heap.size w wr) (fun _ iv _=>l.length-(intOf iv).toNat)
 case atStart=>exact⟨0,Nat.zero_le _,rfl,bT.nil _ _,zBr⟩
 case round =>
  obtain⟨k,hk,rfl,az,ao⟩:=hrel;obtain⟨va,vm,vc,rfl⟩:=az.shape;by_cases aM:k<l.length
  ·have aO:l≠[]:=by intro e;rw [e] at aM;simp at aM
   obtain⟨b1,o1,rfl,dR⟩:=((ae HS).below ao).2.2.2 aO;obtain⟨f,hf⟩:∃ f,l[k]?=some f:=⟨l[k],zLg aM⟩;obtain⟨q0,q1,q2,q3⟩:=fG.jB (cap:=0) dR hf;have HT:=af (zaE hf);have hfi:=ae HIN f (List.mem_of_getElem? hf);have tH:((l.map jJ).take k).length<=40:=by simp;omega
   obtain⟨x,y,z,t⟩:=f;dsimp only at *;have dm:=ao.alloc ao.size (.cells #[.int .i64 x,.int .i64 y,.int .i64 z,.int .i64 t] 125);have cT:=af (dm.alloc dm.size (.cells #[.int .i64 (y-288),.int .i64 z] 123));have nB:=af ((az.below (zBr.alloc zNr (.cells #[.int .i64 x,.int .i64 y,.int .i64 z,.int .i64 t] 125))).below (zBr.alloc zNr (.cells #[.int .i64 (y-288),.int .i64 z] 123)));have jK:Hid (((wr.alloc (.cells #[.int .i64 x,.int .i64 y,.int .i64 z,.int .i64 t] 125)).alloc (.cells #[.int .i64 (y-288),.int .i64 z] 123)).heap[wr.heap.size+1]?=some (.cells (nI (y-288,z)).toArray 123 (0,0))):=af (by have:=heap_alloc_new (wr.alloc (.cells #[.int .i64 x,.int .i64 y,.int .i64 z,.int .i64 t] 125)) (.cells #[.int .i64 (y-288),.int .i64 z] 123);rw [aH] at this;exact this);have cL:=ao.size;clear dR hf aO ao dm az;go_wp2_with (at_builtin;refine bM rfl _ _ 214 rfl w.heap.size i0 (.agg #[.int .i64 0,.int .i64 0]) 16 zu214 eP cY dw dz rfl (by decide) (by decide) _ _ rfl (ae nB) (wr.heap.size+1) (y-288,z) rfl (ae jK) rfl (P5 _) (by omega) (by simp;omega) ?_)
   intro v9 w9 aZ en;rw [<- ae HT] at aZ;have pS:=af aZ;have jI:=af ((ae cT).trans en);obtain⟨a9,m9,c9,rfl⟩:=aZ.shape;clear aZ en nB cT jK q0 q1 q2 q3;go_wp2;go_roundw
   case rel=>exact⟨k+1,by omega,by go_num,ae pS,ae jI⟩
   case measure=>simp [intOf];omega
  ·obtain rfl:k=l.length:=by omega
   rw [List.take_of_length_le (by simp)] at az;have ho:re wr w.heap.size (.slice va vm vc) (l.map jJ):=az;obtain⟨a2,c2,e2,zij⟩:=ho.exs (fun e he=>by obtain⟨f,hf,rfl⟩:=List.mem_map.1 he;have:=ae HIN f hf;unfold yv jJ;dsimp only;omega) (by simp;omega);simp only [Value.slice.injEq] at e2;obtain⟨rfl,rfl,rfl⟩:=e2;have HF:=af (zb1 ((n:Int)-288) va vc (l.map jJ) size wr zij);have aQ:=af ao;have tH:(l.map jJ).length<=40:=by simp;omega
   have hfa:0<=iC ((n:Int)-288) (l.map jJ) size/\iC ((n:Int)-288) (l.map jJ) size<=6400:=by
    unfold iC;by_cases h0:jg ((n:Int)-288) (l.map jJ) size=0
    ·rw [if_pos h0];unfold jg at h0;by_cases h1:r7 ((n:Int)-288) (l.map jJ)=0
     ·have h2:=kM h1;rw [if_neg (fun h=>h h1)] at h0;by_cases h3:size<1\/6400<size
      ·rw [if_pos h3] at h0;exact absurd h0 (by decide)
      ·rw [if_neg h3] at h0;by_cases h4:(fT size (dS ((n:Int)-288) (l.map jJ))).2=0
       ·rw [if_pos h4] at h0;exact absurd h0 (by decide)
       ·rcases A3 (size:=size) (by omega) (fun r hr=>(h2.1 r hr).2.1) with ⟨h5,_⟩ | ⟨_,h6,_⟩
        ·exact absurd h5 h4
        ·have:=h2.1 _ h6;omega
     ·rw [if_pos h1] at h0;exact absurd h0 h1
    ·rw [if_neg h0];omega
   clear az ho zij ao;generalize iC ((n:Int)-288) (l.map jJ) size=FA at *;generalize jg ((n:Int)-288) (l.map jJ) size=FE at *;generalize (l.map jJ).length=M at *;go_wp2_with fail
   refine(ae HF).mono ?_;rintro e w1 ⟨rfl,ay⟩;have aL:=zTr aQ ay;clear ay HF aQ;by_cases h0:FE=0
   ·subst h0;rw [aA];go_wp2;go_ret2;have h1:=ae HA;have h2:=ae HE;rw [if_pos trivial] at h1;exact⟨by rw [<- h1,<- h2];rfl,ae aL⟩
   ·rw [aC _ h0];go_wp2;go_ret2;have h1:=ae HA;have h2:=ae HE;rw [if_neg h0] at h1;rw [aC _ h0] at h2;exact⟨by rw [<- h1,<- h2];rfl,ae aL⟩
theorem KE(p g c B:Nat)(L:List Int)(n t:Int)(w:World)(hh:Hp w B p g c L)(hZ:n<1\/1000<n\/t<0\/15<t) :
  Calls Tryz.prog 23 #[.pointer (some ⟨p,0,none⟩),.int .i64 n,.int .i64 t] w fun e w'=>e=.returned (.tuple #[.int .i64 0,aR 1])/\w=w':=by
 clear hh;rw [aC 1 (by decide)];by_cases c1:n<1
 ·clear hZ;go_enter Tryz.func23,Tryz.ntmps23
  go_wp2;go_ret2;exact⟨rfl,rfl⟩
 ·by_cases c2:1000<n
  ·clear hZ;go_enter Tryz.func23,Tryz.ntmps23
   go_wp2;go_ret2;exact⟨rfl,rfl⟩
  ·by_cases c3:t<0
   ·clear hZ;go_enter Tryz.func23,Tryz.ntmps23
    go_wp2;go_ret2;exact⟨rfl,rfl⟩
   ·have c4:15<t:=by omega
    clear hZ;go_enter Tryz.func23,Tryz.ntmps23
    go_wp2;go_ret2;exact⟨rfl,rfl⟩
theorem Og(p g c B:Nat)(L:List Int)(n t:Int)(w:World)(hh:Hp w B p g c L)(hr:¬ (n<1\/1000<n\/t<0\/15<t))(nG:eZ L=40) :
  Calls Tryz.prog 23 #[.pointer (some ⟨p,0,none⟩),.int .i64 n,.int .i64 t] w fun e w'=>e=.returned (.tuple #[.int .i64 0,aR 4])/\Below w.heap.size w w':=by
 have HE:=af (fQ (some ⟨g,0,none⟩) c L w hh.bs hh.aV.cW);have Uy:=af (fun(a:Option Addr) (cap:Nat) (W:World) (hs:fG tM 4 W a cap (entsK L 40))=>wy a cap (entsK L 40) W hs (b8 L 40));rw [Ap,nG,if_pos (by decide),if_pos (by decide)] at Uy;have SR:=b8 L 40;have mH:=hh.cell;have hl:=hh.len;rw [aC 4 (by decide)] at Uy ⊢;clear hh nG;have r1:¬ n<1:=by omega
 have r2:¬ 1000<n:=by omega
 have r3:¬ t<0:=by omega
 have r4:¬ 15<t:=by omega
 clear hr;generalize entsK L 40=EN at *;generalize L.length=M at *;go_enter Tryz.func23,Tryz.ntmps23
 go_wp2_with fail
 refine(ae HE).mono ?_;rintro e w1 ⟨v1,rfl,cz,ay⟩;obtain⟨a1,c1,rfl,dL⟩:=cz.kk iI (by omega);have KT:=af (ae Uy a1 c1 w1 dL);have aL:=af ay;clear cz dL ay HE Uy mH;go_wp2_with fail
 refine(ae KT).mono ?_;rintro e w2 ⟨rfl,aK⟩;have br:=zTr aL aK;clear aK KT aL;go_wp2;go_ret2;exact⟨rfl,ae br⟩
theorem Oh(p g c B:Nat)(L:List Int)(n t:Int)(w:World)(hh:Hp w B p g c L)(hr:¬ (n<1\/1000<n\/t<0\/15<t))(nG:eZ L≠40)(dc:jg ((L.length:Int)-288) (cU L) n≠0) :
  Calls Tryz.prog 23 #[.pointer (some ⟨p,0,none⟩),.int .i64 n,.int .i64 t] w fun e w'=>e=.returned (.tuple #[.int .i64 0,aR (jg ((L.length:Int)-288) (cU L) n)])/\Below w.heap.size w w':=by
 have HE:=af (fQ (some ⟨g,0,none⟩) c L w hh.bs hh.aV.cW);have Uy:=af (fun(a:Option Addr) (cap:Nat) (W:World) (hs:fG tM 4 W a cap (entsK L 40))=>wy a cap (entsK L 40) W hs (b8 L 40));have h40:=Pq L;rw [Ap,if_neg (by omega),if_neg (by omega),aA] at Uy;have BV:=af (fun(a:Option Addr) (cap:Nat) (W:World) (hs:fG tM 4 W a cap (entsK L 40))=>Iv L.length a cap (entsK L 40) n W hs (b8 L 40) hh.aV.len (P6 hh.aV));change Hid (∀ (a:Option Addr) (cap:Nat) (W:World),fG tM 4 W a cap (entsK L 40)->Calls Tryz.prog 71 #[.int .i64 L.length,.slice a (entsK L 40).length cap,.int .i64 n] W fun e w'=>e=.returned (.tuple #[.int .i64 (if jg ((L.length:Int)-288) (cU L) n=0 then 288+iC ((L.length:Int)-288) (cU L) n else 0),aR (jg ((L.length:Int)-288) (cU L) n)])/\Below W.heap.size W w') at BV;rw [if_neg dc,aC _ dc] at BV;rw [aC _ dc];have SR:=b8 L 40;have HH:=af hh;have mH:=hh.cell;have hl:=hh.len;clear hh nG;have r1:¬ n<1:=by omega
 have r2:¬ 1000<n:=by omega
 have r3:¬ t<0:=by omega
 have r4:¬ 15<t:=by omega
 clear hr dc;generalize jg ((L.length:Int)-288) (cU L) n=FE at *;generalize eZ L=LH at *;generalize entsK L 40=EN at *;go_enter Tryz.func23,Tryz.ntmps23
 go_wp2_with fail
 refine(ae HE).mono ?_;rintro e w1 ⟨v1,rfl,cz,ay⟩;obtain⟨a1,c1,rfl,dL⟩:=cz.kk iI (by omega);have KT:=af (ae Uy a1 c1 w1 dL);have HSL:=af dL;have aL:=af ay;clear cz dL ay HE Uy mH;go_wp2_with fail
 refine(ae KT).mono ?_;rintro e w2 ⟨rfl,aK⟩;have cD:=zTs aL aK;have mH:=((ae HH).below cD).cell;have Zq:=af (ae BV a1 c1 w2 ((ae HSL).below aK));have br:=af cD;clear aK cD KT aL BV HSL HH;go_wp2_with fail
 refine(ae Zq).mono ?_;rintro e w3 ⟨rfl,bR⟩;have cT:=zTr br bR;clear bR Zq br mH;go_wp2;go_ret2;exact⟨rfl,ae cT⟩
theorem T0(p g c B:Nat)(L:List Int)(n t:Int)(w:World)(hh:Hp w B p g c L)(hB:B<=w.heap.size)(h0:sK L n t=0) :
  Calls Tryz.prog 23 #[.pointer (some ⟨p,0,none⟩),.int .i64 n,.int .i64 t] w fun e w'=>e=.returned (.tuple #[.int .i64 (Oj L n t),.nilIface])/\∃ g' c',Hp w' B p g' c' (kR L n t)/\aE (bA p g) (bA p g') w w':=by
 obtain⟨x,N,hk⟩:=yu hh.aV h0;have h40:=hk.low;have zh4:=hk.lay hh.aV h0;have mo:=hk.put hh.aV;have zh9:=hk.fK h0;have K4:=KG hh.aV n t;have XT:=Qq hh.kV n t;have zcW:=(hk.keep hh.aV h0).2.1;have HE:=af (fQ (some ⟨g,0,none⟩) c L w hh.bs hh.aV.cW);have Uy:=af (fun(a:Option Addr) (cap:Nat) (W:World) (hs:fG tM 4 W a cap (entsK L 40))=>wy a cap (entsK L 40) W hs (b8 L 40));rw [Ap,if_neg (by omega),if_neg (by omega),aA] at Uy;have BV:=af (fun(a:Option Addr) (cap:Nat) (W:World) (hs:fG tM 4 W a cap (entsK L 40))=>Iv L.length a cap (entsK L 40) n W hs (b8 L 40) hh.aV.len (P6 hh.aV));change Hid (∀ (a:Option Addr) (cap:Nat) (W:World),fG tM 4 W a cap (entsK L 40)->Calls Tryz.prog 71 #[.int .i64 L.length,.slice a (entsK L 40).length cap,.int .i64 n] W fun e w'=>e=.returned (.tuple #[.int .i64 (if jg ((L.length:Int)-288) (cU L) n=0 then 288+iC ((L.length:Int)-288) (cU L) n else 0),aR (jg ((L.length:Int)-288) (cU L) n)])/\Below W.heap.size W w') at BV;rw [hk.fit,if_pos rfl,aA,hk.eqx] at BV;have SR:=b8 L 40;have hPl:(bP L ((eZ L:Int)+1,(x:Int),(N:Int),t)).length=L.length:=lZ mo;have lh:Hid (∀ W:World,Below w.heap.size w W->Calls Tryz.prog 72 #[.slice (some ⟨g,0,none⟩) L.length c,.agg #[.int .i64 ((eZ L:Int)+1),.int .i64 x,.int .i64 N,.int .i64 t]] W fun e w'=>∃ g4 c4 cur4,e=.returned (.tuple #[.slice (some ⟨g4,0,none⟩) L.length c4,.nilIface])/\Row w' w.heap.size g4 c4 cur4 (bP L ((eZ L:Int)+1,(x:Int),(N:Int),t))/\Below w.heap.size w w'/\Below W.heap.size W w'):=af (fun W hW=>by
  refine(uH (some ⟨g,0,none⟩) c L ((eZ L:Int)+1) x N t W (hh.bs.below hW) mo).mono fun e w' ⟨g4,c4,cur4,he,tF,dO⟩=>⟨g4,c4,cur4,?_,?_,hW.trans (dO.mono hW.size),dO⟩
  ·rw [he];have hq:splice L (cJ ((eZ L:Int)+1)) (dB ((eZ L:Int)+1,(x:Int),(N:Int),t))=bP L ((eZ L:Int)+1,(x:Int),(N:Int),t):=by unfold bP;rw [if_pos mo]
   rw [hq,hPl]
  ·have hq:splice L (cJ ((eZ L:Int)+1)) (dB ((eZ L:Int)+1,(x:Int),(N:Int),t))=bP L ((eZ L:Int)+1,(x:Int),(N:Int),t):=by unfold bP;rw [if_pos mo]
   rw [hq] at tF;exact tF.low hW.size)
 have GK:=hk.x1;have k7:=hk.x2;have hn1:=hk.n1;have hn2:=hk.n2;have GL:=hk.t1;have iu:=hk.t2;have hnN:=hk.eqn;subst hnN;have HH:=af hh;have mH:=hh.cell;have hl:=hh.len;have zcn:=af zh4;have Ub:=af K4;have KV:=af XT;have zju:=af zcW;rw [zh9.2];clear hh hk mo zh4 K4 XT zcW zh9 h0;have r1:¬ (N:Int)<1:=by omega
 have r2:¬ 1000<(N:Int):=by omega
 have r3:¬ t<0:=by omega
 have r4:¬ 15<t:=by omega
 generalize kR L N t=AB at *;generalize bP L ((eZ L:Int)+1,(x:Int),(N:Int),t)=P at *;generalize eZ L=LH at *;generalize entsK L 40=EN at *;generalize hM:L.length=M at *;go_enter Tryz.func23,Tryz.ntmps23
 go_wp2_with fail
 refine(ae HE).mono ?_;rintro e w1 ⟨v1,rfl,cz,ay⟩;obtain⟨a1,c1,rfl,dL⟩:=cz.kk iI (by omega);have KT:=af (ae Uy a1 c1 w1 dL);have HSL:=af dL;have aL:=af ay;clear cz dL ay HE Uy mH;go_wp2_with fail
 refine(ae KT).mono ?_;rintro e w2 ⟨rfl,aK⟩;have cD:=zTs aL aK;have mH:=((ae HH).below cD).cell;rw [hM] at mH;have Zq:=af (ae BV a1 c1 w2 ((ae HSL).below aK));have br:=af cD;clear aK cD KT aL BV HSL;go_wp2_with fail
 refine(ae Zq).mono ?_;rintro e w3 ⟨rfl,bR⟩;have j8:=zTs br bR;have ze9:Below w.heap.size w (w3.alloc (.cells #[.int .i64 x,.int .i64 N] 123)):=j8.alloc j8.size _;have Ge:=((ae HH).below ze9).cell;rw [hM] at Ge;have hex:(w3.alloc (.cells #[.int .i64 x,.int .i64 N] 123)).heap[w3.heap.size]?=some (.cells #[.int .i64 x,.int .i64 N] 123 (0,0)):=heap_alloc_new w3 _;have DO:(w3.alloc (.cells #[.int .i64 x,.int .i64 N] 123)).cell? ⟨w3.heap.size,0,none⟩=some (.int .i64 x):=by rw [cell_of_row _ _ _ _ _ _ hex];rfl
 have zej:(w3.alloc (.cells #[.int .i64 x,.int .i64 N] 123)).cell? ⟨w3.heap.size,1,none⟩=some (.int .i64 N):=by rw [cell_of_row _ _ _ _ _ _ hex];rfl
 have zdd:Hid (Calls Tryz.prog 72 #[.slice (some ⟨g,0,none⟩) M c,.agg #[.int .i64 ((LH:Int)+1),.int .i64 x,.int .i64 N,.int .i64 t]] (w3.alloc (.cells #[.int .i64 x,.int .i64 N] 123)).drew fun e w'=>∃ g4 c4 cur4,e=.returned (.tuple #[.slice (some ⟨g4,0,none⟩) M c4,.nilIface])/\Row w' w.heap.size g4 c4 cur4 P/\Below w.heap.size w w'/\w'.cell? ⟨p,0,none⟩=some (.slice (some ⟨g,0,none⟩) M c)/\w'.cell? ⟨w3.heap.size,0,none⟩=some (.int .i64 x)/\w'.cell? ⟨w3.heap.size,1,none⟩=some (.int .i64 N)):=af (by
  refine(ae lh _ (bq ze9)).mono fun e w' ⟨g4,c4,cur4,he,hr,hb,aK⟩=>⟨g4,c4,cur4,he,hr,hb,?_,?_,?_⟩
  ·exact(aK.cell (p:=⟨p,0,none⟩) (block_lt_of_cell Ge)).trans Ge
  ·exact(aK.cell (p:=⟨w3.heap.size,0,none⟩) (block_lt_of_cell DO)).trans DO
  ·exact(aK.cell (p:=⟨w3.heap.size,1,none⟩) (block_lt_of_cell zej)).trans zej)
 clear bR Zq br mH lh hex j8 ze9;go_wp2_with fail
 generalize w3.alloc (.cells #[.int .i64 x,.int .i64 N] 123)=wx at *;go_region_held3 (fun w'=>w'.cell? ⟨p,0,none⟩=some (.slice (some ⟨g,0,none⟩) M c)/\w'.cell? ⟨w3.heap.size,0,none⟩=some (.int .i64 x)/\w'.cell? ⟨w3.heap.size,1,none⟩=some (.int .i64 N)) (first | go_keep | (go_split_ands;refine⟨?_,?_,?_⟩ <;> go_keep))
  ((go_at_call 72;refine(ae zdd).mono ?_;rintro e w4 ⟨g4,c4,cur4,rfl,tF,dO,r0,r1,r2⟩))
 have hc4:=tF.2.2.1;rw [hPl] at hc4;have zde:=af (fun W=>Ec g4 c4 M x N W (by omega) k7 hc4 (by omega));have HR4:=af tF;have ez:=af dO;clear tF dO zdd Ge DO zej;go_wp2_with fail
 refine(ae zde _).mono ?_;rintro e w5 ⟨rfl,gJ⟩;have sh:=(ae HR4).below gJ;have zc:=zTs ez gJ;have zmF:∀ ty,(Builtin.clear_ #[30] ty #[.slice (some ⟨g4,x,none⟩) N (c4-x)]).run Tryz.prog w5=.ok (.tuple #[]) (fJ w5 g4 cur4 x (ag N)):=fun ty=>Fu w5 _ ty zu30 zaa w.heap.size g4 x N _ c4 cur4 P (by omega) (by omega) sh
 have JE:=jb sh (show x+(ag N).length<=_ by rw [aj];omega);rw [ae zcn] at JE;have hB6:=gh (cur:=cur4) (l:=ag N) (off:=x) zc sh.1;have hp6:(fJ w5 g4 cur4 x (ag N)).heap[p]?=some (.cells #[.slice (some ⟨g,0,none⟩) L.length c] 70 (0,0)):=(hB6.block p (ae HH).BJ).trans (ae HH).lT;have zmG:(fJ w5 g4 cur4 x (ag N)).cell? ⟨p,0,none⟩=some (.slice (some ⟨g,0,none⟩) L.length c):=by rw [cell_of_row _ _ _ _ _ _ hp6];rfl
 have zmB:(fJ w5 g4 cur4 x (ag N)).frozen? ⟨p,0,none⟩=false:=frozen_of_row _ _ 0 _ _ hp6;have KO:=af ((ae HH).set hB6 JE (ae KV) (ae Ub) hB);rw [ae zju] at KO;clear sh JE zc hB6 hp6 gJ HR4 ez zde r0 r1 r2;generalize fJ w5 g4 cur4 x (ag N)=w6 at *;go_wp2;go_ret2;exact⟨rfl,g4,c4,ae KO⟩
theorem AU(p g c B:Nat)(L:List Int)(n t:Int)(w:World)(hh:Hp w B p g c L)(hB:B<=w.heap.size) :
  Calls Tryz.prog 23 #[.pointer (some ⟨p,0,none⟩),.int .i64 n,.int .i64 t] w fun e w'=>e=.returned (.tuple #[.int .i64 (Oj L n t),aR (sK L n t)])/\∃ g' c',Hp w' B p g' c' (kR L n t)/\aE (bA p g) (bA p g') w w':=by
 by_cases h0:sK L n t=0
 ·rw [h0,aA];exact T0 p g c B L n t w hh hB h0
 ·have e1:Oj L n t=0:=by unfold Oj;rw [if_neg h0]
  have e2:kR L n t=L:=by unfold kR;rw [if_neg h0]
  rw [e1,e2];by_cases h1:n<1\/1000<n\/t<0\/15<t
  ·have e3:sK L n t=1:=by unfold sK;rw [if_pos h1]
   rw [e3];exact(KE p g c B L n t w hh h1).mono fun e w' ⟨he,hw⟩=>⟨he,g,c,by rw [<- hw];exact hh,by rw [<- hw];exact aE.refl _ _⟩
  ·by_cases h2:eZ L=40
   ·have e3:sK L n t=4:=by unfold sK;rw [if_neg h1,if_pos h2]
    rw [e3];exact(Og p g c B L n t w hh h1 h2).mono fun e w' ⟨he,hb⟩=>⟨he,g,c,hh.below hb,aE.aW hb⟩
   ·have e3:sK L n t=jg ((L.length:Int)-288) (cU L) n:=by unfold sK;rw [if_neg h1,if_neg h2]
    rw [e3] at h0 ⊢;exact(Oh p g c B L n t w hh h1 h2 h0).mono fun e w' ⟨he,hb⟩=>⟨he,g,c,hh.below hb,aE.aW hb⟩
theorem To(q:Nat)(s:ByteArray)(x h:Int)(w:World)(hq:w.cell? ⟨q,0,none⟩=some (.int .i64 h)) :
  Calls Tryz.prog 84 #[.agg #[.string s,.int .i64 x],.pointer (some ⟨q,0,none⟩)] w fun e w'=>e=.returned (.bool (x == h))/\Below w.heap.size w w':=by
 have GM:(w.alloc (.cells #[.string s,.int .i64 x] 152)).cell? ⟨q,0,none⟩=some (.int .i64 h):=(((Below.refl w.heap.size w).alloc zNr _).cell (block_lt_of_cell hq)).trans hq;clear hq;go_enter Tryz.func84,Tryz.ntmps84
 go_wp2;go_ret;exact⟨rfl,zBr.alloc zNr _⟩
theorem Ip(q:Nat)(h:Int)(a:Option Addr)(cap:Nat)(l:List (ByteArray×Int))(w:World)(hs:fG yC 2 w a cap l)(hq:w.cell? ⟨q,0,none⟩=some (.int .i64 h)) :
  Calls Tryz.prog 148 #[.slice a l.length cap,.func (.func 84) #[] #[.pointer (some ⟨q,0,none⟩)]] w fun e w'=>∃ i:Int,e=.returned (.int .i64 i)/\decide (0<=i)=l.any (fun r=>r.2 == h)/\Below w.heap.size w w':=by
 have hl:=hs.2.2.1;have HS:=af hs;have HQ:=af hq;clear hs hq;go_enter Tryz.func148,Tryz.ntmps148
 go_wp2;go_loopw [5,8] (fun _ iv wr=>∃ k:Nat,k<=l.length/\iv=.int .i64 k/\(l.take k).any (fun r=>r.2 == h)=false/\Below w.heap.size w wr) (fun _ iv _=>l.length-(intOf iv).toNat)
 case atStart=>exact⟨0,Nat.zero_le _,rfl,rfl,zBr⟩
 case round =>
  obtain⟨k,hk,rfl,bB,ao⟩:=hrel;by_cases aM:k<l.length
  ·have aO:l≠[]:=by intro e;rw [e] at aM;simp at aM
   obtain⟨b1,o1,rfl,dR⟩:=((ae HS).below ao).2.2.2 aO;obtain⟨f,hf⟩:∃ f,l[k]?=some f:=⟨l[k],zLg aM⟩;obtain⟨q0,q1⟩:=fG.root (cap:=0) dR hf;have hq:=(ao.cell (block_lt_of_cell (ae HQ))).trans (ae HQ);obtain⟨s,x⟩:=f;have HC:=af (To q s x h wr hq);have pY:l.take (k+1)=l.take k++[(s,x)]:=by rw [List.take_add_one,hf];rfl
   have nK:=af pY;have oJ:=af bB;have T9:=af (List.mem_of_getElem? hf);have aQ:=af ao;dsimp only at *;clear dR hf aO hq bB ao pY;cases hx:(x == h)
   ·have da:(l.take (k+1)).any (fun r=>r.2 == h)=false:=by rw [ae nK,List.any_append,ae oJ];simp [hx]
    have ji:=af da;rw [hx] at HC;clear da hx;go_wp2_with (go_at_call 84;refine(ae HC).mono ?_;rintro e w1 ⟨rfl,ay⟩;have aL:=zTr aQ ay;clear ay)
    go_roundw
    case rel=>exact⟨k+1,by omega,by go_num,ae ji,ae aL⟩
    case measure=>simp [intOf];omega
   ·have da:l.any (fun r=>r.2 == h)=true:=List.any_eq_true.2 ⟨_,ae T9,hx⟩;have ji:=af da;rw [hx] at HC;clear da hx;go_wp2_with (go_at_call 84;refine(ae HC).mono ?_;rintro e w1 ⟨rfl,ay⟩;have aL:=zTr aQ ay;clear ay)
    go_ret;exact⟨k,rfl,by rw [ae ji];exact decide_eq_true (by omega),ae aL⟩
  ·obtain rfl:k=l.length:=by omega
   rw [List.take_length] at bB;have oJ:=af bB;have aQ:=af ao;clear bB ao;go_wp2;go_ret;exact⟨-1,rfl,by rw [ae oJ];rfl,ae aQ⟩
theorem LQ(q:Nat)(h:Int)(a:Option Addr)(cap:Nat)(l:List (ByteArray×Int))(w:World)(hs:fG yC 2 w a cap l)(hq:w.cell? ⟨q,0,none⟩=some (.int .i64 h)) :
  Calls Tryz.prog 83 #[.slice a l.length cap,.func (.func 84) #[] #[.pointer (some ⟨q,0,none⟩)]] w fun e w'=>e=.returned (.bool (l.any (fun r=>r.2 == h)))/\Below w.heap.size w w':=by
 have HI:=af (Ip q h a cap l w hs hq);generalize l.any (fun r=>r.2 == h)=R at *;generalize l.length=N at *;clear hs hq;go_enter Tryz.func83,Tryz.ntmps83
 go_wp2_with fail
 refine(ae HI).mono ?_;rintro e w1 ⟨i,rfl,hi,ay⟩;have HB:=af ay;have HR:=af hi;clear ay hi HI;go_wp2;go_ret;exact⟨by rw [<- ae HR];rfl,ae HB⟩
theorem Yc(p g c B:Nat)(L:List Int)(h:Int)(w:World)(hh:Hp w B p g c L)(hc:aP L h≠0) :
  Calls Tryz.prog 30 #[.pointer (some ⟨p,0,none⟩),.int .i64 h] w fun e w'=>e=.returned (aR (aP L h))/\Below w.heap.size w w':=by
 have mJ:Below w.heap.size w (w.alloc (.cells #[.int .i64 h] 3)):=zBr.alloc zNr _;have mH:=(hh.below mJ).cell;have da:(w.alloc (.cells #[.int .i64 h] 3)).cell? ⟨w.heap.size,0,none⟩=some (.int .i64 h):=by rw [cell_of_row _ _ _ _ _ _ (heap_alloc_new w _)];rfl
 have hd:=YD (some ⟨g,0,none⟩) c L h (w.alloc (.cells #[.int .i64 h] 3)).drew (hh.bs.below (bq mJ));rw [aC _ hc] at hd ⊢;have HD:Hid (Calls Tryz.prog 82 #[.slice (some ⟨g,0,none⟩) L.length c,.int .i64 h] (w.alloc (.cells #[.int .i64 h] 3)).drew fun e w'=>∃ a' c',e=.returned (.tuple #[.slice a' (cN L h).length c',.iface 81 (.int .i64 (aP L h))])/\Below w.heap.size w w'/\w'.cell? ⟨p,0,none⟩=some (.slice (some ⟨g,0,none⟩) L.length c)/\w'.cell? ⟨w.heap.size,0,none⟩=some (.int .i64 h)):=af (hd.mono fun e w' ⟨a',c',he,aX,hb⟩=>⟨a',c',he,(bq mJ).trans (hb.mono (bq mJ).size),(hb.cell (p:=⟨p,0,none⟩) (block_lt_of_cell mH)).trans mH,(hb.cell (p:=⟨w.heap.size,0,none⟩) (block_lt_of_cell da)).trans da⟩);have hl:=hh.len;clear hh hc hd;generalize (cN L h).length=D at *;generalize aP L h=X at *;generalize L.length=N at *;go_enter Tryz.func30,Tryz.ntmps30
 go_wp2_with fail
 generalize w.alloc (.cells #[.int .i64 h] 3)=wx at *;go_region_held3 (fun w'=>w'.cell? ⟨p,0,none⟩=some (.slice (some ⟨g,0,none⟩) N c)/\w'.cell? ⟨w.heap.size,0,none⟩=some (.int .i64 h)) (first | go_keep | (go_split_ands;refine⟨?_,?_⟩ <;> go_keep))
  ((go_at_call 82;refine(ae HD).mono ?_;rintro e w1 ⟨a',c',rfl,ay,r0,r1⟩))
 have HB:=af ay;clear ay HD;go_wp2;go_ret;exact⟨rfl,ae HB⟩
theorem Yd(p g c B:Nat)(L:List Int)(h:Int)(w:World)(hh:Hp w B p g c L)(hB:B<=w.heap.size)(hc:aP L h=0)(R:Bool)(hR:(ak L 8).any (fun r=>r.2 == h)=R) :
  Calls Tryz.prog 30 #[.pointer (some ⟨p,0,none⟩),.int .i64 h] w fun e w'=>e=.returned (aR (Eg L h))/\∃ g' c',Hp w' B p g' c' (J1 L h)/\aE (bA p g) (bA p g') w w':=by
 have mJ:Below w.heap.size w (w.alloc (.cells #[.int .i64 h] 3)):=zBr.alloc zNr _;have mH:=(hh.below mJ).cell;have da:(w.alloc (.cells #[.int .i64 h] 3)).cell? ⟨w.heap.size,0,none⟩=some (.int .i64 h):=by rw [cell_of_row _ _ _ _ _ _ (heap_alloc_new w _)];rfl
 have hd:=YC (some ⟨g,0,none⟩) c L h (w.alloc (.cells #[.int .i64 h] 3)).drew (hh.bs.below (bq mJ)) hc;obtain⟨g1,g2,g3⟩:=aJ.1 hc;have g4:=aF.1 g2;have hp5:=cH g4.1 g4.2;have hlen:=hh.len;have K5:(cN L h).length=L.length:=by unfold cN;rw [if_pos hc,length_splice (by rw [aj];omega)]
 have ik:=Bj hh.kV h;have HD:Hid (Calls Tryz.prog 82 #[.slice (some ⟨g,0,none⟩) L.length c,.int .i64 h] (w.alloc (.cells #[.int .i64 h] 3)).drew fun e w'=>∃ g' c' cur',e=.returned (.tuple #[.slice (some ⟨g',0,none⟩) L.length c',.nilIface])/\Row w' w.heap.size g' c' cur' (cN L h)/\Below w.heap.size w w'/\w'.cell? ⟨p,0,none⟩=some (.slice (some ⟨g,0,none⟩) L.length c)/\w'.cell? ⟨w.heap.size,0,none⟩=some (.int .i64 h)):=af (hd.mono fun e w' ⟨g',c',cur',he,hr,hb⟩=>⟨g',c',cur',by rw [he,K5],hr.low (bq mJ).size,(bq mJ).trans (hb.mono (bq mJ).size),(hb.cell (p:=⟨p,0,none⟩) (block_lt_of_cell mH)).trans mH,(hb.cell (p:=⟨w.heap.size,0,none⟩) (block_lt_of_cell da)).trans da⟩);have HRT:=af (fun(W:World) (hW:Below w.heap.size w W)=>mj (some ⟨g,0,none⟩) c L W (hh.bs.below hW) hh.aV.cW);have uJ:=eA L 8;have HCT:=af (fun(a:Option Addr) (cap:Nat) (W:World) (hs:fG yC 2 W a cap (ak L 8)) (hq:W.cell? ⟨w.heap.size,0,none⟩=some (.int .i64 h))=>LQ w.heap.size h a cap (ak L 8) W hs hq);rw [hR] at HCT;have HFE:Hid (R=true->Eg L h=7/\J1 L h=L):=af (fun e=>by
  have e1:Eg L h=7:=by unfold Eg;rw [if_neg (fun h=>h hc),if_pos (hR.trans e)]
  exact⟨e1,by unfold J1;rw [e1];rfl⟩)
 have HFN:Hid (R=false->Eg L h=0/\J1 L h=cN L h/\aB (cN L h)):=af (fun e=>by have e1:Eg L h=0:=uU.2 ⟨hc,hR.trans e⟩;exact⟨e1,by unfold J1;rw [if_pos e1],P8 hh.aV e1⟩);have HH:=af hh;have ic:=af ik;have HDL:=af K5;clear hh hc hd ik K5 hR g1 g2 g3 g4 hp5;generalize Eg L h=FE at *;generalize J1 L h=FB at *;generalize cN L h=DL at *;generalize ak L 8=RT at *;generalize hN:L.length=N at *;go_enter Tryz.func30,Tryz.ntmps30
 go_wp2_with fail
 generalize w.alloc (.cells #[.int .i64 h] 3)=wx at *;go_region_held3 (fun w'=>w'.cell? ⟨p,0,none⟩=some (.slice (some ⟨g,0,none⟩) N c)/\w'.cell? ⟨w.heap.size,0,none⟩=some (.int .i64 h)) (first | go_keep | (go_split_ands;refine⟨?_,?_⟩ <;> go_keep))
  ((go_at_call 82;refine(ae HD).mono ?_;rintro e w1 ⟨g',c',cur',rfl,sx,ay,r0,r1⟩))
 have vp:=af sx;have zjq:=af (ae HRT w1 ay);have aL:=af ay;have HQ1:=af r1;clear ay sx HD HRT mH da mJ;go_wp2_with fail
 refine(ae zjq).mono ?_;rintro e w2 ⟨v2,rfl,gC,aK⟩;obtain⟨a2,c2,rfl,oh⟩:=gC.kk mX (by omega);have GM:=(aK.cell (p:=⟨w.heap.size,0,none⟩) (block_lt_of_cell (ae HQ1))).trans (ae HQ1);have zfC:=af (ae HCT a2 c2 w2 oh GM);have tN:=af ((ae vp).below aK);have br:=zTr aL aK;clear gC oh aK GM zjq vp aL HQ1 r0 r1 HCT;go_wp2_with fail
 refine(ae zfC).mono ?_;rintro e w3 ⟨rfl,bR⟩;have j8:=zTs br bR;have hr3:=(ae tN).below bR;cases R with
 | true =>have cT:=af j8;have CA:=af (ae HFE rfl).1;have EI:=af (ae HFE rfl).2;clear bR hr3 j8 zfC tN br HFE HFN;go_wp2;go_ret;refine⟨by rw [ae CA];rfl,g,c,?_,aE.aW (ae cT)⟩;rw [ae EI];exact(ae HH).below (ae cT)
 | false =>obtain⟨e1,e2,e3⟩:=ae HFN rfl;have KO:=af ((ae HH).set j8 hr3 (ae ic) e3 hB);rw [ae HDL] at KO;have Ge:=((ae HH).below j8).cell;rw [hN] at Ge;have zmC:=((ae HH).below j8).fr;have CA:=af e1;have EI:=af e2;clear bR hr3 j8 zfC tN br HH HFE HFN e1 e2 e3;go_wp2;go_ret;refine⟨by rw [ae CA];rfl,g',c',?_⟩;rw [ae EI];exact ae KO
theorem Ed(p g c B:Nat)(L:List Int)(h:Int)(w:World)(hh:Hp w B p g c L)(hB:B<=w.heap.size) :
  Calls Tryz.prog 30 #[.pointer (some ⟨p,0,none⟩),.int .i64 h] w fun e w'=>e=.returned (aR (Eg L h))/\∃ g' c',Hp w' B p g' c' (J1 L h)/\aE (bA p g) (bA p g') w w':=by
 by_cases hc:aP L h=0
 ·exact Yd p g c B L h w hh hB hc _ rfl
 ·have e1:Eg L h=aP L h:=by unfold Eg;rw [if_pos hc]
  have e2:J1 L h=L:=by unfold J1;rw [e1,if_neg hc]
  rw [e1,e2];exact(Yc p g c B L h w hh hc).mono fun e w' ⟨he,hb⟩=>⟨he,g,c,hh.below hb,aE.aW hb⟩
end Go.Proofs.YtcimhnnendlblaaGreat
