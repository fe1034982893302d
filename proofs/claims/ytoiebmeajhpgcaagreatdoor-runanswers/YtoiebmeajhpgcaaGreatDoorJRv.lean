import Derived.Test.YtoiebmeajhpgcaaGreatDoorJDev
import Derived.Deep.AppendLies
set_option maxRecDepth 100000
set_option maxHeartbeats 16000000
set_option linter.all false
namespace Go.Proofs.YtoiebmeajhpgcaaGreatDoor
variable {v sv lv:Value}{l:LI}{left:Int}{g n cap c i:Nat}{m:List (Nat×LI)}{w w1 w2:World}{o:Obj}
open Tryz
open Go.RowKit
def jY(w:World)(S:Nat->Prop)(v:Value)(l:LI):Prop :=∃g cap,v=.slice (zo g) 32 cap/\S g/\(∃cur,w.heap[g]?=some (.cells cur 5 (0,0)))/\Bs w (zo g) cap l
def EY(w:World)(S:Nat->Prop)(cs:List Value)(mem:List (Nat×LI)):Prop :=∀i,i<mem.length->cs[2*i]?=some (zi ((mem.getD i (0,[])).1:Int))/\∃v,cs[2*i+1]?=some v/\jY w S v (mem.getD i (0,[])).2
def zl(w:World)(S:Nat->Prop)(cs:List Value)(secs:List (LI)):Prop :=∀i,i<secs.length->∃v,cs[i]?=some v/\jY w S v (secs.getD i [])
structure cy (w:World) (p:Nat) (sv lv:Value) (left:Int) (S:Nat->Prop) (D:DS):Prop where
 ok:D.Ok
 str:w.heap[p]?=some (.cells #[sv,lv,zi left,.bool D.down] 59 (0,0))
 sec:∃cs,w.ownsRow 0 29 1 sv D.secs.length cs/\zl w S cs D.secs
 V1:∃cs,w.ownsRow 0 118 2 lv D.mem.length cs/\EY w S cs D.mem
 mq:S p
 ins:∀g,sv.ownBlock=some g->S g
 inl:∀g,lv.ownBlock=some g->S g
 lt:∀k,S k->k<w.heap.size
 lf:D.down=true\/left=(if D.left<0 then -1 else D.left)
 lb:-1<=left/\left<=9223372036854775807
def Ref(w:World)(p:Nat)(S:Nat->Prop)(D:DS):Prop:=∃sv lv left,cy w p sv lv left S D
section
variable {w w':World} {p:Nat} {sv lv:Value} {left:Int} {S S':Nat->Prop} {D:DS}
theorem jY.same(h:jY w S v l)(hs:∀k,S k->w'.heap[k]?=w.heap[k]?)(hi:∀k,S k->S' k):jY w' S' v l:=by obtain⟨g,cap,rfl,h1,⟨cur,h2⟩,h3⟩:=h;refine⟨g,cap,rfl,hi g h1,⟨cur,(hs g h1).trans h2⟩,h3.1,h3.2.1,h3.2.2.1,h3.2.2.2.1,fun aG=>?_⟩;obtain⟨b,off,e,hc⟩:=h3.2.2.2.2 aG;obtain⟨rfl,rfl⟩:g=b/\0=off:=WI;exact⟨g,0,rfl,fun i hi=>(qAJ (a:=⟨g,0+i,none⟩) (hs g h1)).trans (hc i hi)⟩
theorem cy.same(h:cy w p sv lv left S D)(hz:w.heap.size<=w'.heap.size)(hs:∀k,S k->w'.heap[k]?=w.heap[k]?):cy w' p sv lv left S D:=by
 refine⟨h.ok,(hs _ h.mq).trans h.str,?_,?_,h.mq,h.ins,h.inl,fun k hk=>qAL (h.lt k hk) hz,h.lf,h.lb⟩
 ·obtain⟨cs,h1,h2⟩:=h.sec;refine⟨cs,bJ h1 (fun g hg=>hs g (h.ins g hg)),fun i hi=>?_⟩;obtain⟨v,h3,h4⟩:=h2 i hi;exact⟨v,h3,h4.same hs (fun _ h=>h)⟩
 ·obtain⟨cs,h1,h2⟩:=h.V1;refine⟨cs,bJ h1 (fun g hg=>hs g (h.inl g hg)),fun i hi=>?_⟩;obtain⟨h5,v,h3,h4⟩:=h2 i hi;exact⟨h5,v,h3,h4.same hs (fun _ h=>h)⟩
theorem cy.alloc(h:cy w p sv lv left S D) o:cy (w.alloc o) p sv lv left S D:=h.same Sk (fun k hk=>qAb w o (h.lt k hk))
theorem Ref.same(h:Ref w p S D)(hz:w.heap.size<=w'.heap.size)(hs:∀k,S k->w'.heap[k]?=w.heap[k]?):Ref w' p S D:=by obtain⟨sv,lv,left,h⟩:=h;exact⟨sv,lv,left,h.same hz hs⟩
theorem Ref.lt(h:Ref w p S D):∀k,S k->k<w.heap.size:=by obtain⟨sv,lv,left,h⟩:=h;exact h.lt
theorem Ref.below(h:Ref w p S D)(hb:zB w w'):Ref w' p S D:=h.same hb.size (fun k hk=>hb.block k (h.lt k hk))
theorem Ref.cQ{T T'}(h:Ref w p S D)(ht:au T T' w w')(hd:∀k,S k->¬T k):Ref w' p S D:=h.same ht.size (fun k hk=>ht.block k (h.lt k hk) (hd k hk))
theorem jY.ne{k:Nat}{cur}{t:TypeId}(hk:w.heap[k]?=some (.cells cur t (0,0)))(ht:t≠5)(h:jY w S v l)(dL:∀j,j≠k->w'.heap[j]?=w.heap[j]?):jY w' S v l:=by
 obtain⟨g,cap,rfl,h1,⟨cur2,h2⟩,h3⟩:=h;have aG:g≠k:=by intro e;subst e;rw[hk]at h2;simp at h2;exact ht h2.2
 refine⟨g,cap,rfl,h1,⟨cur2,(dL g aG).trans h2⟩,h3.1,h3.2.1,h3.2.2.1,h3.2.2.2.1,fun hn=>?_⟩;obtain⟨b,off,e,hc⟩:=h3.2.2.2.2 hn;obtain⟨rfl,rfl⟩:g=b/\0=off:=WI;exact⟨g,0,rfl,fun i hi=>(qAJ (a:=⟨g,0+i,none⟩) (dL g aG)).trans (hc i hi)⟩
theorem cy.nsv(h:cy w p sv lv left S D):sv.ownBlock≠some p:=by intro e;obtain⟨cs,h1,_⟩:=h.sec;obtain⟨cur,h2⟩:=br h1 e;rw[h.str]at h2;simp at h2
theorem cy.nlv(h:cy w p sv lv left S D):lv.ownBlock≠some p:=by intro e;obtain⟨cs,h1,_⟩:=h.V1;obtain⟨cur,h2⟩:=br h1 e;rw[h.str]at h2;simp at h2
theorem cy.field(h:cy w p sv lv left S D){j}{left'}{dn}{lf'}(zko:(w.setCell (zw p j) v).heap[p]?=some (.cells #[sv,lv,zi left',.bool dn] 59 (0,0)))(hl:dn=true\/left'=(if lf'<0 then -1 else lf'))(hb:-1<=left'/\left'<=9223372036854775807)(AU:-9223372036854775808<=lf'/\lf'<=9223372036854775807):cy (w.setCell (zw p j) v) p sv lv left' S { D with down:=dn,left:=lf' }:=by
 have dL:∀k,k≠p->(w.setCell (zw p j) v).heap[k]?=w.heap[k]?:=fun k hk=>qAV _ _ _ _ hk
 refine⟨⟨h.ok.len,h.ok.sec,h.ok.mem,h.ok.apart,AU⟩,zko,?_,?_,h.mq,h.ins,h.inl,fun k hk=>YW,hl,hb⟩
 ·exact zpx
 ·obtain⟨cs,h1,h2⟩:=h.V1;refine⟨cs,bJ h1 (fun g hg=>dL g (fun e=>h.nlv VV)),fun i hi=>?_⟩;obtain⟨h5,u,h3,h4⟩:=h2 i hi;exact⟨h5,u,h3,h4.ne h.str Si dL⟩
theorem cy.c0(h:cy w p sv lv left S D):w.cell? (zp p)=some sv:=zet
theorem cy.c1(h:cy w p sv lv left S D):w.cell? (zw p 1)=some lv:=zet
theorem cy.c2(h:cy w p sv lv left S D):w.cell? (zw p 2)=some (zi left):=zet
theorem cy.c3(h:cy w p sv lv left S D):w.cell? (zw p 3)=some (.bool D.down):=zet
theorem cy.fr(h:cy w p sv lv left S D) i:w.frozen? (zw p i)=false:=qAd _ _ _ _ _ h.str
theorem cy.lP(h:cy w p sv lv left S D)(ew:0<D.secs.length):∃g cap,sv=.slice (zo g) D.secs.length cap/\D.secs.length<=cap/\cap<=maxLen/\S g/\∀i,i<D.secs.length->∃v,w.cell? (zw g i)=some v/\jY w S v (D.secs.getD i []):=by
 obtain⟨cs,h1,h2⟩:=h.sec;rcases h1.2 with ⟨_,h0⟩|⟨g,cap,cur,rfl,_,hb,h3,h4,h5,h6⟩
 ·omega
 ·refine⟨g,cap,rfl,h3,h4,h.ins g rfl,fun i hi=>?_⟩;obtain⟨v,h7,h8⟩:=h2 i hi;refine⟨v,?_,h8⟩;rw[qAD _ _ _ _ _ _ hb];rw[<-h6,qAi,zy Sg]at h7;simpa using h7
theorem cy.oX(h:cy w p sv lv left S D):(lv=.slice none 0 0/\D.mem=[])\/∃g cap,lv=.slice (zo g) D.mem.length cap/\D.mem.length<=cap/\cap<=maxLen/\S g/\∀i,i<D.mem.length->w.cell? ⟨g,i*2,none⟩=some (zi ((D.mem.getD i (0,[])).1:Int))/\∃v,w.cell? ⟨g,i*2+1,none⟩=some v/\jY w S v (D.mem.getD i (0,[])).2:=by
 obtain⟨cs,h1,h2⟩:=h.V1;rcases h1.2 with ⟨h0,h9⟩|⟨g,cap,cur,rfl,_,hb,h3,h4,h5,h6⟩
 ·exact .inl ⟨h0,qAp h9⟩
 ·refine .inr ⟨g,cap,rfl,h3,h4,h.inl g rfl,fun i hi=>?_⟩;obtain⟨h7,v,h8,h9⟩:=h2 i hi;rw[<-h6,qAi,zy Sg]at h7 h8;refine⟨?_,v,?_,h9⟩
  ·rw[qAD _ _ _ _ _ _ hb,qDJ];simpa using h7
  ·rw[qAD _ _ _ _ _ _ hb,qDJ];simpa using h8
end
theorem tY a cap l w(hb:Bs w a cap l)(aG:l≠[]) :
  zC 53 #[.slice a l.length cap] w fun e w'=>∃g c,e=.returned (.slice (zo g) l.length c)/\Own w' w.heap.size g c l/\zB w w':=by
 obtain⟨i0,dU,cO,cU,cV⟩:=qAO dw;have hl:=hb.2.2.1;go_enter func53,ntmps53
 go_wp2_with (at_builtin;refine lL rfl _ _ 29 rfl i0 underlying29 dU cO cU cV a cap l rfl rfl hb aG ?_)
 exact zmu
section
variable {w:World} {p:Nat} {S:Nat->Prop} {D:DS}
theorem wP(h:cy w p sv lv left S D)(hd:D.down=false) :
  zC 54 #[zq p] w (zr (.bool (decide (D.left≠0))) fun w'=>(∃left',cy w' p sv lv left' S D.step)/\au S S w w'):=by
 have c2:=h.c2;have c3:=h.c3;have f2:=h.fr 2;have f3:=h.fr 3;rw[hd]at c3;have Ha:=h.lb;have AU:left=(if D.left<0 then -1 else D.left):=by
  rcases h.lf with h1|h1
  ·rw[hd]at h1;cases h1
  ·exact h1
 have Ln:=h.ok.left;by_cases h0:D.left=0
 ·have hs:D.step={ D with down:=true,left:=D.left }:=by unfold DS.step;rw[zy h0]
  rw[hs,qAG (fun h=>h h0)];have oz:left=0:=by rw[AU,h0];rfl
  have ug:(w.setCell (zw p 3) (.bool true)).heap[p]?=some (.cells #[sv,lv,zi left,.bool true] 59 (0,0)):=by rw[qAI _ _ _ _ _ _ h.str];simp
  have h1:=h.field (lf':=D.left) ug (.inl rfl) Ha Ln;have Jc:((w.setCell (zw p 3) (.bool true)).setCell (zw p 2) (zi (-1))).heap[p]?=some (.cells #[sv,lv,zi (-1),.bool true] 59 (0,0)):=by rw[qAI _ _ _ _ _ _ ug];simp
  have h2:=h1.field (lf':=D.left) Jc (.inl rfl) Sg Ln;have H2:=ae h2;have HI:=ae h.mq;rw[oz]at c2;clear h h1 h2 ug Jc hs AU oz h0 Ha;go_enter func54,ntmps54
  go_wp2;go_ret;exact⟨rfl,⟨_,H2⟩,(au.setCell _ _ HI).trans (au.setCell _ _ HI)⟩
 ·rw[qAE h0];by_cases h1:0<D.left
  ·have hs:D.step={ D with down:=false,left:=D.left-1 }:=by unfold DS.step;rw[zn h0,zy h1,<-hd]
   rw[hs];have oz:left=D.left:=by rw[AU,zn Sg]
   have ug:(w.setCell (zw p 2) (zi (left-1))).heap[p]?=some (.cells #[sv,lv,zi (left-1),.bool false] 59 (0,0)):=by rw[qAI _ _ _ _ _ _ h.str];simp[hd]
   have h2:=h.field (lf':=D.left-1) ug (.inr (by rw[zn Sg,oz])) Sg Sg;have H2:=ae h2;have HI:=ae h.mq;have e1:0<left:=Sg;clear h h2 ug hs AU oz h0 h1;go_enter func54,ntmps54
   go_wp2;go_ret;exact⟨rfl,⟨_,H2⟩,au.setCell _ _ HI⟩
  ·have hs:D.step=D:=by unfold DS.step;rw[zn h0,zn h1]
   rw[hs];have oz:left=-1:=by rw[AU,zy Sg]
   rw[oz]at c2;have H2:=ae h;go_enter func54,ntmps54
   go_wp2;go_ret;exact⟨rfl,⟨_,H2⟩,au.refl _ _⟩
theorem Yc n(hn:-9223372036854775808<=n/\n<=9223372036854775807)(h:Ref w p S D) :
  zC 33 #[zq p,zi n] w (zr (.tuple #[]) fun w'=>Ref w' p S { D with left:=n }/\au S S w w'):=by
 obtain⟨sv,lv,left,h⟩:=h;have c2:=h.c2;have f2:=h.fr 2;by_cases h0:n<0
 ·have ug:(w.setCell (zw p 2) (zi (-1))).heap[p]?=some (.cells #[sv,lv,zi (-1),.bool D.down] 59 (0,0)):=by rw[qAI _ _ _ _ _ _ h.str];simp
  have h2:=h.field (lf':=n) ug (.inr (by rw[zy h0])) Sg hn;exact L0
 ·have ug:(w.setCell (zw p 2) (zi n)).heap[p]?=some (.cells #[sv,lv,zi n,.bool D.down] 59 (0,0)):=by rw[qAI _ _ _ _ _ _ h.str];simp
  have h2:=h.field (lf':=n) ug (.inr (by rw[zn h0])) Sg hn;exact L0
theorem Bj i(h:Ref w p S D)(hi:i<D.secs.length)(hd:D.down=false) :
  zC 65 #[zq p,zi i] w fun e w'=>(∃v,e=zt #[v,zi 0]/\jY w S v (D.rd i))/\w=w':=by
 obtain⟨sv,lv,left,h⟩:=h;have c0:=h.c0;have c1:=h.c1;have c3:=h.c3;rw[hd]at c3;have hlen:=h.ok.len;have tM:=h.ok.ki;have Uf:=h.ok.apart;obtain⟨g,cap,rfl,Mu,um,_,hg4⟩:=h.lP Sg;obtain⟨vs,hvs,hsv⟩:=hg4 i hi;obtain⟨gv,cv,rfl,znl⟩:∃gv cv,vs=.slice (zo gv) 32 cv/\jY w S vs (D.secs.getD i []):=by obtain⟨gv,cv,e,r⟩:=hsv;exact⟨gv,cv,e,gv,cv,e,r⟩
 have HSV:=ae znl;have e4:(i:Int)<(D.secs.length:Int):=Sg;unfold maxLen at um;have Fk:=h.oX;clear h hsv znl hg4;rcases Fk with ⟨rfl,ry⟩|⟨gl,lc,rfl,jC,gS,_,Dw⟩
 ·have qx:D.rd i=D.secs.getD i []:=by unfold DS.rd;rw[ry];rfl
  have uV:=ae qx;clear qx ry;go_enter func65,ntmps65
  go_wp2_with fail
  go_loop [6] (fun v=>v=zi 0) (fun _=>0)
  case atStart=>rfl
  case round =>subst hrel;exact zoy
 ·unfold maxLen at gS;have HL4:=ae Dw;clear Dw;go_enter func65,ntmps65
  go_wp2_with fail
  go_loop [6] (fun v=>∃k:Nat,k<=D.mem.length/\v=zi k/\∀j,j<k->(D.mem.getD j (0,[])).1≠i) (fun v=>D.mem.length-(intOf v).toNat)
  case atStart=>exact YR
  case round =>
   obtain⟨k,hk,rfl,ig⟩:=hrel;have Mi:=ae ig;clear ig;by_cases aB:k<D.mem.length
   ·obtain⟨q0,vb,q1,Wc⟩:=HL4 k aB;obtain⟨gb,cb,rfl,BH⟩:∃gb cb,vb=.slice (zo gb) 32 cb/\jY w S vb (D.mem.getD k (0,[])).2:=by obtain⟨gb,cb,e,r⟩:=Wc;exact⟨gb,cb,e,gb,cb,e,r⟩
    have Ct:=xf Uf aB;obtain⟨ky,bd,uk⟩:∃ky bd,D.mem.getD k (0,[])=(ky,bd):=⟨_,_,rfl⟩;simp only[uk]at q0 BH Ct;have f0:(0:Int)<=(k:Int):=Sg;have f1:(k:Int)<(D.mem.length:Int):=Sg;by_cases hky:ky=i
    ·subst hky;have qx:D.rd ky=bd:=by unfold DS.rd;rw[Ct];rfl
     have HVB:=ae BH;have uV:=ae qx;clear BH Wc Ct qx uk;go_wp2;go_ret2;exact⟨⟨_,rfl,by rw[aa uV];exact HVB⟩,rfl⟩
    ·have zr8:¬(ky:Int)=(i:Int):=by omega
     have HKB:=ae uk;have HKY:=ae hky;clear BH Wc Ct uk hky;go_wp2
     go_round
     case rel=>exact⟨k+1,Sg,Tc,fun j hj=>by
      by_cases e:j=k
      ·rw[e,aa HKB];exact HKY
      ·exact Mi j Sg⟩
     case measure=>exact Te
   ·obtain rfl:k=D.mem.length:=by omega
    have qx:D.rd i=D.secs.getD i []:=by unfold DS.rd;rw[fJ.2 (fun hm=>by obtain⟨q,hq,qT⟩:=qAT.1 hm;obtain⟨j,hj,Hd⟩:=qAm hq;have:=Mi j hj;simp[List.getD,hj,Hd]at this;exact this qT)];rfl
    have uV:=ae qx;clear qx;exact zoy
end
section
variable {w:World} {p:Nat} {S:Nat->Prop} {D:DS}
theorem cy.Sp(h:cy w p (.slice (zo g) n cap) lv left S D) i(hi:i<D.secs.length)(hv:jY w S v l)(hl:kC l) :
  cy (w.setCell (zw g i) v) p (.slice (zo g) n cap) lv left S { D with secs:=D.secs.set i l }/\au S S w (w.setCell (zw g i) v):=by
 obtain⟨cs,h1,h2⟩:=h.sec;obtain rfl:n=D.secs.length:=by exact OQ
 have hgS:=h.ins g rfl;obtain⟨cur,Fm⟩:=br h1 (g:=g) rfl;have hgp:g≠p:=fun e=>h.nsv zcp
 have dL:∀k,k≠g->(w.setCell (zw g i) v).heap[k]?=w.heap[k]?:=fun k hk=>qAV _ _ _ _ hk
 have hlg:lv.ownBlock≠some g:=by intro e;obtain⟨cs2,h3,_⟩:=h.V1;obtain⟨cur2,h4⟩:=br h3 e;rw[Fm]at h4;simp at h4
 refine⟨⟨⟨by show(D.secs.set i l).length<=300;rw[qAz];exact h.ok.len,fun s hs=>?_,fun q hq=>by show q.1<(D.secs.set i l).length/\_;rw[qAz];exact h.ok.mem q hq,h.ok.apart,h.ok.left⟩,(dL p hgp.symm).trans h.str,?_,?_,h.mq,h.ins,h.inl,fun k hk=>YW,h.lf,h.lb⟩,au.setCell _ _ hgS⟩
 ·rcases tF hs with h3|h3
  ·exact h.ok.sec s h3
  ·rw[h3];exact hl
 ·show ∃cs,(w.setCell (zw g i) v).ownsRow 0 29 1 (.slice (zo g) D.secs.length cap) (D.secs.set i l).length cs/\zl (w.setCell (zw g i) v) S cs (D.secs.set i l)
  rw[qAz];refine⟨cs.set i v,(World.ownsRow.stored h1 i v).1,fun j hj=>?_⟩;rw[qAz]at hj;have kS:cs.length=D.secs.length:=by have:=h1.1;omega
  by_cases e:j=i
  ·subst e;refine⟨v,by rw[qBy Sg],?_⟩;rw[rz _ _ _ hi];exact hv.ne Fm Si dL
  ·obtain⟨u,h5,h6⟩:=h2 j hj;refine⟨u,by rw[qBK (fun e2=>e e2.symm)];exact h5,?_⟩;rw[getD_set_ne _ _ (fun e2=>e e2.symm)];exact h6.ne Fm Si dL
 ·obtain⟨cs2,h3,h4⟩:=h.V1;refine⟨cs2,bJ h3 (fun k hk=>dL k (fun e=>hlg zas)),fun j hj=>?_⟩;obtain⟨h5,u,h6,h7⟩:=h4 j hj;exact⟨h5,u,h6,h7.ne Fm Si dL⟩
theorem cy.forget(h:cy w p sv lv left S D):cy (w.setCell (zw p 1) (.slice none 0 0)) p sv (.slice none 0 0) left S { D with mem:=[]}:=by
 have dL:∀k,k≠p->(w.setCell (zw p 1) (.slice none 0 0)).heap[k]?=w.heap[k]?:=fun k hk=>qAV _ _ _ _ hk
 refine⟨⟨h.ok.len,h.ok.sec,fun q hq=>(by cases hq),List.nodup_nil,h.ok.left⟩,by rw[qAI _ _ _ _ _ _ h.str];simp,?_,⟨[],qBp _ _ _ _,fun i hi=>absurd hi (qAX i)⟩,h.mq,h.ins,fun g hg=>Zl,fun k hk=>YW,h.lf,h.lb⟩;exact zpx
theorem Yb(h:cy w p sv lv left S D)(ew:0<D.secs.length)(h1:D.down=false)(h2:¬D.left=0) :
  zC 18 #[zq p] w (zr (zi 0) fun w'=>Ref w' p S D.step.flush/\au S S w w'):=by
 have c3:=h.c3;rw[h1]at c3;have eF:=wP h h1;rw[qAE h2]at eF;have HS:=ae eF;have lE:D.step.secs.length=D.secs.length:=by unfold DS.step;split;rfl;split;rfl;rfl
 have zit:0<D.step.secs.length:=Sg;clear h eF lE;go_enter func18,ntmps18
 go_wp2_with fail
 refine HS.m ?_;rintro w1 ⟨⟨left',h'⟩,ht⟩;clear HS c3 h1 h2 ew;have c1:=h'.c1;have tM:=h'.ok.ki;have hlen:=h'.ok.len;have H:=ae h';have HT:=ae ht;obtain⟨gs,cap,rfl,ma,Rr,hgS,_⟩:=h'.lP zit;have Fk:=h'.oX;unfold maxLen at Rr;clear h' ht;rcases Fk with ⟨rfl,ry⟩|⟨gl,lc,rfl,jC,gS,zhi,_⟩
 ·have lF:D.step.flush={ D.step with mem:=[]}:=by unfold DS.flush;rw[ry];rfl
  have Hy:=ae lF;have H2:=ae H.forget;have f1:=H.fr 1;have HI:=ae H.mq;clear lF ry;go_wp2_with fail
  go_loop [4] (fun v=>v=zi 0) (fun _=>0)
  case atStart=>rfl
  case round =>subst hrel;go_wp2;go_ret;exact⟨rfl,⟨_,_,_,by rw[aa Hy];exact H2⟩,HT.trans (au.setCell _ _ HI)⟩
 ·unfold maxLen at gS;have Lq:gs≠p:=fun e=>H.nsv zcp
  have zhf:gl≠p:=fun e=>H.nlv zcp
  have znK:gs≠gl:=by intro e;obtain⟨cs,q1,_⟩:=H.sec;obtain⟨cs2,q2,_⟩:=H.V1;obtain⟨cur,q3⟩:=br q1 (g:=gs) rfl;obtain⟨cur2,q4⟩:=br q2 (g:=gl) rfl;rw[e,q4]at q3;simp at q3
  go_wp2_with fail
  go_loopw [4] (fun v wr=>∃k:Nat,k<=D.step.mem.length/\v=zi k/\cy wr p (.slice (zo gs) D.step.secs.length cap) (.slice (zo gl) D.step.mem.length lc) left' S { D.step with secs:=flushK D.step.secs D.step.mem k }/\au S S w wr) (fun v _=>D.step.mem.length-(intOf v).toNat)
  case atStart=>exact⟨0,qAH _,rfl,H,HT⟩
  case round =>
   obtain⟨k,hk,rfl,hd,o4⟩:=hrel;clear H HT c1;have d1:=hd.c1;by_cases aB:k<D.step.mem.length
   ·obtain⟨ky,bd,uk⟩:∃ky bd,D.step.mem.getD k (0,[])=(ky,bd):=⟨_,_,rfl⟩;have d0:=hd.c0;have sh:D.step.mem.getD k (0,[])∈D.step.mem:=jN aB;have dL:flushK D.step.secs D.step.mem (k+1)=(flushK D.step.secs D.step.mem k).set (D.step.mem.getD k (0,[])).1 (D.step.mem.getD k (0,[])).2:=rfl;have hq:=hd.ok.mem _ sh;obtain⟨q0,vb,q1,Wc⟩:wr.cell? ⟨gl,k*2,none⟩=some (zi ((D.step.mem.getD k (0,[])).1:Int))/\∃v,wr.cell? ⟨gl,k*2+1,none⟩=some v/\jY wr S v (D.step.mem.getD k (0,[])).2:=by exact ML
    simp only[uk]at q0 Wc dL hq;have tP:ky<D.step.secs.length:=by have:=hq.1;rwa[jg]at this
    obtain⟨v0,hv0⟩:∃v,wr.cell? ⟨gs,ky,none⟩=some v:=by obtain⟨g',c',e,_,_,_,hh⟩:=hd.lP (by show 0<(flushK D.step.secs D.step.mem k).length;rw[jg];exact zit);simp only[qAS,qAQ,qBI,qBj]at e;obtain⟨v,hv,_⟩:=hh ky hq.1;rw[e.1];exact⟨v,hv⟩
    obtain⟨gb,cb,rfl,BH⟩:∃gb cb,vb=.slice (zo gb) 32 cb/\jY wr S vb bd:=zpM;have oI:wr.frozen? ⟨gs,ky,none⟩=false:=by obtain⟨cs,q5,_⟩:=hd.sec;obtain⟨cur,q6⟩:=br q5 (g:=gs) rfl;exact qAd _ _ _ _ _ q6
    have hd':cy wr.drew p (.slice (zo gs) D.step.secs.length cap) (.slice (zo gl) D.step.mem.length lc) left' S { D.step with secs:=flushK D.step.secs D.step.mem k }:=hd.same zNr (fun _ _=>rfl);have sg:=hd'.Sp ky hq.1 (v:=.slice (zo gb) 32 cb) (l:=bd) BH hq.2;have HR:=ae sg;have HS:=ae dL;have Ht:=ae o4;have f0:(0:Int)<=(k:Int):=Sg;have f1:(k:Int)<(D.step.mem.length:Int):=Sg;go_wp2_with fail
    go_region_held3 (fun w'=>w'.cell? (zp p)=some (.slice (zo gs) D.step.secs.length cap)/\w'.cell? (zw p 1)=some (.slice (zo gl) D.step.mem.length lc)/\w'.cell? ⟨gl,k*2,none⟩=some (zi (ky:Int))/\w'.cell? ⟨gl,k*2+1,none⟩=some (.slice (zo gb) 32 cb)) (first | go_keep | (go_split_ands;refine⟨?_,?_,?_,?_⟩ <;> first | go_keep | (simp[Lq,zhf,znK,Ne.symm Lq,Ne.symm zhf,Ne.symm znK];assumption))) (fail)
    go_wp2;go_roundw
    case rel=>exact⟨k+1,Sg,Tc,by rw[aa HS];exact HR.1,Ht.trans ((au.drew S _).trans HR.2)⟩
    case measure=>exact Te
   ·obtain rfl:k=D.step.mem.length:=by omega
    have H2:=ae hd.forget;have f1:=hd.fr 1;have HI:=ae hd.mq;have Ht:=ae o4;go_wp2;go_ret;exact⟨rfl,⟨_,_,_,H2⟩,Ht.trans (au.setCell _ _ HI)⟩
theorem pY(h:Ref w p S D)(ew:0<D.secs.length) :
  zC 18 #[zq p] w (zr (zi D.cG) fun w'=>Ref w' p S D.ba/\au S S w w'):=by
 obtain⟨sv,lv,left,h⟩:=h;unfold DS.cG DS.ba;by_cases h1:D.down=true
 ·rw[zy h1,zy h1];have c3:=h.c3;rw[h1]at c3;have H:=ae h;go_enter func18,ntmps18
  go_wp2;go_ret;exact⟨rfl,⟨sv,lv,left,H⟩,au.refl _ _⟩
 ·rw[zn h1,zn h1];have vS:D.down=false:=by simpa using h1
  by_cases h2:D.left=0
  ·rw[zy h2,zy h2];have c3:=h.c3;rw[vS]at c3;have eF:=wP h vS;rw[qAG (fun h=>h h2)]at eF;have he:D.step={ D with down:=true }:=by unfold DS.step;rw[zy h2]
   rw[he]at eF;have HS:=ae eF;go_enter func18,ntmps18
   go_wp2_with fail
   refine HS.m ?_;rintro w1 ⟨⟨left',h'⟩,ht⟩;go_wp2;go_ret;exact⟨rfl,⟨sv,lv,left',h'⟩,ht⟩
  ·rw[zn h2,zn h2];exact Yb h ew vS h2
end
theorem Tv(hn:(m.map (·.1)).Nodup){q}(hq:q<m.length) l:memPut m (m.getD q (0,[])).1 l=m.set q ((m.getD q (0,[])).1,l):=by
 induction m generalizing q with
 | nil=>simp at hq
 | cons x r ih =>
  obtain⟨j,c⟩:=x;simp only[qAn,qCQ]at hn;cases q with
  | zero=>simp[memPut]
  | succ q =>
   have Zt:q<r.length:=by simpa using hq
   have e2:((j,c)::r).getD (q+1) (0,[])=r.getD q (0,[]):=UU;have hm:=Du Zt;have aG:¬j=(r.getD q (0,[])).1:=fun e=>hn.1 (e▸hm)
   rw[e2];unfold memPut;rw[zn aG,ih hn.2 Zt,qAu]
theorem au.grow{S}(hb:zB w w1)(hg:w.heap.size<=g):au S (fun k=>S k\/k=g) w w1 :=
 ⟨hb.os,hb.tape,hb.output,hb.size,fun k hk _=>hb.block k hk,fun k hk hs=>by
  rcases hs with h|h
  ·exact h
  ·omega⟩
theorem nF(h:Below w.drew.heap.size w.drew w1):zB w w1:=⟨h.os,h.tape,h.output,h.size,h.block⟩
section
variable {w w':World} {p:Nat} {S S':Nat->Prop} {D:DS}
theorem jY.wide(h:jY w S v l)(hi:∀k,S k->S' k):jY w S' v l:=h.same (fun _ _=>rfl) hi
theorem Ej{base:Nat}(h:Own w base g c l)(hs:kC l)(hg:S g):jY w S (.slice (zo g) 32 c) l:=by refine⟨g,c,rfl,hg,?_,h.bs hs.2 (by rw[hs.1];decide)⟩;exact br h (g:=g) rfl
theorem cy.wide(h:cy w p sv lv left S D)(hi:∀k,S k->S' k)(aB:∀k,S' k->k<w.heap.size):cy w p sv lv left S' D:=by
 refine⟨h.ok,h.str,?_,?_,hi _ h.mq,fun g hg=>hi g (h.ins g hg),fun g hg=>hi g (h.inl g hg),aB,h.lf,h.lb⟩
 ·obtain⟨cs,h1,h2⟩:=h.sec;refine⟨cs,h1,fun i hi2=>?_⟩;obtain⟨u,h3,h4⟩:=h2 i hi2;exact⟨u,h3,h4.wide hi⟩
 ·obtain⟨cs,h1,h2⟩:=h.V1;refine⟨cs,h1,fun i hi2=>?_⟩;obtain⟨h5,u,h3,h4⟩:=h2 i hi2;exact⟨h5,u,h3,h4.wide hi⟩
theorem cy.zf2(h:cy w p sv (.slice (zo g) n cap) left S D) q(hq:q<D.mem.length)(hv:jY w S v l)(hl:kC l) :
  cy (w.setCell ⟨g,q*2+1,none⟩ v) p sv (.slice (zo g) n cap) left S (D.put (D.mem.getD q (0,[])).1 l)/\au S S w (w.setCell ⟨g,q*2+1,none⟩ v):=by
 obtain⟨cs,h1,h2⟩:=h.V1;obtain rfl:n=D.mem.length:=by exact OQ
 have hgS:=h.inl g rfl;obtain⟨cur,Fm⟩:=br h1 (g:=g) rfl;have hgp:g≠p:=fun e=>h.nlv zcp
 have dL:∀k,k≠g->(w.setCell ⟨g,q*2+1,none⟩ v).heap[k]?=w.heap[k]?:=fun k hk=>qAV _ _ _ _ hk
 have hsg:sv.ownBlock≠some g:=by intro e;obtain⟨cs2,h3,_⟩:=h.sec;obtain⟨cur2,h4⟩:=br h3 e;rw[Fm]at h4;simp at h4
 have Ff:(D.put (D.mem.getD q (0,[])).1 l).mem=D.mem.set q ((D.mem.getD q (0,[])).1,l):=Tv h.ok.apart hq l;refine⟨⟨h.ok.put (h.ok.mem _ (jN hq)).1 hl,(dL p hgp.symm).trans h.str,?_,?_,h.mq,h.ins,h.inl,fun k hk=>YW,h.lf,h.lb⟩,au.setCell _ _ hgS⟩
 ·obtain⟨cs2,h3,h4⟩:=h.sec;refine⟨cs2,bJ h3 (fun k hk=>dL k (fun e=>hsg zas)),fun j hj=>?_⟩;obtain⟨u,h6,h7⟩:=h4 j hj;exact⟨u,h6,h7.ne Fm Si dL⟩
 ·rw[Ff,qAz];refine⟨cs.set (q*2+1) v,(World.ownsRow.stored h1 (q*2+1) v).1,fun j hj=>?_⟩;rw[qAz]at hj;have kS:cs.length=D.mem.length*2:=h1.1;obtain⟨h5,u,h6,h7⟩:=h2 j hj;by_cases e:j=q
  ·subst e;have e1:(D.mem.set j ((D.mem.getD j (0,[])).1,l)).getD j (0,[])=((D.mem.getD j (0,[])).1,l):=by simp[List.getD,hq]
   rw[e1];exact⟨by rw[qBK Sg];exact h5,v,by rw[qDJ,qBy Sg],hv.ne Fm Si dL⟩
  ·have e1:(D.mem.set q ((D.mem.getD q (0,[])).1,l)).getD j (0,[])=D.mem.getD j (0,[]):=by simp[List.getD,qBK (fun e2=>e e2.symm)]
   rw[e1];exact⟨by rw[qBK Sg];exact h5,u,by rw[qBK Sg];exact h6,h7.ne Fm Si dL⟩
end
section
variable {w:World} {p:Nat} {S:Nat->Prop} {D:DS}
theorem Y6 l(hi:i∈m.map (·.1)) k:((memPut m i l).getD k (0,[])).1=(m.getD k (0,[])).1:=by
 have h:(memPut m i l).map (·.1)=m.map (·.1):=by rw[nT,zy hi]
 have h2:((memPut m i l).map (·.1))[k]?=(m.map (·.1))[k]?:=by rw[h]
 rw[qBN,qBN]at h2;simp only[List.getD];cases e1:(memPut m i l)[k]? with
 | none=>cases e2:m[k]? with
  | none=>rfl
  | some _=>rw[e1,e2]at h2;simp at h2
 | some x=>cases e2:m[k]? with
  | none=>rw[e1,e2]at h2;simp at h2
  | some y=>rw[e1,e2]at h2;simpa using h2
theorem E0 l(hi:i∈m.map (·.1)):(memPut m i l).length=m.length:=by
 have h:(memPut m i l).map (·.1)=m.map (·.1):=by rw[nT,zy hi]
 rw[<-length_keys,h,length_keys]
theorem Sw i a cap l(h:cy w p sv lv left S D)(hi:i<D.secs.length)(hd:D.down=false)(hb:Bs w a cap l)(hl:l.length=32) q(hq:q<D.mem.length)(hqi:(D.mem.getD q (0,[])).1=i) :
  zC 17 #[zq p,zi i,.slice a 32 cap] w (zr (zi (if D.left=0 then 9 else 0)) fun w'=>(∃S',Ref w' p S' (D.put i l).step/\au S S' w w')):=by
 have lE:kC l:=⟨hl,hb.1⟩;have c0:=h.c0;have c1:=h.c1;have c3:=h.c3;rw[hd]at c3;have hlen:=h.ok.len;have tM:=h.ok.ki;have him:i∈D.mem.map (·.1):=by rw[<-hqi];exact Du hq
 obtain⟨gs,scap,rfl,fQ,gN,_,_⟩:=h.lP Sg;unfold maxLen at gN;obtain⟨gl,lc,rfl,jC,gS,zhi,Dw⟩:∃gl lc,lv=.slice (zo gl) D.mem.length lc/\D.mem.length<=lc/\lc<=maxLen/\S gl/\∀i,i<D.mem.length->w.cell? ⟨gl,i*2,none⟩=some (zi ((D.mem.getD i (0,[])).1:Int))/\∃v,w.cell? ⟨gl,i*2+1,none⟩=some v/\jY w S v (D.mem.getD i (0,[])).2:=by
  rcases h.oX with ⟨_,e⟩|r
  ·rw[e]at hq;simp at hq
  ·exact r
 unfold maxLen at gS;have e1:¬(i:Int)<0:=Sg;have e2:¬(D.secs.length:Int)<=(i:Int):=Sg;have G9:=h.lt p h.mq;have hlg:=h.lt gl zhi;have gL:∀g c w1,Own w1 w.heap.size g c l->zB w w1->cy (w1.setCell ⟨gl,q*2+1,none⟩ (.slice (zo g) 32 c)) p (.slice (zo gs) D.secs.length scap) (.slice (zo gl) D.mem.length lc) left (fun k=>S k\/k=g) (D.put i l)/\au S (fun k=>S k\/k=g) w (w1.setCell ⟨gl,q*2+1,none⟩ (.slice (zo g) 32 c)):=by
  intro g c w1 ho ai;have hgw:w.heap.size<=g:=ho.base;have BK:g<w1.heap.size:=(ho.lt g rfl).2;have h1:cy w1 p _ _ left S D:=h.same ai.size (fun k hk=>ai.block k (h.lt k hk));have h2:=h1.wide (S':=fun k=>S k\/k=g) (fun k hk=>.inl hk) (fun k hk=>by
   rcases hk with hk|hk
   ·exact h1.lt k hk
   ·omega)
  have h3:=h2.zf2 q hq (Ej ho lE (.inr rfl)) lE;rw[hqi]at h3;exact⟨h3.1,(au.grow ai hgw).trans h3.2⟩
 have yJ:=tY a cap l w.drew hb (by intro e;rw[e]at hl;cases hl);rw[hl]at yJ;have oI:w.frozen? ⟨gl,q*2+1,none⟩=false:=by obtain⟨cs,q5,_⟩:=h.V1;obtain⟨cur,q6⟩:=br q5 (g:=gl) rfl;exact qAd _ _ _ _ _ q6
 obtain⟨_,vq,hvq,_⟩:=Dw q hq;have ziG:∀k,k<D.mem.length->k≠q->(D.mem.getD k (0,[])).1≠i:=fun k hk aG e=>aG (key_inj h.ok.apart hk hq (by rw[e,hqi]))
 obtain⟨E,hE⟩:∃E:Int,(if D.left=0 then (9:Int)else 0)=E:=⟨_,rfl⟩;have eF:∀w1 S1 left1,cy w1 p (.slice (zo gs) D.secs.length scap) (.slice (zo gl) D.mem.length lc) left1 S1 (D.put i l)->zC 54 #[zq p] w1 (zr (.bool (decide (D.left≠0))) fun w'=>(∃left',cy w' p (.slice (zo gs) D.secs.length scap) (.slice (zo gl) D.mem.length lc) left' S1 (D.put i l).step)/\au S1 S1 w1 w' ):=fun w1 S1 left1 h1=>wP h1 hd
 have fP:=ae eF;have zoQ:=ae gL;have HCP:=ae yJ;have HL4:=ae Dw;have HKO:=ae ziG;have HIM:=ae him;have HE:=ae hE;rw[hE];clear h eF gL yJ Dw ziG him hE;go_enter func17,ntmps17
 go_wp2_with fail
 go_loopw [7,8] (fun f jv wr=>∃k:Nat,k<=D.mem.length/\jv=zi k/\((k<=q/\f=.bool false/\wr=w)\/(q<k/\f=.bool true/\∃S',cy wr p (.slice (zo gs) D.secs.length scap) (.slice (zo gl) D.mem.length lc) left S' (D.put i l)/\au S S' w wr))) (fun _ jv _=>D.mem.length-(intOf jv).toNat)
 case atStart=>exact⟨0,Sg,rfl,.inl ⟨Sg,rfl,rfl⟩⟩
 case round =>
  obtain⟨k,hk,rfl,hor⟩:=hrel;have f0:(0:Int)<=(k:Int):=Sg;rcases hor with ⟨Rn,rfl,rfl⟩|⟨Rn,rfl,S1,Lm,mS⟩
  ·have aB:k<D.mem.length:=by omega
   have f1:(k:Int)<(D.mem.length:Int):=Sg;obtain⟨q0,vb,q1,_⟩:=HL4 k aB;by_cases e:k=q
   ·subst e;rw[hqi]at q0;have HQI:=ae hqi;go_wp2_with fail
    go_region_with (go_at_call 53;refine HCP.mono ?_;rintro e w1 ⟨g,c,rfl,az,ai⟩;have r1:=(ai.cell (p:=⟨p,1,none⟩) G9).trans c1;have r2:=(ai.cell (p:=⟨gl,k*2+1,none⟩) hlg).trans hvq;have r3:=(ai.frozen (p:=⟨gl,k*2+1,none⟩) hlg).trans oI)
    all_goals
     go_wp2;go_roundw
     case rel=>exact⟨k+1,Sg,Tc,.inr ⟨Sg,rfl,_,(zoQ g c w1 az (nF ai)).1,(zoQ g c w1 az (nF ai)).2⟩⟩
     case measure=>exact Te
   ·have aG:=HKO k aB e;obtain⟨ky,bd,uk⟩:∃ky bd,D.mem.getD k (0,[])=(ky,bd):=⟨_,_,rfl⟩;simp only[uk]at q0 aG;have T0:¬(ky:Int)=(i:Int):=by omega
    go_wp2;go_roundw
    case rel=>exact⟨k+1,Sg,Tc,.inl ⟨Sg,Sk⟩⟩
    case measure=>exact Te
  ·have d1:=Lm.c1;by_cases aB:k<D.mem.length
   ·have f1:(k:Int)<(D.mem.length:Int):=by omega
    have aG:=HKO k aB Sg;have zqf:=E0 l HIM;obtain⟨q0,_⟩:wr.cell? ⟨gl,k*2,none⟩=some (zi (((D.put i l).mem.getD k (0,[])).1:Int))/\True:=by
     rcases Lm.oX with ⟨e,_⟩|⟨g',c',e,_,_,_,hh⟩
     ·cases e
     ·simp only[qAS,qAQ,qBI,qBj]at e;rw[e.1];exact⟨(hh k Sg).1,trivial⟩
    rw[show((D.put i l).mem.getD k (0,[])).1=(D.mem.getD k (0,[])).1 from Y6 l HIM k]at q0;obtain⟨ky,bd,uk⟩:∃ky bd,D.mem.getD k (0,[])=(ky,bd):=⟨_,_,rfl⟩;simp only[uk]at q0 aG;have QR:=ae Lm;have Hv:=ae mS;go_wp2;go_roundw
    case rel=>exact⟨k+1,Sg,Tc,.inr ⟨Sg,Sk,S1,QR,Hv⟩⟩
    case measure=>exact Te
   ·obtain rfl:k=D.mem.length:=by omega
    have sN:=ae (fP wr S1 left Lm);have Hv:=ae mS;go_wp2_with fail
    refine sN.m ?_;rintro w2 ⟨⟨left2,h2⟩,gw⟩;by_cases h0:D.left=0
    ·rw[qAG (fun h=>h h0)];have hE9:E=9:=by rw[<-aa HE,zy h0]
     exact zpC
    ·rw[qAE h0];have hE9:E=0:=by rw[<-aa HE,zn h0]
     exact zpC
end
theorem Zf:(prog.info? 118).map (fun i=>(i.zero,i.size,i.bytes))=some (some (.agg #[zi 0,.slice none 0 0]),2,32):=SQ
theorem IT(w:World)(t:TypeId) x y:∀j u,([x,y]:List Value)[j]?=some u->(w.alloc (.cells #[x,y] t)).cell? (Addr.add (zp w.heap.size) j)=some u:=by
 intro j u hj;rw[addr_add,qAl,qAD _ _ _ _ _ (0,0) (qAB w _)]
 match j,hj with
 | 0,hj=>simpa using hj
 | 1,hj=>simpa using hj
 | j+2,hj=>simp at hj
theorem Oo x a n c:∀u∈([zi x,.slice a n c]:List Value),u.oneCell'=true:=by intro u hu;simp at hu;rcases hu with rfl|rfl <;> rfl
theorem Tw(hn:i ∉ m.map (·.1)) l:memPut m i l=m++[(i,l)]:=by
 induction m with
 | nil=>rfl
 | cons x r ih =>obtain⟨j,b⟩:=x;simp only[qAn,List.mem_cons,not_or]at hn;unfold memPut;rw[zn (fun e=>hn.1 e.symm),ih hn.2];rfl
section
variable {w:World} {p:Nat} {S:Nat->Prop} {D:DS}
theorem cy.addLine(h:cy w p sv lv left S D)(hi:i<D.secs.length)(ig:D.mem.lookup i=none)(lE:kC l)(ho:Own w1 w.heap.size g c l)(hb:zB w w1) cs(zqh:EY w S cs D.mem)(kS:cs.length=D.mem.length*2)(az:w2.ownsRow 0 118 2 v (D.mem.length+1) (cs++[zi (i:Int),.slice (zo g) 32 c]))(fE:(w1.alloc o).grownBy w2 lv.ownBlock)(rI:v.ownBlock=lv.ownBlock\/v.ownBlock=some (w1.heap.size+1)) :
  cy (w2.setCell (zw p 1) v) p sv v left (fun k=>S k\/k=g\/v.ownBlock=some k) (D.put i l)/\au S (fun k=>S k\/k=g\/v.ownBlock=some k) w (w2.setCell (zw p 1) v):=by
 have hgw:=ho.base;have BK:=(ho.lt g rfl).2;have cV:=fE.size;simp only[size_alloc]at cV;have hblk:∀k,S k->lv.ownBlock≠some k->w2.heap[k]?=w.heap[k]?:=fun k hk aG =>(fE.block k zpF (fun e=>aG e.symm)).trans ((qAb _ _ zmB).trans (hb.block k (h.lt k hk)))
 have um:w2.heap[g]?=w1.heap[g]?:=by refine(fE.block g Tb (fun e=>?_)).trans (qAb _ _ BK);have:=h.lt g (h.inl g e.symm);omega
 have Jc:w2.heap[p]?=_:=(hblk p h.mq h.nlv).trans h.str;have dL:∀k,k≠p->(w2.setCell (zw p 1) v).heap[k]?=w2.heap[k]?:=fun k hk=>qAV _ _ _ _ hk
 have hvp:v.ownBlock≠some p:=by
  intro e;rcases rI with h1|h1
  ·exact h.nlv zeT
  ·exact zpy
 have Ha:∀u b,jY w S u b->jY (w2.setCell (zw p 1) v) (fun k=>S k\/k=g\/v.ownBlock=some k) u b:=by
  intro u b hu;obtain⟨g1,c1,rfl,k1,⟨cur,k2⟩,k3⟩:=hu;have Gx:lv.ownBlock≠some g1:=by intro e;obtain⟨cs2,q1,_⟩:=h.V1;obtain⟨cur2,q2⟩:=br q1 e;rw[k2]at q2;simp at q2
  have xj:g1≠p:=zm4;have e1:(w2.setCell (zw p 1) v).heap[g1]?=w.heap[g1]?:=(dL g1 xj).trans (hblk g1 k1 Gx);exact vE
 have eX:jY (w2.setCell (zw p 1) v) (fun k=>S k\/k=g\/v.ownBlock=some k) (.slice (zo g) 32 c) l:=by have hgp:g≠p:=zev;have hv1:jY w1 (fun k=>k=g) (.slice (zo g) 32 c) l:=Ej ho lE rfl;exact zpi
 have hk:(memPut D.mem i l)=D.mem++[(i,l)]:=Tw (fJ.1 ig) l;refine⟨⟨h.ok.put hi lE,by rw[qAI _ _ _ _ _ _ Jc];simp;rfl,?_,?_,.inl h.mq,fun k hk=>.inl (h.ins k hk),fun k hk=>.inr (.inr hk),?_,h.lf,h.lb⟩,?_⟩
 ·obtain⟨cs2,q1,q2⟩:=h.sec;refine⟨cs2,bJ q1 (fun k hk=>(dL k (fun e=>h.nsv zas)).trans (hblk k (h.ins k hk) (fun e=>?_))),fun j hj=>?_⟩
  ·obtain⟨cs3,q3,_⟩:=h.V1;exact zmZ
  ·obtain⟨u,q3,q4⟩:=q2 j hj;exact⟨u,q3,Ha u _ q4⟩
 ·show ∃cs,(w2.setCell (zw p 1) v).ownsRow 0 118 2 v (memPut D.mem i l).length cs/\EY _ _ cs (memPut D.mem i l)
  rw[hk,zLa];refine⟨_,bJ az (fun k fR=>dL k (fun e=>hvp (by rw[fR,e]))),fun j hj=>?_⟩;simp at hj;by_cases e:j<D.mem.length
  ·obtain⟨q1,u,q2,q3⟩:=zqh j e;have e1:(D.mem++[(i,l)]).getD j (0,[])=D.mem.getD j (0,[]):=by simp[List.getD,qAZ e]
   rw[e1];exact⟨by rw[qAZ Sg];exact q1,u,by rw[qAZ Sg];exact q2,Ha u _ q3⟩
  ·obtain rfl:j=D.mem.length:=by omega
   have e1:(D.mem++[(i,l)]).getD D.mem.length (0,[])=(i,l):=UU;rw[e1];exact⟨by rw[qAR Sg];simp[kS,qDJ],.slice (zo g) 32 c,by rw[qAR Sg];simp[kS,qDJ],eX⟩
 ·intro k fR
  show k<(w2.setCell (zw p 1) v).heap.size
  have hzz:(w2.setCell (zw p 1) v).heap.size=w2.heap.size:=Sk;exact Nr
 ·refine⟨fE.os.trans hb.os,fE.tape.trans hb.tape,fE.output.trans hb.output,zer,fun k fR hn=>?_,fun k fR hs=>?_⟩
  ·have hkp:k≠p:=fun e=>hn (e▸h.mq)
   refine(dL k hkp).trans ((fE.block k zer (fun e=>hn (h.inl k e.symm))).trans ((qAb _ _ zeC).trans (hb.block k fR)))
  ·rcases hs with h1|h1|h1
   ·exact h1
   ·omega
   ·rcases rI with h2|h2
    ·exact h.inl k (by rw[<-h2];exact h1)
    ·rw[h2]at h1;have:=zOi h1;exact zeC
theorem Sy i a cap l(h:cy w p sv lv left S D)(hi:i<D.secs.length)(hd:D.down=false)(hb:Bs w a cap l)(hl:l.length=32)(ig:D.mem.lookup i=none) :
  zC 17 #[zq p,zi i,.slice a 32 cap] w fun e w'=>e=.returned (zi (if D.left=0 then 9 else 0))/\(∃S',Ref w' p S' (D.put i l).step/\au S S' w w'):=by
 have lE:kC l:=⟨hl,hb.1⟩;have c0:=h.c0;have c1:=h.c1;have c3:=h.c3;rw[hd]at c3;have hlen:=h.ok.len;have tM:=h.ok.ki;have hkn:=fJ.1 ig;obtain⟨gs,scap,rfl,fQ,gN,_,_⟩:=h.lP Sg;unfold maxLen at gN;have e1:¬(i:Int)<0:=Sg
 have e2:¬(D.secs.length:Int)<=(i:Int):=Sg
 have G9:=h.lt p h.mq;have Fl:=h.fr 1;obtain⟨i0,dU,cO,cU,cV⟩:=qAO Zf;obtain⟨cs,PC,zdG⟩:=h.V1;have kS:cs.length=D.mem.length*2:=PC.1;have zhe:=h.nlv;have ziv:∀w1 o,Below w.drew.heap.size w.drew w1->(w1.alloc o).ownsRow 0 118 2 lv D.mem.length cs:=fun w1 o ai =>(bJ PC (fun g hg=>ai.block g (h.lt g (h.inl g hg)))).alloc o
 have kP:∀g c w1 g2 c2 w2 o,Own w1 w.heap.size g c l->Below w.drew.heap.size w.drew w1->w2.ownsRow 0 118 2 (.slice (some (zp g2)) (D.mem.length+1) c2) (D.mem.length+1) (cs++[zi (i:Int),.slice (some (zp g)) 32 c])->(w1.alloc o).grownBy w2 lv.ownBlock->(lv.ownBlock=some g2\/g2=w1.heap.size+1) ->
   ∃S',cy (w2.setCell ⟨p,1,none⟩ (.slice (some (zp g2)) (D.mem.length+1) c2)) p (.slice (some (zp gs)) D.secs.length scap) (.slice (some (zp g2)) (D.mem.length+1) c2) left S' (D.put i l)/\au S S' w (w2.setCell ⟨p,1,none⟩ (.slice (some (zp g2)) (D.mem.length+1) c2)):=by
  intro g c w1 g2 c2 w2 o ho ai h2 h3 h4;have:=h.addLine hi ig lE ho (nF ai) cs zdG kS h2 h3 (by
   rcases h4 with h5|h5
   ·exact .inl h5.symm
   ·exact .inr (by rw[<-h5];rfl))
  exact⟨_,this.1,this.2⟩
 have yJ:=tY a cap l w.drew hb (by intro e;rw[e]at hl;cases hl);rw[hl]at yJ;obtain⟨E,hE⟩:∃E:Int,(if D.left=0 then (9:Int)else 0)=E:=⟨_,rfl⟩;have eF:∀w1 S1 sv1 lv1 left1,cy w1 p sv1 lv1 left1 S1 (D.put i l)->zC 54 #[zq p] w1 fun e w'=>e=.returned (.bool (decide (D.left≠0)))/\(∃left',cy w' p sv1 lv1 left' S1 (D.put i l).step)/\au S1 S1 w1 w' :=fun w1 S1 sv1 lv1 left1 h1=>wP h1 hd
 have Fk:=h.oX;have fP:=ae eF;have AO:=ae kP;have HCP:=ae yJ;have HOF:=ae ziv;have HE:=ae hE;have HKN:=ae hkn;have HB:=ae hb;rw[hE];clear h eF kP yJ ziv PC zdG hE ig hkn hb;rcases Fk with ⟨rfl,ry⟩|⟨gl,lc,rfl,jC,gS,zhi,Dw⟩
 ·have HM0:=ae ry;clear ry;go_enter func17,ntmps17
  go_wp2_with fail
  go_loop [7,8] (fun f jv=>f=.bool false/\jv=zi 0) (fun _ _=>0)
  case atStart=>exact Uq
  case round =>
   obtain⟨rfl,rfl⟩:=hrel;go_wp2_with fail
   go_region_law (first
    | (refine step_append_lies _ Tq (.tmp 62) (.tmp 67) 57 Tq 0 118 i0 _ 2 32 underlying57 dU cO cU cV Tq Si _ _ _ Tq (HOF w1 _ ai) ⟨w1.heap.size,0,none⟩ 1 1 [zi (i:Int),.slice (some (zp g)) 32 c] Tq Tq (IT w1 _ _ _) (Oo _ _ _ _) Si Ts Sg (qAH _) (w1.heap.size+1) Sk ?_;intro g2 c2 w2 fL iS PI Pt;have s1:w2.cell? ⟨p,1,none⟩=some (.slice none 0 0):=iS.cell (a:=⟨p,1,none⟩) ((qAJ (a:=⟨p,1,none⟩) (qAb _ _ (by have:=ai.size;exact qAL G9 this))).trans r1) (fun e=>zhe e.symm);have s2:w2.frozen? ⟨p,1,none⟩=false:=zpE)
    | (go_simp;refine HCP.mono ?_;rintro e w1 ⟨g,c,rfl,az,ai⟩;dsimp only;have r1:w1.cell? ⟨p,1,none⟩=some (.slice none 0 0):=(ai.cell (p:=⟨p,1,none⟩) G9).trans c1;have r1b:∀o,(w1.alloc o).cell? ⟨p,1,none⟩=some (.slice none 0 0):=fun o=>(qAJ (a:=⟨p,1,none⟩) (qAb _ _ (qAL G9 ai.size))).trans r1))
   all_goals
    obtain⟨S2,hR2,hT2⟩:=AO g c w1 g2 c2 w2 _ az ai fL iS PI;have rJ:=ae (fP _ S2 _ _ _ hR2);have oK:=ae hT2;clear hR2 hT2 az ai fL iS PI;go_wp2_with fail
    refine rJ.mono ?_;rintro e w3 ⟨rfl,⟨left3,h3⟩,rp⟩;by_cases h0:D.left=0
    ·rw[qAG (fun h=>h h0)];have JZ:=ae (show E=9 by rw[<-aa HE,zy h0]);clear h0;go_wp2;go_ret;exact⟨by rw[aa JZ];rfl,S2,⟨_,_,_,h3⟩,oK.trans rp⟩
    ·rw[qAE h0];have JZ:=ae (show E=0 by rw[<-aa HE,zn h0]);clear h0;go_wp2;go_ret;exact⟨by rw[aa JZ];rfl,S2,⟨_,_,_,h3⟩,oK.trans rp⟩
 ·unfold maxLen at gS;have HL4:=ae Dw;clear Dw;go_enter func17,ntmps17
  go_wp2_with fail
  go_loop [7,8] (fun f jv=>∃k:Nat,k<=D.mem.length/\f=.bool false/\jv=zi k) (fun _ jv=>D.mem.length-(intOf jv).toNat)
  case atStart=>exact zlY
  case round =>
   obtain⟨k,hk,rfl,rfl⟩:=hrel;have f0:(0:Int)<=(k:Int):=Sg
   by_cases aB:k<D.mem.length
   ·have f1:(k:Int)<(D.mem.length:Int):=by omega
    obtain⟨q0,vb,q1,_⟩:=HL4 k aB;have aG:(D.mem.getD k (0,[])).1≠i:=fun e=>HKN (e▸Du aB)
    obtain⟨ky,bd,uk⟩:∃ky bd,D.mem.getD k (0,[])=(ky,bd):=⟨_,_,rfl⟩;simp only[uk]at q0 aG;have T0:¬(ky:Int)=(i:Int):=Sg
    clear uk aG;go_wp2
    go_round
    case rel=>exact⟨k+1,Sg,rfl,Tc⟩
    case measure=>exact Te
   ·obtain rfl:k=D.mem.length:=by omega
    go_wp2_with fail
    go_region_law (first
     | (refine step_append_lies _ Tq (.tmp 62) (.tmp 67) 57 Tq 0 118 i0 _ 2 32 underlying57 dU cO cU cV Tq Si _ _ _ Tq (HOF w1 _ ai) ⟨w1.heap.size,0,none⟩ 1 1 [zi (i:Int),.slice (some (zp g)) 32 c] Tq Tq (IT w1 _ _ _) (Oo _ _ _ _) Si Ts Sg (qAH _) (w1.heap.size+1) Sk ?_;intro g2 c2 w2 fL iS PI Pt;have s1:w2.cell? ⟨p,1,none⟩=some (.slice (some (zp gl)) D.mem.length lc):=iS.cell (a:=⟨p,1,none⟩) ((qAJ (a:=⟨p,1,none⟩) (qAb _ _ (by have:=ai.size;exact qAL G9 this))).trans r1) (fun e=>zhe e.symm);have s2:w2.frozen? ⟨p,1,none⟩=false:=zpE)
     | (go_simp;refine HCP.mono ?_;rintro e w1 ⟨g,c,rfl,az,ai⟩;dsimp only;have r1:w1.cell? ⟨p,1,none⟩=some (.slice (some (zp gl)) D.mem.length lc):=(ai.cell (p:=⟨p,1,none⟩) G9).trans c1;have r1b:∀o,(w1.alloc o).cell? ⟨p,1,none⟩=some (.slice (some (zp gl)) D.mem.length lc):=fun o=>(qAJ (a:=⟨p,1,none⟩) (qAb _ _ (qAL G9 ai.size))).trans r1))
    all_goals
     obtain⟨S2,hR2,hT2⟩:=AO g c w1 g2 c2 w2 _ az ai fL iS PI;have rJ:=ae (fP _ S2 _ _ _ hR2);have oK:=ae hT2;clear hR2 hT2 az ai fL iS PI;go_wp2_with fail
     refine rJ.mono ?_;rintro e w3 ⟨rfl,⟨left3,h3⟩,rp⟩;by_cases h0:D.left=0
     ·rw[qAG (fun h=>h h0)];have JZ:=ae (show E=9 by rw[<-aa HE,zy h0]);clear h0;go_wp2;go_ret;exact⟨by rw[aa JZ];rfl,S2,⟨_,_,_,h3⟩,oK.trans rp⟩
     ·rw[qAE h0];have JZ:=ae (show E=0 by rw[<-aa HE,zn h0]);clear h0;go_wp2;go_ret;exact⟨by rw[aa JZ];rfl,S2,⟨_,_,_,h3⟩,oK.trans rp⟩
theorem No i a cap len(hll:len<=140737488351232)(h:Ref w p S D)(ew:0<D.secs.length)(hc:i<0\/(D.secs.length:Int)<=i\/len≠32\/D.down=true) :
  zC 17 #[zq p,zi i,.slice a len cap] w (zr (zi (if i<0\/(D.secs.length:Int)<=i then 1 else if len≠32 then 3 else 9)) fun w'=>w=w'):=by
 obtain⟨sv,lv,left,h⟩:=h;have c0:=h.c0;have c3:=h.c3;have hlen:=h.ok.len;obtain⟨gs,scap,rfl,_,gN,_,_⟩:=h.lP ew;unfold maxLen at gN;by_cases h1:i<0
 ·rw[zy (.inl h1)];exact Iq
 ·by_cases h2:(D.secs.length:Int)<=i
  ·rw[zy (.inr h2)];exact Iq
  ·rw[zn Sg];by_cases h3:len≠32
   ·rw[zy h3];have Rt:¬(len:Int)=32:=by omega
    exact Iq
   ·rw[zn h3];have Rt:=qAM h3;subst Rt;have h4:D.down=true:=by
     rcases hc with h|h|h|h
     ·exact absurd h h1
     ·exact absurd h h2
     ·exact absurd h h3
     ·exact h
    rw[h4]at c3;exact Iq
theorem mH i a cap l(h:Ref w p S D)(ew:0<D.secs.length)(hb:Bs w a cap l) :
  zC 17 #[zq p,zi i,.slice a l.length cap] w (zr (zi (D.bN i l)) fun w'=>(∃S',Ref w' p S' (D.write i l)/\au S S' w w')):=by
 by_cases hc:i<0\/(D.secs.length:Int)<=i\/l.length≠32\/D.down=true
 ·have hw:D.write i l=D:=by unfold DS.write;rw[zy hc]
  have he:D.bN i l=(if i<0\/(D.secs.length:Int)<=i then 1 else if l.length≠32 then 3 else 9):=by
   unfold DS.bN;by_cases h1:i<0\/(D.secs.length:Int)<=i
   ·rw[zy h1,zy h1]
   ·rw[zn h1,zn h1];by_cases h2:l.length≠32
    ·rw[zy h2,zy h2]
    ·rw[zn h2,zn h2,zy (by
      rcases hc with h|h|h|h
      ·exact absurd (.inl h) h1
      ·exact absurd (.inr h) h1
      ·exact absurd h h2
      ·exact h)]
  rw[hw,he];exact(No i a cap l.length hb.2.2.1 h ew hc).mono fun e w' ⟨h1,h2⟩=>⟨h1,S,h2▸h,h2▸au.refl _ _⟩
 ·obtain⟨k,rfl⟩:∃k:Nat,i=k:=⟨i.toNat,by
   rcases Int.lt_or_le i 0 with h1|h1
   ·exact absurd (.inl h1) hc
   ·omega⟩
  have hk:k<D.secs.length:=by
   rcases qBT k D.secs.length with h1|h1
   ·exact h1
   ·exact absurd (.inr (.inl Sg)) hc
  have hl:=qAM fun h1=>hc (.inr (.inr (.inl h1)))
  have hd:D.down=false:=by
   cases e:D.down with
   | false=>rfl
   | true=>exact absurd (.inr (.inr (.inr e))) hc
  have hw:D.write k l=(D.put k l).step:=by unfold DS.write;rw[zn hc];rfl
  have he:D.bN k l=(if D.left=0 then 9 else 0):=by unfold DS.bN;rw[zn Sg,zn (fun h1=>h1 hl),zn zae]
  rw[hw,he,hl];obtain⟨sv,lv,left,h⟩:=h;cases lI:D.mem.lookup k with
  | none=>exact Sy k a cap l h hk hd hb hl lI
  | some c =>obtain⟨q,hq,qT⟩:=qAm (gQ lI);exact Sw k a cap l h hk hd hb hl q hq (by simp[List.getD,hq,qT])
end
section
variable {w:World} {p:Nat} {S:Nat->Prop} {D:DS}
theorem cy.zlE(h:cy w p sv lv left S D)(jB:DS.Ok { D with secs:=D.secs++[l]})(hgw:w.heap.size<=g)(BK:g<w1.heap.size)(hv1:jY w1 (fun k=>k=g) (.slice (zo g) 32 c) l)(hb:zB w w1) cs(fI:zl w S cs D.secs)(kS:cs.length=D.secs.length)(az:w2.ownsRow 0 29 1 v (D.secs.length+1) (cs++[.slice (zo g) 32 c]))(fE:(w1.alloc o).grownBy w2 sv.ownBlock)(rI:v.ownBlock=sv.ownBlock\/v.ownBlock=some (w1.heap.size+1)) :
  cy (w2.setCell (zp p) v) p v lv left (fun k=>S k\/k=g\/v.ownBlock=some k) { D with secs:=D.secs++[l]}/\au S (fun k=>S k\/k=g\/v.ownBlock=some k) w (w2.setCell (zp p) v):=by
 have cV:=fE.size;simp only[size_alloc]at cV;have hblk:∀k,S k->sv.ownBlock≠some k->w2.heap[k]?=w.heap[k]?:=fun k hk aG =>(fE.block k zpF (fun e=>aG e.symm)).trans ((qAb _ _ zmB).trans (hb.block k (h.lt k hk)))
 have um:w2.heap[g]?=w1.heap[g]?:=by refine(fE.block g Tb (fun e=>?_)).trans (qAb _ _ BK);have:=h.lt g (h.ins g e.symm);omega
 have Jc:w2.heap[p]?=_:=(hblk p h.mq h.nsv).trans h.str;have dL:∀k,k≠p->(w2.setCell (zp p) v).heap[k]?=w2.heap[k]?:=fun k hk=>qAV _ _ _ _ hk
 have hvp:v.ownBlock≠some p:=by
  intro e;rcases rI with h1|h1
  ·exact h.nsv zeT
  ·exact zpy
 have Ha:∀u b,jY w S u b->jY (w2.setCell (zp p) v) (fun k=>S k\/k=g\/v.ownBlock=some k) u b:=by
  intro u b hu;obtain⟨g1,c1,rfl,k1,⟨cur,k2⟩,k3⟩:=hu;have Gx:sv.ownBlock≠some g1:=by intro e;obtain⟨cs2,q1,_⟩:=h.sec;obtain⟨cur2,q2⟩:=br q1 e;rw[k2]at q2;simp at q2
  have xj:g1≠p:=zm4;have e1:=(dL g1 xj).trans (hblk g1 k1 Gx);exact vE
 have eX:jY (w2.setCell (zp p) v) (fun k=>S k\/k=g\/v.ownBlock=some k) (.slice (zo g) 32 c) l:=by have hgp:g≠p:=zev;exact zpi
 refine⟨⟨jB,by rw[qAI _ _ _ _ _ _ Jc];simp,?_,?_,.inl h.mq,fun k hk=>.inr (.inr hk),fun k hk=>.inl (h.inl k hk),?_,h.lf,h.lb⟩,?_⟩
 ·show ∃cs,(w2.setCell (zp p) v).ownsRow 0 29 1 v (D.secs++[l]).length cs/\zl _ _ cs (D.secs++[l])
  rw[zLa];refine⟨_,bJ az (fun k fR=>dL k (fun e=>hvp (by rw[fR,e]))),fun j hj=>?_⟩;simp at hj;by_cases e:j<D.secs.length
  ·obtain⟨u,q2,q3⟩:=fI j e;have e1:(D.secs++[l]).getD j []=D.secs.getD j []:=by simp[List.getD,qAZ e]
   rw[e1];exact⟨u,by rw[qAZ Sg];exact q2,Ha u _ q3⟩
  ·obtain rfl:j=D.secs.length:=by omega
   have e1:(D.secs++[l]).getD D.secs.length []=l:=UU;rw[e1];exact⟨.slice (zo g) 32 c,by rw[qAR Sg];simp[kS],eX⟩
 ·obtain⟨cs2,q1,q2⟩:=h.V1;refine⟨cs2,bJ q1 (fun k hk=>(dL k (fun e=>h.nlv zas)).trans (hblk k (h.inl k hk) (fun e=>?_))),fun j hj=>?_⟩
  ·obtain⟨cs3,q3,_⟩:=h.sec;exact zmZ
  ·obtain⟨q5,u,q3,q4⟩:=q2 j hj;exact⟨q5,u,q3,Ha u _ q4⟩
 ·intro k fR
  show k<(w2.setCell (zp p) v).heap.size
  have hzz:(w2.setCell (zp p) v).heap.size=w2.heap.size:=Sk;exact Nr
 ·refine⟨fE.os.trans hb.os,fE.tape.trans hb.tape,fE.output.trans hb.output,zer,fun k fR hn=>?_,fun k fR hs=>?_⟩
  ·have hkp:k≠p:=fun e=>hn (e▸h.mq)
   refine(dL k hkp).trans ((fE.block k zer (fun e=>hn (h.ins k e.symm))).trans ((qAb _ _ zeC).trans (hb.block k fR)))
  ·rcases hs with h1|h1|h1
   ·exact h1
   ·omega
   ·rcases rI with h2|h2
    ·exact h.ins k (by rw[<-h2];exact h1)
    ·rw[h2]at h1;have:=zOi h1;exact zeC
end
theorem O9:(prog.info? 29).map (fun i=>(i.zero,i.size,i.bytes))=some (some (.slice none 0 0),1,24):=SQ
theorem Sz w:(Instr.makeSlice 29 (zi 32) (zi 32)).run prog w=.ok (.slice (some (zp w.heap.size)) 32 32) (w.alloc (.cells (aL (af 32)) 5)):=by
 obtain⟨i0,dU,cO,cU,cV⟩:=qAO dw;have h:=run_make (P:=prog) w 29 5 i0 _ underlying29 dU cO .i64 .i64 32 32 Si Si (by rw[cV];decide) Si;rw[cU]at h;simp only[show Int.toNat 32=32 from rfl]at h;have e:madeCells (Value.int .u8 0).cells (32*1)=aL (af 32):=by have:=yA 32;unfold aL;rw[<-this,Array.toArray_toList]
 rw[e]at h;exact h
theorem Oq k(hk:k<=300):(uq (lK k) (-1)).Ok:=DS.KU k hk
theorem RP k:lK (k+1)=lK k++[af 32]:=by unfold lK af;rw[List.replicate_succ']
theorem zbR(n:Nat) w(hn:n<=300) :
  zC 6 #[zi n] w fun e w'=>∃p S,e=.returned (zq p)/\Ref w' p S (uq (lK n) (-1))/\(∀k,S k->w.heap.size<=k)/\zB w w':=by
 have tN:=Sz;obtain⟨i0,dU,cO,cU,cV⟩:=qAO O9;go_enter func6,ntmps6
 go_wp2_with fail
 go_loopw [4] (fun v wr=>∃ (k:Nat) (S:Nat->Prop) (sv:Value),k<=n/\v=zi k/\cy wr w.heap.size sv (.slice none 0 0) (-1) S (uq (lK k) (-1))/\(∀j,S j->w.heap.size<=j)/\zB w wr) (fun v _=>n-(intOf v).toNat)
 case atStart =>refine⟨0,fun k=>k=w.heap.size,.slice none 0 0,Sg,rfl,⟨Oq 0 Si,qAB _ _,⟨[],qBp _ _ _ _,fun i hi=>absurd hi (qAX i)⟩,⟨[],qBp _ _ _ _,fun i hi=>absurd hi (qAX i)⟩,rfl,fun g hg=>Zl,fun g hg=>Zl,fun k hk=>(by subst hk;simp),.inr rfl,Si⟩,fun j hj=>Sg,zBr.alloc zNr _⟩
 case round =>
  obtain⟨k,S,sv,hk,rfl,hr,hS,ai⟩:=hrel;by_cases aB:k<n
  ·have c0:=hr.c0;have f0:=hr.fr 0;have G9:=hr.lt _ hr.mq;obtain⟨cs,PC,zdG⟩:=hr.sec;have oz:(uq (lK k) (-1)).secs.length=k:=Lc k;rw[oz]at PC;have kS:cs.length=k:=by have:=PC.1;omega
   have zqa:=hr.nsv;have eV:((World.drew wr).alloc (.cells (aL (af 32)) 5)).ownsRow 0 29 1 sv k cs:=(World.ownsRow.drew PC).alloc _;have kP:∀g2 c2 w2 o,w2.ownsRow 0 29 1 (.slice (zo g2) (k+1) c2) (k+1) (cs++[.slice (some (zp wr.heap.size)) 32 32])->(((World.drew wr).alloc (.cells (aL (af 32)) 5)).alloc o).grownBy w2 sv.ownBlock->(sv.ownBlock=some g2\/g2=wr.heap.size+1+1) ->
     ∃S',cy (w2.setCell (zp w.heap.size) (.slice (zo g2) (k+1) c2)) w.heap.size (.slice (zo g2) (k+1) c2) (.slice none 0 0) (-1) S' (uq (lK (k+1)) (-1))/\au S S' wr (w2.setCell (zp w.heap.size) (.slice (zo g2) (k+1) c2)):=by
    intro g2 c2 w2 o h2 h3 h4;have ay:zB wr ((World.drew wr).alloc (.cells (aL (af 32)) 5)):=(Below.mk rfl rfl rfl zNr (fun _ _=>rfl):zB wr wr.drew).alloc zNr _;have Wf:gz ((World.drew wr).alloc (.cells (aL (af 32)) 5)) wr.heap.size (af 32):=qAB (World.drew wr) _;have aH:=Wf.bs (cI 32) YG;rw[ag]at aH;have hv1:jY ((World.drew wr).alloc (.cells (aL (af 32)) 5)) (fun k=>k=wr.heap.size) (.slice (some (zp wr.heap.size)) 32 32) (af 32):=⟨_,_,rfl,rfl,⟨_,Wf⟩,aH⟩;have e:=RP k;have zkv:DS.Ok { uq (lK k) (-1)with secs:=(uq (lK k) (-1)).secs++[af 32]}:=by
     show(DS.mk (lK k++[af 32]) [] (-1) false).Ok
     rw[<-e];exact Oq (k+1) Sg
    have:=hr.zlE (l:=af 32) zkv zNr Sk hv1 ay cs zdG (by rw[kS,oz]) (by rw[oz];exact h2) h3 (by
     rcases h4 with h5|h5
     ·exact .inl h5.symm
     ·exact .inr (by rw[h5];simp[Value.ownBlock]))
    refine⟨_,?_,this.2⟩;have h9:=this.1;rw[show({ uq (lK k) (-1)with secs:=(uq (lK k) (-1)).secs++[af 32]}:DS)=uq (lK (k+1)) (-1)from by rw[e];rfl]at h9;exact h9
   have AO:=ae kP;have od:=ae eV;have HSS:=ae hS;have aJ:=ae ai;have zsp:wr.frozen? (zp w.heap.size)=false:=f0;clear hr kP eV PC zdG oz hS ai;go_wp2_with fail
   have c0b:∀o,(wr.alloc o).cell? (zp w.heap.size)=some sv:=fun o=>(qAJ (a:=⟨w.heap.size,0,none⟩) (qAb _ _ G9)).trans c0
   have c0c:∀o o',((wr.alloc o).alloc o').cell? (zp w.heap.size)=some sv:=fun o o'=>(qAJ (a:=⟨w.heap.size,0,none⟩) (qAb _ _ Tb)).trans (c0b o)
   go_region_law (refine step_append_lies _ Tq (.tmp 16) (.tmp 18) 56 Tq 0 29 i0 _ 1 24 underlying56 dU cO cU cV Tq Si _ _ _ Tq (od.alloc _) ⟨wr.heap.size+1,0,none⟩ 1 1 [.slice (some (zp wr.heap.size)) 32 32] Tq Tq (rB wr _ _ _) (fun u hu=>by simp at hu;subst hu;rfl) Si Ts Sg (qAH _) (wr.heap.size+1+1) Sk ?_;intro g2 c2 w2 fL iS PI Pt;have b1:=(iS.block w.heap.size Tb (fun e=>zqa e.symm)).trans ((qAb _ _ Tb).trans (qAb _ _ G9));have s1:w2.cell? (zp w.heap.size)=some sv:=(qAJ (a:=⟨w.heap.size,0,none⟩) b1).trans c0;have s2:=(World.frozen?_of_block (a:=⟨w.heap.size,0,none⟩) b1).trans f0)
   all_goals
    obtain⟨S2,hR2,hT2⟩:=AO g2 c2 w2 (.cells #[.slice (some (zp wr.heap.size)) 32 32] 29) fL iS PI;have lJ:=ae hR2;have oK:=ae hT2;go_wp2;go_roundw
    case rel=>exact⟨k+1,S2,_,Sg,Tc,lJ,fun j hj=>by
      rcases qBT j wr.heap.size with h1|h1
      ·exact HSS j (oK.bA j h1 hj)
      ·exact qAF aJ.size h1,aJ.trans (oK.below HSS aJ.size)⟩
    case measure=>exact Te
  ·obtain rfl:k=n:=by omega
   have HR:=ae hr;go_wp2;go_ret;exact⟨_,S,rfl,⟨_,_,_,HR⟩,hS,ai⟩
section
variable {w:World} {p:Nat} {S:Nat->Prop} {D:DS}
theorem Xv{s b}(hs:s.length=32)(hb:b.length=32) j(hj:j<32):(nH s b j).set j (b.getD j 0)=nH s b (j+1):=by
 unfold nH;apply List.ext_getElem?;intro i;rw[List.getElem?_set];have jC:(b.take j).length=j:=Tb;have gS:(b.take (j+1)).length=j+1:=Tb;by_cases h1:j=i
 ·subst h1;rw[zy rfl];rw[zy Tb,qAZ Sg,qAi,zy Sg];simp[List.getD,hb,hj]
 ·rw[zn h1];by_cases h2:i<j
  ·rw[qAZ Sg,qAZ Sg,qAi,qAi,zy h2,zy Sg]
  ·rw[qAR Sg,qAR Sg,qBJ,qBJ]
   congr 1;omega
theorem cy.crashed(h:cy w p sv lv left S D) :
  cy (((w.setCell (zw p 1) (.slice none 0 0)).setCell (zw p 3) (.bool false)).setCell (zw p 2) (zi (-1))) p sv (.slice none 0 0) (-1) S ⟨D.secs,[],-1,false⟩/\au S S w (((w.setCell (zw p 1) (.slice none 0 0)).setCell (zw p 3) (.bool false)).setCell (zw p 2) (zi (-1))):=by
 have h1:=h.forget;have fQ:((w.setCell (zw p 1) (.slice none 0 0)).setCell (zw p 3) (.bool false)).heap[p]?=some (.cells #[sv,.slice none 0 0,zi left,.bool false] 59 (0,0)):=by rw[qAI _ _ _ _ _ _ h1.str];simp
 have gN:(((w.setCell (zw p 1) (.slice none 0 0)).setCell (zw p 3) (.bool false)).setCell (zw p 2) (zi (-1))).heap[p]?=some (.cells #[sv,.slice none 0 0,zi (-1),.bool false] 59 (0,0)):=by rw[qAI _ _ _ _ _ _ fQ];simp
 have dL:∀k,k≠p->(((w.setCell (zw p 1) (.slice none 0 0)).setCell (zw p 3) (.bool false)).setCell (zw p 2) (zi (-1))).heap[k]?=(w.setCell (zw p 1) (.slice none 0 0)).heap[k]?:=fun k hk=>(qAV _ _ _ _ hk).trans (qAV _ _ _ _ hk)
 refine⟨⟨⟨h.ok.len,h.ok.sec,fun q hq=>(by cases hq),List.nodup_nil,Sk⟩,gN,?_,⟨[],qBp _ _ _ _,fun i hi=>absurd hi (qAX i)⟩,h.mq,h.ins,fun g hg=>Zl,fun k hk=>YW,.inr rfl,Si⟩,((au.setCell _ _ h.mq).trans (au.setCell _ _ h.mq)).trans (au.setCell _ _ h.mq)⟩;obtain⟨cs,q1,q2⟩:=h1.sec;refine⟨cs,bJ q1 (fun g hg=>dL g (fun e=>h1.nsv VV)),fun i hi=>?_⟩;obtain⟨u,q3,q4⟩:=q2 i hi;exact⟨u,q3,q4.ne h1.str Si dL⟩
theorem NV ka kcap keep aZ cut(h:cy w p sv lv left S D)(ew:0<D.secs.length)(Ae:Bls w ka kcap keep)(hkn:keep≠[]->∀x,ka=some x->¬S x.block) :
  zC 35 #[zq p,.slice ka keep.length kcap,zi aZ,zi cut] w (zr (zi D.mem.length) fun w'=>(∃S',Ref w' p S' (D.bX keep aZ (jW cut))/\au S S' w w')):=by
 have c1:=h.c1;have tM:=h.ok.ki;have hlen:=h.ok.len;have tP:=Ae.2.1;have H:=ae h;have HK:=ae Ae;have HKN:=ae hkn;obtain⟨gs,cap,rfl,fQ,gN,zsf,_⟩:=h.lP ew;unfold maxLen at gN;have Fk:=h.oX;clear h Ae hkn;rcases Fk with ⟨rfl,ry⟩|⟨gl,lc,rfl,jC,gS,zhi,_⟩
 ·have He:=H.crashed;have d2:=H.c2;have d3:=H.c3;have g1:=H.fr 1;have g2:=H.fr 2;have g3:=H.fr 3;have Gy:D.bX keep aZ (jW cut)=⟨D.secs,[],-1,false⟩:=by unfold DS.bX;rw[ry];rfl
  have oz:D.mem.length=0:=by rw[ry];rfl
  have HCD:=ae Gy;have HL0:=ae oz;have RI:=ae He;clear He Gy oz ry;go_enter func35,ntmps35
  go_wp2_with fail
  go_loop [10] (fun v=>v=zi 0) (fun _=>0)
  case atStart=>rfl
  case round =>subst hrel;go_wp2;go_ret;exact⟨by rw[aa HL0];rfl,S,⟨_,_,_,by rw[aa HCD];exact RI.1⟩,RI.2⟩
 ·unfold maxLen at gS;go_enter func35,ntmps35
  go_wp2_with fail
  go_loopw [10] (fun v wr=>∃ (k:Nat) (S':Nat->Prop),k<=D.mem.length/\v=zi k/\cy wr p (.slice (zo gs) D.secs.length cap) (.slice (zo gl) D.mem.length lc) left S' { D with secs:=dA D.secs D.mem keep aZ (jW cut) k }/\au S S' w wr) (fun v _=>D.mem.length-(intOf v).toNat)
  case atStart=>exact⟨0,S,Sg,rfl,H,au.refl _ _⟩
  case round =>
   obtain⟨k,S1,hk,rfl,hd,o4⟩:=hrel;clear H c1;have d1:=hd.c1;by_cases aB:k<D.mem.length
   ·obtain⟨ky,bd,uk⟩:∃ky bd,D.mem.getD k (0,[])=(ky,bd):=⟨_,_,rfl⟩;have d0:=hd.c0;have sh:D.mem.getD k (0,[])∈D.mem:=jN aB;have dL:=wk (secs:=D.secs) keep aZ (jW cut) k ky bd uk;have hq:=hd.ok.mem _ sh;obtain⟨q0,vb,q1,Wc⟩:wr.cell? ⟨gl,k*2,none⟩=some (zi ((D.mem.getD k (0,[])).1:Int))/\∃v,wr.cell? ⟨gl,k*2+1,none⟩=some v/\jY wr S1 v (D.mem.getD k (0,[])).2:=by exact ML
    simp only[uk]at q0 Wc hq;obtain⟨gb,cb,rfl,BH⟩:∃gb cb,vb=.slice (zo gb) 32 cb/\jY wr S1 vb bd:=zpM;have f0:(0:Int)<=(k:Int):=Sg;have f1:(k:Int)<(D.mem.length:Int):=Sg;obtain⟨so,hso⟩:∃so,(dA D.secs D.mem keep aZ (jW cut) k).getD ky []=so:=⟨_,rfl⟩;have hdx:=hd.alloc (.cells #[zi (ky:Int),.slice (zo gb) 32 cb] 118);have hsS:kC so:=by rw[<-hso];exact cZ hd.ok.sec hq.1
    have x0d:=hdx.c0;have zr7:ky<D.secs.length:=by have:=hq.1;rwa[fK]at this
    obtain⟨vs,hvs,hsv⟩:∃v,(wr.alloc (.cells #[zi (ky:Int),.slice (zo gb) 32 cb] 118)).cell? ⟨gs,ky,none⟩=some v/\jY (wr.alloc (.cells #[zi (ky:Int),.slice (zo gb) 32 cb] 118)) S1 v so:=by obtain⟨g',c',e,_,_,_,hh⟩:=hdx.lP (by show 0<(dA D.secs D.mem keep aZ (jW cut) k).length;rw[fK];exact ew);simp only[qAS,qAQ,qBI,qBj]at e;obtain⟨v,hv,hv2⟩:=hh ky hq.1;have zp3:({ D with secs:=dA D.secs D.mem keep aZ (jW cut) k }:DS).secs.getD ky []=so:=hso;rw[zp3]at hv2;rw[e.1];exact⟨v,hv,hv2⟩
    obtain⟨gv,cv,rfl,zsd,zsc,hbv⟩:=hsv;have Zn:jY (wr.alloc (.cells #[zi (ky:Int),.slice (zo gb) 32 cb] 118)) S1 (.slice (zo gb) 32 cb) bd:=BH.same (fun j hj=>qAb _ _ (hd.lt j hj)) (fun _ h=>h);have oI:(wr.alloc (.cells #[zi (ky:Int),.slice (zo gb) 32 cb] 118)).frozen? ⟨gs,ky,none⟩=false:=by obtain⟨cs,q5,_⟩:=hdx.sec;obtain⟨cur,q6⟩:=br q5 (g:=gs) rfl;exact qAd _ _ _ _ _ q6
    have CW:(wr.alloc (.cells #[zi (ky:Int),.slice (zo gb) 32 cb] 118)).cell? (zp wr.heap.size)=some (zi (ky:Int)):=zpv;have Ms:(wr.alloc (.cells #[zi (ky:Int),.slice (zo gb) 32 cb] 118)).cell? (zw wr.heap.size 1)=some (.slice (zo gb) 32 cb):=zpv;have zse:gs<wr.heap.size:=hd.lt gs (hd.ins gs rfl);have si:p<wr.heap.size:=hd.lt p hd.mq;have Lq:gs≠p:=fun e=>hd.nsv zcp
    have f2:(0:Int)<=(ky:Int):=Sg;have f3:(ky:Int)<(D.secs.length:Int):=Sg;have hsb:kC bd:=hq.2;have htx:au S S1 w (wr.alloc (.cells #[zi (ky:Int),.slice (zo gb) 32 cb] 118)):=o4.trans (au.alloc S1 _ _);have HDX:=ae hdx;have HQ:=ae hq;have HTX:=ae htx;have xI:=ae dL;have HSO:=ae hso;have HVB:=ae Zn;by_cases ht:(k:Int)=aZ
    ·have iB:one keep aZ (jW cut) k so bd=nH so bd (jW cut):=by unfold one;rw[zy ht]
     have zh8:=ae iB;have yJ:=tY (zo gv) cv so (World.drew (wr.alloc (.cells #[zi (ky:Int),.slice (zo gb) 32 cb] 118))) hbv (by intro e;have:=hsS.1;rw[e]at this;cases this);rw[hsS.1]at yJ;have HCP:=ae yJ;clear yJ iB hd hdx o4 htx dL hq Wc BH Zn hso sh uk;subst ht;go_wp2_with fail
     generalize (wr.alloc (.cells #[zi (ky:Int),.slice (zo gb) 32 cb] 118))=wx at*;go_region_held3 (fun w'=>w'.cell? (zp p)=some (.slice (zo gs) D.secs.length cap)/\w'.cell? (zp wr.heap.size)=some (zi (ky:Int))/\w'.cell? ⟨gs,ky,none⟩=some (.slice (zo gv) 32 cv)) (first | go_keep | (go_split_ands;refine⟨?_,?_,?_⟩ <;> go_keep))
      ((go_at_call 53;refine HCP.mono ?_;rintro e w1 ⟨g,c,rfl,az,ai⟩;have r0:=(ai.cell (p:=(zp p)) (qAA x0d)).trans x0d;have r1:=(ai.cell (p:=⟨wr.heap.size,0,none⟩) (qAA CW)).trans CW;have r2:=(ai.cell (p:=⟨gs,ky,none⟩) (qAA hvs)).trans hvs))
     have ziO:zB wx w1:=nF ai;have jy:Own w1 wx.heap.size g c so:=az;have B7:=ae jy;have aQ:=ae ziO;clear az ai jy ziO r0 r1 r2 HCP;generalize wr.heap.size=xp at*;go_wp2_with fail
     go_loopw [13] (fun v wq=>∃j:Nat,j<=32/\(j:Int)<=max cut 0/\v=zi j/\Own wq wx.heap.size g c (nH so bd j)/\zB wx wq) (fun v _=>32-(intOf v).toNat)
     case atStart=>exact⟨0,Sg,Sg,rfl,by rw[show nH so bd 0=so from by simp[nH]];exact B7,aQ⟩
     case round =>
      obtain⟨j,hj,hjc,rfl,hoj,hbj⟩:=hrel;have hlj:(nH so bd j).length=32:=(zk hsS hsb j).1;by_cases hjj:j<32/\(j:Int)<cut
      ·obtain⟨j1,j2⟩:=hjj;have y1:=(hbj.cell (p:=⟨xp,1,none⟩) (qAA Ms)).trans Ms;have y2:wr.cell? (zw gb j)=some (.int .u8 (bd.getD j 0)):=by
        obtain⟨g',c',e,_,_,vQ⟩:=HVB;obtain⟨rfl,rfl⟩:gb=g'/\cb=c':=WI;obtain⟨b',off,e2,hc⟩:=vQ.2.2.2.2 (by intro e3;have:=hsb.1;rw[e3]at this;cases this);obtain⟨rfl,rfl⟩:gb=b'/\0=off:=by simpa using e2
        have h5:=hc j (by rw[hsb.1];exact j1);rw[qAl]at h5;exact(hbj.cell (p:=⟨gb,j,none⟩) (qAA h5)).trans h5
       have y3:=hoj.cell j (by rw[hlj];exact j1);have y4:=hoj.frozen j;have HOJ:=ae (hoj.set j (bd.getD j 0));have HBJ:=ae (show zB wx (wr.setCell (zw g j) (.int .u8 (bd.getD j 0)))from hbj.setCell hoj.base _);have HTS:=ae (Xv hsS.1 hsb.1 j j1);have g0:(0:Int)<=(j:Int):=Sg;have g1:(j:Int)<32:=Sg;generalize bd.getD j 0=bj at*;clear hoj hbj;go_wp2;go_roundw
       case rel=>exact⟨j+1,Sg,Sg,Tc,by rw[<-aa HTS];exact HOJ,HBJ⟩
       case measure=>exact Te
      ·have znT:j=jW cut:=by unfold jW;omega
       have hsT:kC (nH so bd (jW cut)):=zk hsS hsb _;rw[znT]at hoj;have BK:g<wr.heap.size:=(hoj.lt g rfl).2;have hdq:=HDX.same hbj.size (fun k hk=>hbj.block k (HDX.lt k hk));have hdw:=(hdq.wide (S':=fun k=>S1 k\/k=g) (fun k hk=>.inl hk) (fun k hk=>by
        rcases hk with hk|hk
        ·exact hdq.lt k hk
        ·omega)).same (w':=wr.drew) zNr (fun _ _=>rfl)
       have znB:Own wr.drew wx.heap.size g c (nH so bd (jW cut)):=hoj;have sg:=hdw.Sp ky HQ.1 (Ej znB hsT (.inr rfl)) hsT;have rH:wx.heap.size<=g:=hoj.base;have oK:=ae ((HTX.trans (au.grow hbj rH)).trans (au.drew (fun k=>S1 k\/k=g) wr));have HR:=ae sg;have y0:=(hbj.cell (p:=(zp p)) (qAA x0d)).trans x0d;have y1:=(hbj.cell (p:=(zp xp)) (qAA CW)).trans CW;have y2:=(hbj.cell (p:=⟨gs,ky,none⟩) (qAA hvs)).trans hvs;have y3:=(hbj.frozen (p:=⟨gs,ky,none⟩) (qAA hvs)).trans oI;have Wm:(j=32)\/(j<32/\¬(j:Int)<cut):=Sg;have TZ:gs≠xp:=Sg;clear hdq hdw hoj znB sg hbj znT hlj;rcases Wm with Aj|⟨Aj,h33⟩
       ·subst Aj;go_wp2_with fail
        go_region_held3 (fun w'=>w'.cell? (zp p)=some (.slice (zo gs) D.secs.length cap)/\w'.cell? (zp xp)=some (zi (ky:Int))) (first | go_keep | (go_split_ands;refine⟨?_,?_⟩ <;> first | go_keep | (simp[Lq,TZ,Ne.symm Lq,Ne.symm TZ];assumption))) (fail)
        exact u6
       ·have g1:(j:Int)<32:=by omega
        go_wp2_with fail
        go_region_held3 (fun w'=>w'.cell? (zp p)=some (.slice (zo gs) D.secs.length cap)/\w'.cell? (zp xp)=some (zi (ky:Int))) (first | go_keep | (go_split_ands;refine⟨?_,?_⟩ <;> first | go_keep | (simp[Lq,TZ,Ne.symm Lq,Ne.symm TZ];assumption))) (fail)
        exact u6
    ·by_cases hkk:k<keep.length
     ·have aG:keep≠[]:=by intro e;rw[e]at hkk;simp at hkk
      obtain⟨b3,off3,rfl,uQ⟩:=HK.2.2 aG;have bD:=qAA (uQ k hkk);have hkc:(wr.alloc (.cells #[zi (ky:Int),.slice (zo gb) 32 cb] 118)).cell? ⟨b3,off3+k,none⟩=some (.bool (keep.getD k false)) :=(qAJ (a:=⟨b3,off3+k,none⟩) ((qAb _ _ (qAL bD o4.size)).trans (o4.block b3 bD (HKN aG _ rfl)))).trans (uQ k hkk);have zqi:(k:Int)<(keep.length:Int):=Sg;by_cases Hb:keep.getD k false=true
      ·have iB:one keep aZ (jW cut) k so bd=bd:=by unfold one;rw[zn ht,zy Hb]
       rw[Hb]at hkc;have hdw:=hdx.same (w':=World.drew (wr.alloc (.cells #[zi (ky:Int),.slice (zo gb) 32 cb] 118))) zNr (fun _ _=>rfl);have sg:=hdw.Sp ky hq.1 (v:=.slice (zo gb) 32 cb) Zn hsb;have HR:=ae sg;have zh8:=ae iB;have oK:=ae (HTX.trans (au.drew S1 _));have TZ:gs≠wr.heap.size:=Sg;clear iB hd hdx hdw sg o4 htx dL hq Wc BH Zn hso sh uk uQ Hb aG bD;go_wp2_with fail
       generalize (wr.alloc (.cells #[zi (ky:Int),.slice (zo gb) 32 cb] 118))=wx at*;go_region_held3 (fun w'=>w'.cell? (zp p)=some (.slice (zo gs) D.secs.length cap)/\w'.cell? (zp wr.heap.size)=some (zi (ky:Int))/\w'.cell? (zw wr.heap.size 1)=some (.slice (zo gb) 32 cb)) (first | go_keep | (go_split_ands;refine⟨?_,?_,?_⟩ <;> first | go_keep | (simp[Lq,TZ,Ne.symm Lq,Ne.symm TZ];assumption))) (fail)
       exact u6
      ·have iB:one keep aZ (jW cut) k so bd=so:=by unfold one;rw[zn ht,zn Hb]
       have zdw:keep.getD k false=false:=by simpa using Hb
       rw[zdw]at hkc;have oG:dA D.secs D.mem keep aZ (jW cut) (k+1)=dA D.secs D.mem keep aZ (jW cut) k:=by rw[dL,hso,iB,<-hso,jd]
       have HSM:=ae oG;clear iB oG hd hdx o4 htx dL hq Wc BH Zn hso sh uk uQ Hb zdw aG bD;exact K8
     ·have zdw:keep.getD k false=false:=by simp[List.getD,qAY (by omega:keep.length<=k)]
      have zqi:¬(k:Int)<(keep.length:Int):=Sg;have iB:one keep aZ (jW cut) k so bd=so:=by unfold one;rw[zn ht,zn (by rw[zdw];exact qAo)]
      have oG:dA D.secs D.mem keep aZ (jW cut) (k+1)=dA D.secs D.mem keep aZ (jW cut) k:=by rw[dL,hso,iB,<-hso,jd]
      have HSM:=ae oG;clear iB oG hd hdx o4 htx dL hq Wc BH Zn hso sh uk zdw;exact K8
   ·obtain rfl:k=D.mem.length:=by omega
    have He:=hd.crashed;have d2:=hd.c2;have d3:=hd.c3;have g1:=hd.fr 1;have g2:=hd.fr 2;have g3:=hd.fr 3;have RI:=ae He;have Ht:=ae o4;clear He o4 hd;go_wp2;go_ret;exact⟨rfl,S1,⟨_,_,_,RI.1⟩,Ht.trans RI.2⟩
