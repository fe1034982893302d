import Derived.Test.YtoiebmeajhpgcaaGreatDoorJImp
import Derived.Laws.ResultCell
import Derived.Lib.SliceRun
set_option maxRecDepth 100000
set_option maxHeartbeats 16000000
set_option linter.all false
namespace Go.Proofs.YtoiebmeajhpgcaaGreatDoor
variable {w' w:World}{B cap b off i g c:Nat}{v:Value}{l:LI}{P:Program}{cur:Array Value}
open Tryz
open Go.RowKit
theorem dX n w :
  zC 183 #[zi n] w (zr (.bool (ef n)) fun w'=>w=w'):=by
 unfold ef;by_cases h1:288<=n
 ·rw[qAE h1,qCd];exact QJ
 ·rw[qAG h1,qCa];exact QJ
theorem gK n w :
  zC 229 #[zi n] w (zr (.bool (eC n)) fun w'=>w=w'):=by
 unfold eC;by_cases h1:1<=n
 ·rw[qAE h1,qCd];exact QK
 ·rw[qAG h1,qCa];exact QK
def GI(n:Int):Bool:=decide (0<=n)&&decide (n<=15)
def Nk(n:Int):Bool:=decide (1<=n)&&decide (n<=1000)
def zaw(n a l:Int):Bool:=decide (288<=a)&&decide (l<=n-a)
theorem BD n w :
  zC 230 #[zi n] w (zr (.bool (GI n)) fun w'=>w=w'):=by
 unfold GI;by_cases h1:0<=n
 ·rw[qAE h1,qCd];exact Rm
 ·rw[qAG h1,qCa];exact Rm
theorem yC n w :
  zC 231 #[zi n] w (zr (.bool (Nk n)) fun w'=>w=w'):=by
 unfold Nk;by_cases h1:1<=n
 ·rw[qAE h1,qCd];exact R2
 ·rw[qAG h1,qCa];exact R2
theorem zY n a l w(hn:0<=n/\n<=6400)(ha:-9223372036854775808<=a/\a<=9223372036854775807) :
  zC 232 #[zi n,.agg #[zi a,zi l]] w (zr (.bool (zaw n a l)) fun w'=>zB w w'):=by
 obtain⟨n1,n2⟩:=hn;obtain⟨a1,a2⟩:=ha;unfold zaw;by_cases h1:288<=a
 ·rw[qAE h1,qCd];exact P6
 ·rw[qAG h1,qCa];exact P6
theorem jU h w(h1:1<=h)(h2:h<=40) :
  zC 190 #[zi h] w (zr (zi (bT h)) fun w'=>w=w'):=by
 have e:((bT h:Nat):Int)=(h-1)*5:=XM;rw[e];go_enter func190,ntmps190
 exact Tt
theorem tu(i:Nat) w(h:i<=8) :
  zC 192 #[zi i] w (zr (zi ((200+11*i:Nat):Int)) fun w'=>w=w'):=by
 have e:((200+11*i:Nat):Int)=200+(i:Int)*11:=Sg;rw[e];go_enter func192,ntmps192
 exact Tt
theorem Wn a cap l h w(hb:Bs w a cap l)(hl:288<=l.length)(h1:1<=h)(h2:h<=40) :
  zC 184 #[.slice a l.length cap,zi h] w (zr (.bool (aw l h != 0)) fun w'=>w=w'):=by
 have hp:=du h1 h2;obtain⟨b,off,rfl,bf⟩:=hb.at (bT h) Sg;have h3:=hb.2.2.1;have HE:=ae (jU h w h1 h2);unfold aw;generalize l.getD (bT h) 0=c,bT h=p at*;go_enter func184,ntmps184
 go_wp2_with fail
 refine HE.m ?_;exact zg3
theorem xw a cap l h w(hb:Bs w a cap l) :
  zC 191 #[.slice a l.length cap,zi h] w (zr (bc (aX l h)) fun w'=>w=w'):=by
 have h3:=hb.2.2.1;have HL:=ae (dX l.length w);have HH:=ae (gK h w);unfold aX;cases hq:ef l.length with
 | false =>
  rw[zy rfl];rw[hq]at HL;go_enter func191,ntmps191
  exact Ph
 | true =>
  rw[zn Sk];rw[hq]at HL;have hlen:=cm.1 hq;cases hh:eC h with
  | false =>
   rw[zy rfl];rw[hh]at HH;go_enter func191,ntmps191
   go_wp2_with fail
   refine HL.m ?_;rintro w1 rfl;go_wp2_with fail
   refine HH.m ?_;exact zg3
  | true =>
   rw[zn Sk];rw[hh]at HH;have hhn:=aN.1 hh;have HA:=ae (Wn a cap l h w hb Sg hhn.1 hhn.2);by_cases ht:aw l h=0
   ·rw[zy ht];rw[ht]at HA;exact D8
   ·rw[zn ht];rw[qBZ.2 ht]at HA;exact D8
theorem cJ(w:World) o:(w.alloc o).heap.size=w.heap.size+1:=Sk
def kV(e:(Int×I3)):Value:=.agg #[zi e.1,zi e.2.1,zi e.2.2.1,zi e.2.2.2]
def qB(w:World)(g:Nat)(e:(Int×I3)):Prop:=w.heap[g]?=some (.cells #[zi e.1,zi e.2.1,zi e.2.2.1,zi e.2.2.2] 124 (0,0))
section
variable {w:World} {g:Nat} {e:(Int×I3)}
theorem qB.lt(h:qB w g e):g<w.heap.size:=(zAg h).1
theorem qB.cells(h:qB w g e):w.cell? (zp g)=some (zi e.1)/\w.cell? (zw g 1)=some (zi e.2.1)/\w.cell? (zw g 2)=some (zi e.2.2.1)/\w.cell? (zw g 3)=some (zi e.2.2.2):=by simp only[qAD _ _ _ _ _ _ h];exact⟨rfl,rfl,rfl,rfl⟩
theorem qB.fr(h:qB w g e) i:w.frozen? (zw g i)=false:=qAd w g i _ _ h
theorem qB.set(h:qB w g e) a b c d:qB ((((w.setCell (zp g) (zi a)).setCell (zw g 1) (zi b)).setCell (zw g 2) (zi c)).setCell (zw g 3) (zi d)) g (a,b,c,d):=by have h1:=qAI w g 0 _ _ (zi a) h;have h2:=qAI _ g 1 _ _ (zi b) h1;have h3:=qAI _ g 2 _ _ (zi c) h2;exact qAI _ g 3 _ _ (zi d) h3
theorem qB.below(h:qB w g e)(hb:Below B w w')(hg:g<B):qB w' g e:=(hb.block g hg).trans h
end
theorem qB.new(w:World) e:qB (w.alloc (.cells #[zi e.1,zi e.2.1,zi e.2.2.1,zi e.2.2.2] 124)) w.heap.size e:=qAB w _
theorem zbp:(prog.info? 124).map (·.size)=some 4:=SQ
theorem vv{fn}{p q}(h:fn.results=#[.cell p 124,.tmp q]) tmps w g e(hp:tmps.getD p undef=zq g)(hg:qB w g e) :
  (results fn tmps).run prog w=.ok (.tuple #[kV e,tmps.getD q undef]) w:=by
 rw[results_cell_tmp h,hp];have:=run_loadVar_row (P:=prog) w g 124 124 _ (0,0) _ hg underlying124 rfl (by rw[zbp];rfl);simp[asAddr,this,Result.andThen];rfl
theorem V9 a cap l h w(hb:Bs w a cap l)(hc:aX l h≠0) :
  zC 185 #[.slice a l.length cap,zi h] w (zr (.tuple #[kV zed,bc (aX l h)]) fun w'=>zB w w'):=by
 have gT:zB w (w.alloc (.cells #[zi 0,zi 0,zi 0,zi 0] 124)):=zBr.alloc zNr _;have HC:=ae (xw a cap l h _ (hb.below gT));have iX:=ae gT;rw[aF _ hc]at HC ⊢;generalize aX l h=c,l.length=N at*;go_enter func185,ntmps185
 go_wp2_with fail
 refine HC.m ?_;intro w1 fM;subst fM;go_wp2;refine qBV (vv results185 _ _ w.heap.size zed rfl (qB.new w zed)) rfl ?_;exact⟨rfl,iX⟩
theorem z8 a cap l h w(hb:Bs w a cap l)(hc:aX l h=0) :
  zC 185 #[.slice a l.length cap,zi h] w (zr (.tuple #[kV (ao l h),.nilIface]) fun w'=>zB w w'):=by
 obtain⟨oz,hh0,ht⟩:=aV.1 hc;have jC:=cm.1 oz;have yI:=aN.1 hh0;have hp:=du yI.1 yI.2;have gT:zB w (w.alloc (.cells #[zi 0,zi 0,zi 0,zi 0] 124)):=zBr.alloc zNr _;have ay:=hb.below gT;have HC:=ae (xw a cap l h _ ay);rw[hc,aC]at HC;have HE:=ae (jU h (w.alloc (.cells #[zi 0,zi 0,zi 0,zi 0] 124)) yI.1 yI.2);obtain⟨a',Ji,aK⟩:=iy (P:=prog) (t:=29) underlying29 aT ay (bT h) Sg;have Mv:(l.drop (bT h)).length=l.length-bT h:=Sk;have RG:=ae (nB a' (cap-bT h) (l.drop (bT h)) 1 2 _ aK Sg Sg Sg Sg);have MF:=ae (nB a' (cap-bT h) (l.drop (bT h)) 3 2 _ aK Sg Sg Sg Sg);obtain⟨b,off,rfl,bf⟩:=aK.at 0 Sg;rw[Mv]at RG MF;have e1:dm (l.drop (bT h)) (1:Int).toNat (2:Int).toNat=dm l (bT h+1) 2:=by unfold dm;rw[qCh];rfl
 have e3:dm (l.drop (bT h)) (3:Int).toNat (2:Int).toNat=dm l (bT h+3) 2:=by unfold dm;rw[qCh];rfl
 rw[e1]at RG;rw[e3]at MF;have vP:(l.drop (bT h)).getD 0 0=aw l h:=by rw[mW,qAq];rfl
 rw[vP,qAq]at bf;have iT:=hb.1.getD (bT h);have zsx:0<=aw l h/\aw l h<=255:=iT;have h3:=hb.2.2.1;have ma:=hb.2.1;unfold ao;generalize dm l (bT h+1) 2=x at*;generalize dm l (bT h+3) 2=y at*;generalize aw l h=t at*;generalize bT h=p at*;generalize l.length=N at*;go_enter func185,ntmps185
 go_wp2_with fail
 refine HC.m ?_;intro w1 fM;subst fM;go_wp2_with fail
 refine HE.m ?_;intro w1 fM;subst fM;go_wp2_with fail
 refine RG.m ?_;intro w1 fM;subst fM;go_wp2_with fail
 refine MF.m ?_;intro w1 fM;subst fM;go_wp2;refine qBV (vv results185 _ _ w.heap.size (h,x,y,t-1) rfl (qB.new w (h,x,y,t-1))) rfl ?_;exact⟨rfl,zBr.alloc zNr _⟩
theorem Pg a cap l h w(hb:Bs w a cap l) :
  zC 185 #[.slice a l.length cap,zi h] w (zr (.tuple #[kV (gU l h),bc (aX l h)]) fun w'=>zB w w'):=by
 unfold gU;by_cases hc:aX l h=0
 ·rw[zy hc,hc,aC];exact z8 a cap l h w hb hc
 ·rw[zn hc];exact V9 a cap l h w hb hc
section
variable {α:Type} {enc:α->List Value} {k T:Nat}
def cX(enc:α->List Value)(k T:Nat)(w:World)(B:Nat)(v:Value)(l:List α):Prop:=w.ownsRow B T k v l.length (l.flatMap enc)
def fF(enc:α->List Value)(k:Nat)(w:World)(a:OA)(cap:Nat)(l:List α):Prop :=l.length<=cap/\(a=none->cap=0)/\l.length<=8796093021952/\(l≠[]->∃b off,a=some ⟨b,off,none⟩/\∀i x,l[i]?=some x->∀j u,(enc x)[j]?=some u->w.cell? ⟨b,off+i*k+j,none⟩=some u)
theorem P0(hk:∀x,(enc x).length=k)(l:List α):(l.flatMap enc).length=l.length*k:=by
 induction l with
 | nil=>simp
 | cons e r ih=>rw[qCB,zLa,ih,zLc,hk,Nat.succ_mul];omega
theorem Wv(hk:∀x,(enc x).length=k):∀ (l:List α) (i:Nat) (x:α),l[i]?=some x->∀j u,(enc x)[j]?=some u->(l.flatMap enc)[i*k+j]?=some u
 | [],i,x,h=>Yy
 | e::r,0,x,h=>by obtain rfl:e=x:=TH;intro j u hj;have aB:=(zLs hj).1;rw[qCB,Nat.zero_mul,qAl,qAZ aB];exact hj
 | e::r,i+1,x,h=>by intro j u hj;have:=Wv hk r i x TH j u hj;rw[qCB,qAR (by rw[hk,Nat.succ_mul];omega),hk,Nat.succ_mul,show i*k+k+j-k=i*k+j by omega];exact this
theorem cX.nil w B:cX enc k T w B (.slice none 0 0) []:=⟨Sk,.inl ⟨rfl,rfl⟩⟩
theorem cX.uM(hk:∀x,(enc x).length=k){l}(h:cX enc k T w B v l)(hl:l.length<=8796093021952):∃a c,v=.slice a l.length c/\fF enc k w a c l:=by
 rcases h.2 with ⟨rfl,h0⟩|⟨g,cap,cur,rfl,hB,hc,h3,h4,h5,h6⟩
 ·have:l=[]:=qAp h0;subst this;exact⟨none,0,rfl,zNr,fun _=>rfl,Sk,fun h=>absurd rfl h⟩
 ·refine⟨some (zp g),cap,rfl,h3,fun e=>TB,hl,fun _=>⟨g,0,rfl,fun i x hx j u hj=>?_⟩⟩;have q:=Wv hk l i x hx j u hj;have aB:=(zLs q).1;rw[P0 hk]at aB;rw[<-h6,qAi,zy aB]at q;rw[qAD _ _ _ _ _ _ hc,qAl];simpa using q
theorem cX.below{l}(h:cX enc k T w B v l)(hb:zB w w'):cX enc k T w' B v l:=by exact ud
theorem cX.shape{l}(h:cX enc k T w B v l):∃a m c,v=.slice a m c:=by exact NP
theorem cX.block{l}(h:cX enc k T w B v l):∀g,v.ownBlock=some g->B<=g:=by
 intro g hg;rcases h.2 with ⟨rfl,_⟩|⟨g',cap,cur,rfl,hB,_⟩
 ·cases hg
 ·simp[Value.ownBlock]at hg;omega
theorem fF.below{a}{l}(h:fF enc k w a cap l)(hb:zB w w'):fF enc k w' a cap l:=by obtain⟨h1,h2,h3,h4⟩:=h;refine⟨h1,h2,h3,fun aG=>?_⟩;obtain⟨b,off,rfl,hc⟩:=h4 aG;refine⟨b,off,rfl,fun i x hx j u hj=>?_⟩;have q:=hc i x hx j u hj;exact(hb.cell (qAA q)).trans q
theorem aS{ops}{rest}{o}{a}{Q}(oA:o.guard=none) s x(t:TypeId)(ho:o.op=.call { callee:=.builtin .append,args:=#[s,x],argTypes:=#[t,t]}) B(i0:TypeInfo) z bytes(ht:P.underlying t=some (.slice T))(hi:P.info? T=some i0)(hz:i0.zero=some z)(uh:i0.size=k)(iF:i0.bytes=bytes)(hzs:z.cells.size=k)(bW:0<k)(vQ:bytes<=100) v l(hs:a.eval s=v)(az:cX enc k T w B v l) g y(hx:a.eval x=.slice (zo g) 1 1)(hy:w.heap[g]?=some (.cells (enc y).toArray T (0,0)))(hk:(enc y).length=k)(h1:∀u∈enc y,u.oneCell'=true)(hn:l.length<=1000)(hB:B<=w.heap.size)(h:∀v' w',cX enc k T w' B v' (l++[y])->Below B w w'->wpList P ops Q rest (a.put o.dst v') w') :
  wpList P ops Q (o::rest) a w:=by
 refine qBU w oA s x t ho B T i0 z k bytes ht hi hz uh iF hzs bW v l.length (l.flatMap enc) hs az (zp g) 1 1 (enc y) hx zdg (fun j u hj=>?_) h1 Ts (qAF (qCg (show l.length+1<=1001 by omega) vQ) Si) hB ?_
 ·exact zgx
 ·intro v' w' sX oH _;exact zpa
end
def xY(e:(Int×I3)):List Value:=[zi e.1,zi e.2.1,zi e.2.2.1,zi e.2.2.2]
theorem pd e:(xY e).length=4:=rfl
theorem WD e:∀u∈xY e,u.oneCell'=true:=by
 intro u hu;unfold xY at hu;rcases zMc hu with rfl|hu
 ·rfl
 rcases zMc hu with rfl|hu
 ·rfl
 exact ve
theorem O7:(prog.info? 124).map (fun i=>(i.zero,i.size,i.bytes))=some (some (.agg #[zi 0,zi 0,zi 0,zi 0]),4,32):=SQ
theorem fF.nE{w:World}{b off cap:Nat}{l:List (Int×I3)}(hc:∀i x,l[i]?=some x->∀j u,(xY x)[j]?=some u->w.cell? ⟨b,off+i*4+j,none⟩=some u){i:Nat}{e:(Int×I3)}(h:l[i]?=some e) :
  w.cell? ⟨b,off+i*4,none⟩=some (zi e.1)/\w.cell? ⟨b,off+i*4+1,none⟩=some (zi e.2.1)/\w.cell? ⟨b,off+i*4+2,none⟩=some (zi e.2.2.1)/\w.cell? ⟨b,off+i*4+3,none⟩=some (zi e.2.2.2) :=
 ⟨hc i e h 0 _ rfl,hc i e h 1 _ rfl,hc i e h 2 _ rfl,hc i e h 3 _ rfl⟩
def Dl(r:(BA×Int)):List Value:=[.string r.1,zi r.2]
theorem tw r:(Dl r).length=2:=rfl
theorem VA r:∀u∈Dl r,u.oneCell'=true:=by intro u hu;unfold Dl at hu;exact ve
theorem Jb:(prog.info? 134).map (fun i=>(i.zero,i.size,i.bytes))=some (some (.agg #[.string ByteArray.empty,zi 0]),2,24):=SQ
theorem fF.root{w:World}{b off cap:Nat}{l:List (BA×Int)}(hc:∀i x,l[i]?=some x->∀j u,(Dl x)[j]?=some u->w.cell? ⟨b,off+i*2+j,none⟩=some u){i:Nat}{e:(BA×Int)}(h:l[i]?=some e) :
  w.cell? ⟨b,off+i*2,none⟩=some (.string e.1)/\w.cell? ⟨b,off+i*2+1,none⟩=some (zi e.2) :=
 ⟨hc i e h 0 _ rfl,hc i e h 1 _ rfl⟩
def Row(w:World)(B g c:Nat)(cur:Array Value)(l:LI):Prop :=B<=g/\w.heap[g]?=some (.cells cur 5 (0,0))/\l.length<=c/\cur.size=c/\cur.toList.take l.length=l.map (Value.int .u8)
theorem Row.bs(h:Row w B g c cur l)(hb:bZ l)(hl:l.length<=140737488351232):Bs w (zo g) c l:=by
 obtain⟨h1,h2,h3,h4,h5⟩:=h;refine⟨hb,h3,hl,fun e=>TB,fun _=>⟨g,0,rfl,fun i hi=>?_⟩⟩;rw[qAD _ _ _ _ _ _ h2];have e:(cur.toList.take l.length)[i]?=some (.int .u8 (l.getD i 0)):=by rw[h5];simp[List.getD,hi]
 rw[qAi,zy hi]at e;exact WI
theorem Row.zcq(h:Own w B g cap l):∃cur,Row w B g cap cur l:=by
 rcases h.2 with ⟨h',_⟩|⟨g',cap',cur,h',hb,h2,h3,h4,h5,h6⟩
 ·simp at h'
 ·simp only[qAS,qAQ,qBI,qBj,qBL]at h';obtain⟨rfl,rfl⟩:=h';exact⟨cur,hb,h2,h3,Sg,zlq⟩
def lB(w:World)(g:Nat)(cur:Array Value)(off:Nat)(l:LI):World:=w.setRow g (splice cur.toList off (l.map (Value.int .u8))).toArray
theorem sf{r:LI}(h:Row w B g c cur l)(fc:off+r.length<=l.length):Row (lB w g cur off r) B g c (splice cur.toList off (r.map (Value.int .u8))).toArray (splice l off r):=by
 obtain⟨h1,h2,h3,h4,h5⟩:=h;have hs:=length_splice fc;refine⟨h1,setRow_heap w g _ _ _ _ h2,by rw[hs];exact h3,?_,?_⟩
 ·rw[qBa,Go.length_splice _ _ _ Tb];simpa using h4
 ·rw[hs];have kS:l.length<=cur.toList.length:=by simp;omega
  generalize cur.toList=L at*;unfold splice;have e1:(L.take off)=(l.take off).map (Value.int .u8):=by rw[List.map_take,<-h5,qCO,qBr Sg]
  have e2:(L.drop (off+r.length)).take (l.length-off-r.length)=(l.drop (off+r.length)).map (Value.int .u8):=by rw[List.map_drop,<-h5,List.drop_take];exact Qm
  rw[List.take_append,List.take_append,qAc,qAc];have l1:(List.take off L).length=off:=VW;have t1:List.take l.length (List.take off L)=(l.take off).map (Value.int .u8):=by rw[qCO,qDL Sg];exact e1
  have t2:List.take (l.length-off) (r.map (Value.int .u8))=r.map (Value.int .u8):=qAP Tb;rw[l1,zLm,e2,t1,t2]
theorem qS{w0:World}(hb:Below B w0 w)(hBg:B<=g):Below B w0 (lB w g cur off l):=below_setRow hb hBg _
theorem nk w(dT sT ty:TypeId)(hu:P.underlying dT=some (.slice 5))(bW:(P.info? 5).map (·.size)=some 1) B g off dLen dCap c cur sp sCap z l(hl:l.length<=dLen)(h0:l≠[])(fc:off+l.length<=z.length)(hg:Row w B g c cur z)(hb:Bs w sp sCap l) :
  (Builtin.copy_ #[dT,sT] ty #[.slice (some ⟨g,off,none⟩) dLen dCap,.slice sp l.length sCap]).run P w=.ok (zi l.length) (lB w g cur off l):=by
 obtain⟨h1,h2,h3,h4,h5⟩:=hg;obtain⟨b,o2,rfl,hc⟩:=hb.2.2.2.2 h0;have cF:=run_copy_row (P:=P) w dT sT ty 5 g off dLen dCap ⟨b,o2,none⟩ l.length sCap cur 5 (l.map (Value.int .u8)) hu bW h2 (by simp[qBr hl]) ?_ Tb (ed l)
 ·rw[cF];simp[goInt,lB,splice]
 ·exact j7
theorem LX{t:TypeId}(hu:P.underlying t=some (.slice 5))(bW:(P.info? 5).map (·.size)=some 1) g c n p(hp:p<=n)(hn:n<=c)(aB:p<c) w' :
  (Instr.slice t (.slice (zo g) n c) (some (zi p)) none none).run P w'=.ok (.slice (some (zw g p)) (n-p) (c-p)) w':=by
 have he:=kG hu;rw[qDT (P:=P) (w:=w') t (zo g) n c UW .i64 p Sg Sg,he,eR w' bW];simp only[Result.andThen,sliced];exact zn3
theorem Qq a cap l w(hb:Bs w a cap l)(aG:l≠[]) :
  zC 233 #[.slice a l.length cap] w fun e w'=>∃g c,e=.returned (.slice (zo g) l.length c)/\Own w' w.heap.size g c l/\zB w w':=by
 obtain⟨i0,hi,cO,cU,cV⟩:=qAO dw;obtain⟨b,off,rfl,hc⟩:=hb.2.2.2.2 aG;have hl:=hb.2.2.1;have q22:=fun w a n c n' c'=>Lib.run_eql_slice_nil w _ _ a n c n' c' underlying29
 have HN:=ae (K3 (hb.below ((Below.refl _ w).alloc zNr (.cells #[] 5))));have ew:0<l.length:=by
  cases l with
  | nil=>exact absurd rfl aG
  | cons _ _=>simp
 go_enter func233,ntmps233
 go_wp2_with (at_builtin;refine qBU _ rfl _ _ 29 rfl w.heap.size 5 i0 (.int .u8 0) 1 1 underlying29 hi cO cU cV rfl Si _ _ _ rfl (World.ownsRow_made w #[] 0 zNr (qAH _) Sk) ⟨b,off,none⟩ l.length cap (l.map (Value.int .u8)) rfl Sk HN (ed l) Ts Sg Sk ?_)
 intro v' w1 az fE yH;obtain⟨g,c,rfl⟩:∃g c,v'=.slice (zo g) l.length c:=by
  rcases az.2 with ⟨_,h0⟩|⟨g,c,_,hv,_⟩
  ·omega
  ·exact⟨g,c,hv⟩
 have HO:=ae az;go_wp2;go_ret;exact⟨g,c,rfl,HO,((Below.refl _ w).alloc zNr _).grown fE Sk zj5⟩
theorem DK a cap l p ra rc r w(hb:Bs w a cap l)(hr:Bs w ra rc r)(h0:r≠[])(fc:p+r.length<=l.length) :
  zC 189 #[.slice a l.length cap,zi p,.slice ra r.length rc] w fun e w'=>∃a' c',e=.returned (.slice a' l.length c')/\Bs w' a' c' (splice l p r)/\zB w w':=by
 have xh:0<r.length:=by
  cases r with
  | nil=>exact absurd rfl h0
  | cons _ _=>simp
 have HC:=ae (Qq a cap l w hb zm7);have HR:=ae hr;have fC:=hb.2.2.1;have iE:=ae (dB (off:=p) hb.1 hr.1);go_enter func189,ntmps189
 go_wp2_with fail
 refine HC.mono ?_;rintro e w1 ⟨g,c,rfl,az,ay⟩;obtain⟨cur,bK⟩:=Row.zcq az;have hcut:=LX (P:=prog) underlying29 aT g c l.length p Sg bK.2.2.1 (by have:=bK.2.2.1;omega);have l9:Sem.run prog (Builtin.copy_ #[29,29] 3 #[.slice (some (zw g p)) (l.length-p) (c-p),.slice ra r.length rc]) w1=.ok (zi r.length) (lB w1 g cur p r) :=nk w1 _ _ _ underlying29 aT _ g p _ _ c cur ra rc l r Sg h0 fc bK (HR.below ay);have HW:=ae (sf bK fc);have HB:=ae (qS (cur:=cur) (l:=r) (off:=p) ay bK.1);go_wp2;go_ret;exact⟨_,c,rfl,HW.bs iE (by rw[length_splice fc];omega),HB⟩
theorem zbP x a l t(ht:0<=t/\t<=15):putK (putK ((af 5).set 0 (t+1)) 1 a 2) 3 l 2=fg (x,a,l,t):=by have e:(t+1)%256=t+1:=Sg;simp[putK,fg,af,e]
theorem Ar x a l t w(ht:0<=t/\t<=15)(ha:0<=a/\a<=65535)(hl:0<=l/\l<=65535) :
  zC 188 #[.agg #[zi x,zi a,zi l,zi t]] w fun e w'=>∃g,e=zt #[.slice (zo g) 5 5,.nilIface]/\Bs w' (zo g) 5 (fg (x,a,l,t))/\zB w w':=by
 obtain⟨i0,hi,cO,cU,cV⟩:=qAO dw;have gT:zB w (w.alloc (.cells #[zi x,zi a,zi l,zi t] 124)):=zBr.alloc zNr _;have qs:=ae (qB.new w (x,a,l,t));have iX:=ae gT;clear gT;obtain⟨t1,t2⟩:=ht;go_enter func188,ntmps188
 go_wp2_with (at_make;refine bV rfl _ _ 29 rfl i0 underlying29 hi cO cU cV _ _ _ _ 5 rfl rfl rfl rfl Sg ?_;intro w2 fR gN aK;rw[cJ]at fR gN;have gj:=qs.below aK Sk;obtain⟨c0,c1,c2,c3⟩:=gj.cells;have kS:=fR.cell 0 YS;have oI:=fR.frozen 0;have bz:=ae (iX.trans (aK.mono Sk));have Q1:=ae fR;have rF:=ae gj;clear fR aK gj)
 have Af:=Q1.set 0 (t+1);have bD:zB w (w2.setCell ⟨w.heap.size+1,0,none⟩ (.int .u8 (t+1))):=bz.setCell Y3 _;have Lx:qB (w2.setCell ⟨w.heap.size+1,0,none⟩ (.int .u8 (t+1))) w.heap.size (x,a,l,t):=(qAV _ _ _ _ (by show w.heap.size≠w.heap.size+1;omega)).trans rF;clear Q1 bz rF qs iX c0 c1 c2 c3 kS oI;generalize w2.setCell ⟨w.heap.size+1,0,none⟩ (.int .u8 (t+1))=w3 at*;have hR:=zbP x a l t ⟨t1,t2⟩;have oz:((af 5).set 0 (t+1)).length=5:=by simp[af]
 have iF:bZ ((af 5).set 0 (t+1)):=L7 (cI 5) 0 _ Sg;generalize (af 5).set 0 (t+1)=R0 at*;have nh:=ae (Dp (some ⟨w.heap.size+1,0,none⟩) R0.length R0 1 2 a w3 (Af.bs iF Sg) Sg Sg ha.1 (by show ¬oW ((2:Nat):Int)<a;simp[oW];omega) Sg);rw[oz]at nh;obtain⟨c0,c1,c2,c3⟩:=Lx.cells;have zlQ:=ae Lx;have dF:=ae bD;clear Af Lx bD;go_wp2_with fail
 refine nh.mono ?_;rintro e w4 ⟨g1,rfl,Mu,hk4,eU⟩;have zdC:=zlQ.below eU zlQ.lt;have fh:=zTr dF eU;have Dw:(putK R0 1 a 2).length=5:=by rw[cg];exact oz
 have zkT:bZ (putK R0 1 a 2):=sE iF 1 a 2;have Gg:=ae (Dp (zo g1) (putK R0 1 a 2).length (putK R0 1 a 2) 3 2 l w4 (hk4.bs zkT Sg) Sg Sg hl.1 (by show ¬oW ((2:Nat):Int)<l;simp[oW];omega) Sg);rw[Dw]at Gg;obtain⟨d0,d1,d2,d3⟩:=zdC.cells;have HR:=ae hR;have iE:=ae (sE zkT 3 l 2);have HL:=ae (cg (putK R0 1 a 2) 3 l 2);generalize putK R0 1 a 2=R1 at*;go_wp2_with fail
 refine Gg.mono ?_;rintro e w5 ⟨g2,rfl,um,hk5,il⟩;have HK5:=ae hk5;have oM:=zTr fh il;go_wp2;go_ret2;have h5:=HL.trans Dw;have aH:=HK5.bs iE Sg;rw[h5,aa HR]at aH;exact⟨g2,rfl,aH,oM⟩
def EM(w:World)(n:Nat):World:=w.alloc (.cells ((af n).map (Value.int .u8)).toArray 5)
theorem xa w n:gz (EM w n) w.heap.size (af n):=qAB w _
theorem lu w n:zB w (EM w n):=zBr.alloc zNr _
theorem nM w(n:Nat)(hn:n<=1000000):Sem.run prog (Instr.makeSlice 29 (zi n) (zi n)) w=.ok (.slice (some (zp w.heap.size)) n n) (EM w n):=by obtain⟨i0,hi,cO,cU,cV⟩:=qAO dw;have cF:=run_make (P:=prog) w 29 5 i0 _ underlying29 hi cO .i64 .i64 n n Sg Sg (by rw[cV];omega) Sg;rw[cF,cU,qCN,zTn];unfold EM;rw[<-yA,Array.toArray_toList]
theorem zef a cap l h w(hb:Bs w a cap l) :
  zC 133 #[.slice a l.length cap,zi h] w (Ends w (cK l h) (bc (aX l h))):=by
 have HC:=ae (xw a cap l h w hb);have h3:=hb.2.2.1;unfold cK;by_cases hc:aX l h=0
 ·obtain⟨oz,hh0,ht⟩:=aV.1 hc;rw[zy hc,hc,aC];rw[hc,aC]at HC;have jC:=cm.1 oz;have yI:=aN.1 hh0;have hp:=du yI.1 yI.2;have vK:=ag 5;have aG:af 5≠[]:=by intro e;rw[e]at vK;simp at vK
  have hd:zB w (EM w.drew 5):=(show zB w w.drew from⟨rfl,rfl,rfl,zNr,fun _ _=>rfl⟩).trans (lu w.drew 5);have HW:Hid (zC 189 #[.slice a l.length cap,zi (bT h),.slice (some (zp w.heap.size)) 5 5] (EM w.drew 5) fun e w'=>∃a' c',e=.returned (.slice a' l.length c')/\Bs w' a' c' (splice l (bT h) (af 5))/\zB w w'):=ae (by have:=DK a cap l (bT h) (some (zp w.heap.size)) (af 5).length (af 5) (EM w.drew 5) (hb.below hd) ((xa w.drew 5).bs (cI 5) Si) aG Sg;rw[vK]at this;exact this.mono fun e w' ⟨a',c',he,aH,ai⟩=>⟨a',c',he,aH,hd.trans (ai.mono hd.size)⟩);have HE:=ae (fun w'=>jU h w' yI.1 yI.2);have Db:=ae (length_splice (z:=l) (l:=af 5) (off:=bT h) Sg);have tN:∀w',Sem.run prog (Instr.makeSlice 29 (zi 5) (zi 5)) w'=.ok (.slice (some ⟨w'.heap.size,0,none⟩) 5 5) (EM w' 5):=fun w'=>nM w' 5 Si
  go_enter func133,ntmps133
  go_wp2_with fail
  refine HC.m ?_;rintro w1 rfl;go_wp2_with fail
  go_region_with (first|(go_at_call 190;refine(HE _).m ?_;rintro w2 rfl)|(go_at_call 189;refine HW.mono ?_;rintro e w3 ⟨a3,c3,rfl,nV,bD⟩))
  all_goals
   go_wp2;go_ret2;exact⟨a3,c3,zg4,nV,bD⟩
 ·rw[zn hc];rw[aF _ hc]at HC ⊢;generalize aX l h=c at*;go_enter func133,ntmps133
  go_wp2_with fail
  refine HC.m ?_;rintro w1 rfl;go_wp2;go_ret2;exact gi rfl rfl
theorem zls(len:Nat) x a l t w(hb:len<=140737488351232)(hq:ef len=false) :
  zC 187 #[zi len,.agg #[zi x,zi a,zi l,zi t]] w (zr (bc 3) fun w'=>zB w w'):=by
 rw[aF 3 Si];have HL:=ae (fun W=>dX len W);rw[hq]at HL;go_enter func187,ntmps187
 go_wp2_with (go_at_call 183;refine(HL _).m ?_;rintro w1 rfl)
 exact zhW
theorem zez(len:Nat) x a l t w(hb:len<=140737488351232)(hq:ef len=true)(hr:eC x=false\/(eC x=true/\GI t=false)\/(eC x=true/\GI t=true/\Nk l=false)) :
  zC 187 #[zi len,.agg #[zi x,zi a,zi l,zi t]] w (zr (bc 1) fun w'=>zB w w'):=by
 rw[aF 1 Si];have HL:=ae (fun W=>dX len W);have HH:=ae (fun W=>gK x W);have HT:=ae (fun W=>BD t W);have HS:=ae (fun W=>yC l W);rw[hq]at HL;rcases hr with h1 | ⟨h1,h2⟩ | ⟨h1,h2,h3⟩
 ·rw[h1]at HH;go_enter func187,ntmps187
  go_wp2_with (first|(go_at_call 183;refine(HL _).m ?_;rintro w1 rfl)|(go_at_call 229;refine(HH _).m ?_;rintro w1 rfl))
  exact zhW
 ·rw[h1]at HH;rw[h2]at HT;go_enter func187,ntmps187
  go_wp2_with (first|(go_at_call 183;refine(HL _).m ?_;rintro w1 rfl)|(go_at_call 229;refine(HH _).m ?_;rintro w1 rfl)|(go_at_call 230;refine(HT _).m ?_;rintro w1 rfl))
  exact zhW
 ·rw[h1]at HH;rw[h2]at HT;rw[h3]at HS;go_enter func187,ntmps187
  go_wp2_with (first|(go_at_call 183;refine(HL _).m ?_;rintro w1 rfl)|(go_at_call 229;refine(HH _).m ?_;rintro w1 rfl)|(go_at_call 230;refine(HT _).m ?_;rintro w1 rfl)|(go_at_call 231;refine(HS _).m ?_;rintro w1 rfl))
  exact zhW
theorem zey(len:Nat) x a l t w(hb:len<=140737488351232)(hq:ef len=true)(h1:eC x=true)(h2:GI t=true)(h3:Nk l=true)(h4:zaw len a l=false)(ha:-9223372036854775808<=a/\a<=9223372036854775807) :
  zC 187 #[zi len,.agg #[zi x,zi a,zi l,zi t]] w (zr (bc 3) fun w'=>zB w w'):=by
 rw[aF 3 Si];exact j6
theorem zlr len x a l t w(hq:ef len=true)(h1:eC x=true)(h2:GI t=true)(h3:Nk l=true)(h4:zaw len a l=true)(ha:-9223372036854775808<=a/\a<=9223372036854775807) :
  zC 187 #[zi len,.agg #[zi x,zi a,zi l,zi t]] w (zr (bc 0) fun w'=>zB w w'):=by
 rw[aC];exact j6
theorem xu L e w(hl:L.length<=140737488351232)(ha:-9223372036854775808<=e.2.1/\e.2.1<=9223372036854775807) :
  zC 187 #[zi L.length,kV e] w fun r w'=>r=.returned (bc (dJ L e))/\zB w w':=by
 obtain⟨x,a,l,t⟩:=e;dsimp only at ha;unfold kV;dsimp only;by_cases h0:dJ L (x,a,l,t)=0
 ·obtain⟨h1,h2,h3⟩:=df.1 h0;dsimp only at h2 h3;rw[h0];exact zlr L.length x a l t w h1 h2 (by unfold GI;rw[qAE h3.1,qAE h3.2.1];rfl) (by unfold Nk;rw[qAE h3.2.2.1,qAE h3.2.2.2.1];rfl) (by unfold zaw;rw[qAE h3.2.2.2.2.1,qAE Sg];rfl) ha
 ·have fin:∀c,dJ L (x,a,l,t)=c->(zC 187 #[zi L.length,.agg #[zi x,zi a,zi l,zi t]] w (zr (bc c) fun w'=>zB w w'))->zC 187 #[zi L.length,.agg #[zi x,zi a,zi l,zi t]] w (zr (bc (dJ L (x,a,l,t))) fun w'=>zB w w'):=fun c hc h=>by rw[hc];exact h
  by_cases h1:ef L.length=false
  ·refine fin 3 (by unfold dJ;rw[zy h1]) (zls L.length x a l t w hl h1)
  have vS:ef L.length=true:=Y9;by_cases h2:eC x=false\/t<0\/15<t\/l<1\/1000<l
  ·refine fin 1 (by unfold dJ;rw[zn h1,zy h2]) (zez L.length x a l t w hl vS ?_);cases e1:eC x with
   | false=>exact .inl rfl
   | true =>
    cases e2:GI t with
    | false=>exact .inr (.inl ⟨rfl,rfl⟩)
    | true =>
     refine .inr (.inr ⟨rfl,rfl,?_⟩);have htt:0<=t/\t<=15:=by unfold GI at e2;simpa using e2
     have hll:¬(1<=l/\l<=1000):=by
      rcases h2 with h2|h2
      ·rw[e1]at h2;cases h2
      ·omega
     unfold Nk;rw[qCj,qAt,qAt];omega
  have my:eC x=true:=by
   cases e:eC x with
   | true=>rfl
   | false=>exact absurd (.inl e) h2
  have Rt:=fun h=>h2 (.inr h)
  by_cases h4:a<288\/L.length-a<l
  ·refine fin 3 (by unfold dJ;rw[zn h1,zn h2,zy h4]) (zey L.length x a l t w hl vS my (by unfold GI;rw[qAE (show 0<=t by omega),qAE (show t<=15 by omega)];rfl) (by unfold Nk;rw[qAE (show 1<=l by omega),qAE (show l<=1000 by omega)];rfl) ?_ ha);unfold zaw;rw[qCj,qAt,qAt];omega
  ·exact zm2
def Oc(i:Int):Bool:=decide (0<=i)&&decide (i<8)
theorem vG n w :
  zC 237 #[zi n] w (zr (.bool (Oc n)) fun w'=>w=w'):=by
 unfold Oc;by_cases h1:0<=n
 ·rw[qAE h1,qCd];exact R9
 ·rw[qAG h1,qCa];exact R9
def im(l:LI):Int:=if isRoot l=true then (tU (fun j=>l.getD j 0 != 0) l.length:Nat)else -1
theorem CA{k}(hk:k<l.length)(h:(l.getD k 0 != 0)=true)(bQ:∀j,j<k->(l.getD j 0 != 0)=false):im l=k:=by
 have hr:isRoot l=true:=by unfold isRoot;refine qBH.2 ⟨l.getD k 0,?_,h⟩;exact Qj
 unfold im;rw[zy hr,(bS _ _).unique ⟨Sg,bQ,fun _=>h⟩]
theorem Cz(bQ:∀j,j<l.length->(l.getD j 0 != 0)=false):im l=-1:=by
 have hr:isRoot l=false:=by unfold isRoot;rw[qBz];intro x hx;obtain⟨j,hj,rfl⟩:=qAm hx;have:=bQ j hj;rw[show l.getD j 0=l[j] by simp[List.getD,hj]]at this;rw[this];simp
 unfold im;rw[zn (by rw[hr];simp)]
