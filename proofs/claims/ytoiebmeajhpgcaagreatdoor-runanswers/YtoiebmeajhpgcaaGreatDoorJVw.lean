import Derived.Test.YtoiebmeajhpgcaaGreatDoorJPh
import Derived.Deep.MidRow
set_option maxRecDepth 100000
set_option maxHeartbeats 16000000
set_option linter.all false
namespace Go.Proofs.YtoiebmeajhpgcaaGreatDoor
variable {i g L k:Nat}{z l:LI}{P:Program}
open Tryz
open Go.RowKit
section
open Go.MapKept
open Go.ChangeMaps
open Go.Maps (Keyed)
def oD(w:World)(bm:Nat)(M:List (Nat×LI)):Prop :=
 ∃D,w.ownsMap prog 3 Nn bm M.length D/\Maps.size D=M.length/\(M.map (·.1)).Nodup/\(∀z:Int,Maps.has D (.int .i64 z)=true->0<=z) /\
  ∀i:Nat,Maps.has D (.int .i64 i)=(M.lookup i).isSome/\∀b,M.lookup i=some b->D.atKey (.int .i64 i) (sd (af 32))=sd b
section
variable {w w':World} {bm:Nat} {M:List (Nat×LI)}
theorem oD.VY(h:oD w bm M):kn prog 3 w bm M:=by obtain⟨D,h1,_,_,_,h2⟩:=h;exact⟨D,h1,h2⟩
theorem oD.lt(h:oD w bm M):bm<w.heap.size:=h.VY.lt
theorem oD.same(h:oD w bm M)(hs:w'.heap[bm]?=w.heap[bm]?):oD w' bm M:=zgk
theorem oD.made(w:World):oD (w.alloc (.map #[] 0)) w.heap.size [] :=⟨.map [],World.ownsMap_made w _ _ _,rfl,List.nodup_nil,fun z hz=>Vt,fun i=>⟨rfl,fun b hb=>by cases hb⟩⟩
theorem Zi:(prog.info? 312).map (fun i=>(i.zero,i.size))=some (some (sv (af 32)),32):=SQ
theorem lp:(prog.info? 312).map (·.size)=some 32:=SQ
theorem Xh w:(zeroValue 312).run prog w=.ok (sv (af 32)) w:=(zero_of_info Zi).1 w
theorem oD.look(h:oD w bm M)(hi:i<300) :
  (Instr.lookup 313 (.map (some bm)) (zi i) true).run prog w=.ok (.tuple #[sv (tG M i),.bool (M.lookup i).isSome]) w:=by
 have:=h.VY.look (E:=312) underlying3 underlying313 (Xh w) true (i:=i) hi;exact V0
end
end
structure Vw (w:World) (v q gk gm:Nat) (K:List (LI)) (M:List (Nat×LI)):Prop where
 qq:w.heap[v]?=some (.cells #[zq q,.slice (zo gk) K.length K.length,.map (some gm)] 315 (0,0))
 kept:kY w gk 312 K.flatten
 sec:∀s∈K,kC s
 len:K.length<=200
 mem:oD w gm M
 zcL:∀x∈M,x.1<K.length/\kC x.2
 nvk:v≠gk
 nvm:v≠gm
 nkm:gk≠gm
def Mp(K:List (LI))(M:List (Nat×LI))(i:Nat):LI:=(M.lookup i).getD (K.getD i [])
section
variable {w w':World} {v q gk gm:Nat} {K:List (LI)} {M:List (Nat×LI)}
theorem Vw.c1(h:Vw w v q gk gm K M):w.cell? (zw v 1)=some (.slice (zo gk) K.length K.length):=by rw[qAD w v 1 _ _ (0,0) h.qq];rfl
theorem Vw.c2(h:Vw w v q gk gm K M):w.cell? (zw v 2)=some (.map (some gm)):=by rw[qAD w v 2 _ _ (0,0) h.qq];rfl
theorem Vw.vlt(h:Vw w v q gk gm K M):v<w.heap.size:=(zAg h.qq).1
theorem Vw.same(h:Vw w v q gk gm K M)(e1:w'.heap[v]?=w.heap[v]?)(e2:w'.heap[gk]?=w.heap[gk]?)(e3:w'.heap[gm]?=w.heap[gm]?):Vw w' v q gk gm K M :=⟨e1.trans h.qq,h.kept.same e2,h.sec,h.len,h.mem.same e3,h.zcL,h.nvk,h.nvm,h.nkm⟩
theorem Vw.below(h:Vw w v q gk gm K M)(hb:zB w w'):Vw w' v q gk gm K M :=h.same (hb.block v h.vlt) (hb.block gk h.kept.lt) (hb.block gm h.mem.lt)
theorem Vw.zjo(h:Vw w v q gk gm K M):∀s∈K,s.length=32:=fun s hs=>(h.sec s hs).1
theorem Vw.zik(h:Vw w v q gk gm K M)(hi:i<K.length):kC (Mp K M i):=by
 unfold Mp;cases e:M.lookup i with
 | none=>exact cZ h.sec hi
 | some b=>exact(h.zcL _ (gQ e)).2
theorem MP(h:Vw w v q gk gm K M) :
  zC 171 #[zq v] w (zr (zi ((32*K.length:Nat):Int)) fun w'=>w=w'):=by
 have c1:=h.c1;have hl:=h.len;generalize K.length=L at*;go_enter func171,ntmps171
 go_wp2;go_ret;exact⟨by rw[show((32*L:Nat):Int)=(L:Int)*32 by omega];first | rfl | go_num,rfl⟩
theorem RY(x:Nat) w(hx:x<=1000000) :
  zC 214 #[zi (x:Int)] w (zr (.tuple #[zi ((x / 32:Nat):Int),zi ((x%32:Nat):Int)]) fun w'=>w=w'):=by
 have h1:(x:Int).tdiv 32=((x / 32:Nat):Int):=zl7;have h2:(x:Int).tmod 32=((x%32:Nat):Int):=zl4;go_enter func214,ntmps214
 go_wp2;go_ret2;exact⟨by first | rfl | (congr 4 <;> omega) | (simp;omega),rfl⟩
theorem MQ(h:Vw w v q gk gm K M) x n(hx:x<=9223372036854775807)(hn:n<=9223372036854775807) :
  zC 213 #[zq v,zi x,zi n] w (zr (.bool (decide (0<=x/\0<=n/\n<=(32*K.length:Nat)-x))) fun w'=>w=w'):=by
 have HL:=ae (MP h);have hl:=h.len;generalize hLL:32*K.length=L at*;by_cases h0:0<=x
 ·by_cases h1:0<=n
  ·by_cases h2:n<=(L:Int)-x
   ·rw[qAE ⟨h0,h1,h2⟩];go_enter func213,ntmps213
    exact Ph
   ·rw[qAG (fun hh=>h2 hh.2.2)];go_enter func213,ntmps213
    go_wp2_with fail
    refine HL.m ?_;rintro w1 rfl;go_wp2;go_ret;exact⟨by show Ending.returned (Value.bool (decide (n<=(L:Int)-x)))=_;rw[qAG Sg],rfl⟩
  ·rw[qAG (fun hh=>h1 hh.2.1)];exact Sf
 ·rw[qAG (fun hh=>h0 hh.1)];exact Sf
end
section
variable {w w':World} {v q gk gm:Nat} {K:List (LI)} {M:List (Nat×LI)}
theorem Ii{w}(hg:kY w g 312 z)(hz:z.length=32)(hl:l.length=32) :
  (storeCells (zp g) (aL l).toList 0).run prog w=.ok () (fj w g l):=by
 have hi:(prog.info? 312).map (·.size)=some (aL l).size:=by rw[cf,hl];exact lp
 have:=run_storeVar_row (P:=prog) w g 312 312 (aL z) (aL l) hg hi (by rw[cf,cf,hz,hl]) (lD l);cases hq:prog.info? 312 with
 | none=>simp[hq]at hi
 | some i =>
  have hs:(aL l).size=i.size:=by simp[hq]at hi;omega
  show _=Result.ok () (w.setRow g (aL l))
  simpa[storeVar,sizeOf,typeInfo,hq,Value.cells,hs]using this
def two(w:World)(x y:LI):World:=(w.alloc (.cells (aL x) 312)).alloc (.cells (aL y) 312)
theorem A7 w x y:zB w (two w x y):=(zBr.alloc zNr _).alloc Sk _
theorem Dh w x y:kY (two w x y) w.heap.size 312 x:=by have h1:kY (w.alloc (.cells (aL x) 312)) w.heap.size 312 x:=qAB _ _;exact h1.same (qAb _ _ Sk)
theorem zfD w x y:kY (two w x y) (w.heap.size+1) 312 y:=by have:=qAB (w.alloc (.cells (aL x) 312)) (.cells (aL y) 312);rw[size_alloc]at this;exact this
theorem MT(h:Vw w v q gk gm K M) i(hi:i<K.length) b(hb:M.lookup i=some b) :
  zC 215 #[zq v,zi i] w (zr (sv b) fun w'=>zB w w'):=by
 have hL:=h.len;have fC:=(h.zcL _ (gQ hb)).2.1;have hA:=h.below (w':=w.alloc (.cells zv 312)) (zBr.alloc zNr _);have cN:=hA.mem.look (i:=i) Sg;have CZ:tG M i=b:=zlo;rw[CZ,hb]at cN;simp only[qDB]at cN;unfold sv at cN;have c2:=hA.c2;have bW:(aL b).size=32:=by rw[cf];exact fC
 have eF:(storeCells ⟨w.heap.size+1,0,none⟩ (aL b).toList 0).run prog ((w.alloc (.cells zv 312)).alloc (.cells zv 312))=.ok () (two w (af 32) b):=by have:=run_storeCells_new (P:=prog) (w.alloc (.cells zv 312)) 312 zv (aL b) (by rw[bW];exact lp) (by rw[bW];rfl) (lD b);rw[size_alloc]at this;exact this
 have HS:=ae (zfD w (af 32) b);have xE:=Ii (Dh w (af 32) b) (ag 32) fC;have HR:=ae ((Dh w (af 32) b).set b);have aJ:=ae (e8 b (A7 w (af 32) b) zNr);generalize two w (af 32) b=W2 at*;go_enter func215,ntmps215
 go_wp2_with (refine wpList_load_row rfl 312 (.tmp 5) rfl (w.heap.size+1) rfl 312 (aL b) (0,0) _ HS underlying312 rfl (by rw[bW];exact lp) ?_)
 exact zot
theorem R3(h:Vw w v q gk gm K M) i(hi:i<K.length)(hb:M.lookup i=none) :
  zC 215 #[zq v,zi i] w (zr (sv (K.getD i [])) fun w'=>zB w w'):=by
 have hL:=h.len;obtain⟨b,Gy⟩:∃b,K.getD i []=b:=⟨_,rfl⟩;have aH:kC b:=by rw[<-Gy];exact cZ h.sec hi
 have fC:=aH.1;have hA:=h.below (w':=w.alloc (.cells zv 312)) (zBr.alloc zNr _);have cN:=hA.mem.look (i:=i) Sg;have CZ:tG M i=af 32:=zlo;rw[CZ,hb]at cN;simp only[qDA]at cN;unfold sv at cN;have c2:=hA.c2;have bW:(aL b).size=32:=by rw[cf];exact fC
 have TT:(aL (af 32)).size=32:=by rw[cf];exact ag 32
 have eF:(storeCells ⟨w.heap.size+1,0,none⟩ (aL (af 32)).toList 0).run prog ((w.alloc (.cells zv 312)).alloc (.cells zv 312))=.ok () (two w (af 32) (af 32)):=by have:=run_storeCells_new (P:=prog) (w.alloc (.cells zv 312)) 312 zv (aL (af 32)) (by rw[TT];exact lp) (by rw[TT];rfl) (lD (af 32));rw[size_alloc]at this;exact this
 have h2:=h.below (A7 w (af 32) (af 32));have c1:=h2.c1;have hrg:=IF (i*32) b fC h2.kept (by rw[BW _ _ h.zjo hi,Gy]);have hu:=underlying312;have fu:(prog.info? 312).map (·.size)=some (b.map (Value.int .u8)).length:=by rw[zLm,fC];exact lp
 have xE:(storeCells (zp w.heap.size) (b.map (Value.int .u8)) 0).run prog (two w (af 32) (af 32))=_:=Ii (Dh w (af 32) (af 32)) (ag 32) fC;have HR:=ae ((Dh w (af 32) (af 32)).set b);have aJ:=ae (e8 b (A7 w (af 32) (af 32)) zNr);rw[Gy];have e0:(i:Int)<(K.length:Int):=Sg;generalize aL (af 32)=Z,two w (af 32) (af 32)=W2 at*;go_enter func215,ntmps215
 go_wp2_with (refine wpList_load_mid rfl 312 (.tmp 23) rfl gk (i*32) rfl (b.map (Value.int .u8)) _ hrg hu rfl fu ?_)
 exact zot
theorem Xp(h:Vw w v q gk gm K M) i(hi:i<K.length) :
  zC 215 #[zq v,zi i] w (zr (sv (Mp K M i)) fun w'=>zB w w'):=by
 unfold Mp;cases hc:M.lookup i with
 | none=>exact R3 h i hi hc
 | some b=>exact MT h i hi b hc
end
theorem Kz w(dT sT ty:TypeId)(hu:P.underlying dT=some (.slice 5))(bW:(P.info? 5).map (·.size)=some 1){t off dLen dCap:Nat}{sp}{sCap}(aG:l≠[])(hz:off+dLen<=z.length)(hg:kY w g t z)(hb:Bs w sp sCap l) :
  (Builtin.copy_ #[dT,sT] ty #[.slice (some ⟨g,off,none⟩) dLen dCap,.slice sp l.length sCap]).run P w=.ok (zi ((min dLen l.length:Nat):Int)) (fj w g (splice z off (l.take dLen))):=by
 obtain⟨b,o2,rfl,hc⟩:=hb.2.2.2.2 aG;have cF:=run_copy_row (P:=P) w dT sT ty 5 g off dLen dCap ⟨b,o2,none⟩ l.length sCap _ t ((l.take dLen).map (Value.int .u8)) hu bW hg (by simp;exact Nat.min_comm _ _) ?_ (by simp[aL];omega) (ed _)
 ·rw[cF];simp[goInt,fj,splice,aL]
 ·intro j v hj;have o7:j<(l.take dLen).length:=by
   rcases qBT j (l.take dLen).length with h1|h1
   ·exact h1
   ·rw[qAY Y9]at hj;cases hj
  have Hd:j<l.length/\j<dLen:=by simp at o7;omega
  have:=hc j Hd.1;rw[qBN,qAi,zy Hd.2,zLg Hd.1]at hj;simp only[qDS,qAQ]at hj;subst hj;rw[addr_add,this,qAC,zLg Hd.1];rfl
theorem zep{t:TypeId}(hu:P.underlying t=some (.slice 5))(bW:(P.info? 5).map (·.size)=some 1) g c n(h:c<n)(hn:n<=140737488351232) w' :
  (Instr.slice t (.slice (zo g) n n) (some (zi c)) none none).run P w'=.ok (.slice (some (zw g c)) (n-c) (n-c)) w':=by
 have he:=kG hu;rw[qDT (P:=P) (w:=w') t (zo g) n n UW .i64 c Sg Sg,he,eR w' bW];simp only[Result.andThen,sliced,Addr.add];simp;split <;> simp <;> omega
theorem Nc a l k(h:l.length<=k):splice (a++af k) a.length l=(a++l)++af (k-l.length):=by
 unfold splice;rw[List.take_left,qBO]
 congr 2
 rw[qCK,List.drop_of_length_le Sg,qAg];unfold af;rw[List.drop_replicate];exact Qm
def qm(K:List (LI))(M:List (Nat×LI))(x:Nat):Int:=(Mp K M (x / 32)).getD (x%32) 0
def fW(K:List (LI))(M:List (Nat×LI))(x n:Nat):LI:=(List.range n).map (fun j=>qm K M (x+j))
theorem nz K M x n:(fW K M x n).length=n:=by unfold fW;simp
theorem RZ K M x n m:fW K M x (n+m)=fW K M x n++fW K M (x+n) m:=by
 unfold fW;rw[List.range_add,qAc,qDK]
 congr 1
 apply qCw;intro j _
 show qm K M (x+(n+j))=qm K M (x+n+j)
 rw[qBq]
theorem MR{K}{M}{y c}(hl:(Mp K M (y / 32)).length=32)(hc:c<=32-y%32):((Mp K M (y / 32)).drop (y%32)).take c=fW K M y c:=by
 apply List.ext_getElem?;intro j;unfold fW;rw[qBN,qAi];by_cases hj:j<c
 ·rw[zy hj,qCv hj,qBJ];simp only[qDS];unfold qm;have e1:(y+j) / 32=y / 32:=by omega
  have e2:(y+j)%32=y%32+j:=Sg;rw[e1,e2,qAC,zLg Sg];rfl
 ·rw[zn hj,qAY Tb];rfl
section
variable {w w':World} {v q gk gm:Nat} {K:List (LI)} {M:List (Nat×LI)}
theorem Xo(h:Vw w v q gk gm K M) x n(hx:x+n<=32*K.length) :
  zC 170 #[zq v,zi (x:Int),zi (n:Int)] w fun e w'=>∃g,e=zt #[.slice (zo g) n n,.nilIface]/\w.heap.size<=g/\gz w' g (fW K M x n)/\zB w w':=by
 have hL:=h.len;have hh:=MQ h x n Sg Sg;rw[qAE Sg]at hh;have HH:=ae hh;have H:=ae h;obtain⟨i0,dU,cO,cU,cV⟩:=qAO dw;clear h hh;have hn6:n<=6400:=Sg;go_enter func170,ntmps170
 go_wp2_with fail
 refine HH.m ?_;rintro w1 rfl;go_wp2_with (at_make;refine bV rfl _ _ 29 rfl i0 underlying29 dU cO cU cV _ _ _ _ n rfl rfl rfl rfl Sg ?_)
 intro w1 kF fQ ay;have DH:=ae kF;have aQ:=ae ay;clear kF ay HH;go_wp2_with fail
 go_loopw [9] (fun u wr=>∃d:Nat,d<=n/\u=zi d/\gz wr w.heap.size (fW K M x d++af (n-d))/\zB w wr) (fun u _=>n-(intOf u).toNat)
 case atStart=>exact⟨0,qAH _,rfl,DH,aQ⟩
 case round =>
  obtain⟨d,hd,rfl,hblk,ai⟩:=hrel;clear DH aQ;by_cases aB:d<n
  ·have hv:=H.below ai;have si:=RY (x+d) wr Sg;rw[show((x+d:Nat):Int)=(x:Int)+(d:Int) by omega]at si;have PE:=Xp hv ((x+d) / 32) Sg;have fI:=hv.zik (i:=(x+d) / 32) Sg;have kA:(x+d)%32<32:=Nat.mod_lt _ Sg;obtain⟨c,hc⟩:∃c,min (n-d) (32-(x+d)%32)=c:=⟨_,rfl⟩;have eT:0<c/\c<=n-d/\c<=32-(x+d)%32:=by omega
   have ziu:=MR (K:=K) (M:=M) (y:=x+d) (c:=c) fI.1 Sg;have zhu:=RZ K M x d c;have uO:((Mp K M ((x+d) / 32)).drop ((x+d)%32)).take (n-d)=((Mp K M ((x+d) / 32)).drop ((x+d)%32)).take c:=by
    rcases Nat.le_total (n-d) (32-(x+d)%32)with h1|h1
    ·rw[show c=n-d by omega]
    ·rw[show c=32-(x+d)%32 by omega,qAP (by simp[fI.1];omega),qAP (by simp[fI.1])]
   rw[ziu]at uO;generalize sl:(x+d) / 32=pg at*;generalize hfm:(x+d)%32=fr at*;generalize hpb:Mp K M pg=pb at*;unfold sv at PE;have yZ:=ae si;have HBO:=ae PE;have H5:=ae hblk;have aJ:=ae ai;clear hv si PE hblk ai ziu;go_wp2_with fail
   refine yZ.m ?_;rintro w2 rfl;go_wp2_with fail
   refine HBO.m ?_;intro w2 aK;have eF:(storeCells (zp w2.heap.size) (aL pb).toList 0).run prog (w2.alloc (.cells zv 312))=.ok () (w2.alloc (.cells (aL pb) 312)) :=run_storeCells_new w2 312 zv (aL pb) (by rw[cf,fI.1];exact lp) (by rw[cf,fI.1];rfl) (lD pb);have bW:(aL pb).size=32:=by rw[cf];exact fI.1
   have eX:kY (w2.alloc (.cells (aL pb) 312)).drew w2.heap.size 312 pb:=qAB _ _;have zhb:Bs (w2.alloc (.cells (aL pb) 312)).drew (some ⟨w2.heap.size,fr,none⟩) (32-fr) (pb.drop fr):=by have:=eX.bs fI.2 (by rw[fI.1];decide) fr (32-fr) (32-fr) (by rw[fI.1];omega) zNr;rwa[qAP (by simp[fI.1])]at this
   have jz:zB wr (w2.alloc (.cells (aL pb) 312)).drew:=(aK.alloc aK.size _).trans ⟨rfl,rfl,rfl,zNr,fun _ _=>rfl⟩;have ZL:zB w (w2.alloc (.cells (aL pb) 312)).drew:=zTs aJ jz;have zkL:kY (w2.alloc (.cells (aL pb) 312)).drew w.heap.size 5 (fW K M x d++af (n-d)):=H5.below jz;have hll:(pb.drop fr).length=32-fr:=by simp[fI.1]
   have yJ:=Kz (P:=prog) (w2.alloc (.cells (aL pb) 312)).drew 29 29 3 underlying29 aT (off:=d) (dLen:=n-d) (dCap:=n-d) (by intro e;rw[e]at hll;simp at hll;omega) (by rw[zLa,nz,ag];omega) zkL zhb;have znn:splice (fW K M x d++af (n-d)) d ((pb.drop fr).take (n-d))=fW K M x (d+c)++af (n-(d+c)):=by have:=Nc (fW K M x d) (fW K M (x+d) c) (n-d) (by rw[nz];omega);rw[nz,nz]at this;rw[uO,this,<-zhu,show n-d-c=n-(d+c) by omega]
   rw[znn,hll,hc]at yJ;have hif:(if 32=fr then ((zp w2.heap.size):Addr)else ⟨w2.heap.size,fr,none⟩)=⟨w2.heap.size,fr,none⟩:=zn Sg;rw[<-hif]at yJ;have Rw:Hid (IntKind.i64.wrap ((d:Int)+(c:Int))=((d+c:Nat):Int)):=ae zaO;have hcut:=fun w'=>zep (P:=prog) (t:=29) underlying29 aT w.heap.size d n aB Sg w'
   have HCP:=ae yJ;have gY:=ae (kr zkL (fW K M x (d+c)++af (n-(d+c))));have bz:=ae (e8 (fW K M x (d+c)++af (n-(d+c))) ZL zNr);have e0:(0:Int)<=(fr:Int):=Sg;have e1:(fr:Int)<=32:=Sg;clear eX zhb jz ZL zkL yJ znn aK uO zhu hpb yZ HBO H5 aJ;generalize hZZ:fW K M x (d+c)++af (n-(d+c))=ZZ at*;have HZZ:=ae hZZ;clear hZZ hif;go_wp2_with fail
   go_region_law (refine GJ Tq (.tmp 37) (.tmp 39) 29 29 Tq (.slice (some (zw w.heap.size d)) (n-d) (n-d)) (.slice (some (if 32=fr then (zp w2.heap.size)else ⟨w2.heap.size,fr,none⟩)) (32-fr) (32-fr)) Tq Tq (zi c) (fj (w2.alloc (.cells (aL pb) 312)).drew w.heap.size ZZ) HCP ?_)
   go_wp2;go_roundw
   case rel=>exact⟨d+c,Sg,by rw[aa Rw],by rw[aa HZZ];exact gY,bz⟩
   case measure=>rw[aa Rw];exact Te
  ·obtain rfl:d=n:=by omega
   rw[qCY,show af 0=[]from rfl,qAh]at hblk;have H5:=ae hblk;have aJ:=ae ai;clear hblk ai;go_wp2;go_ret2;exact⟨_,rfl,zNr,H5,aJ⟩
end
section
variable {w w':World} {v q gk gm:Nat} {K:List (LI)} {M:List (Nat×LI)}
end
section
variable {w w':World} {v q gk gm:Nat} {K:List (LI)} {M:List (Nat×LI)}
end
def kN(D:DS)(L:Nat):List (LI):=(List.range L).map (fun i=>D.rd (48+i))
theorem ks D L:(kN D L).length=L:=by unfold kN;simp
theorem O0 D k:kN D (k+1)=kN D k++[D.rd (48+k)]:=by unfold kN;rw[qBl,qAc];rfl
theorem O1 D(hi:i<L):(kN D L).getD i []=D.rd (48+i):=by unfold kN;rw[qAC,qBN,qCv hi];rfl
def qa(D:DS)(L k:Nat):List (LI):=kN D k++List.replicate (L-k) (af 32)
theorem Za D(hk:k<L):(qa D L k).set k (D.rd (48+k))=qa D L (k+1):=by unfold qa;have e:L-k=(L-(k+1))+1:=Sg;rw[e,List.replicate_succ,O0,qBO,List.set_append];rw[ks,zn Sg,qCY];rfl
theorem I7{D}(jB:D.Ok)(hL:48+L<=D.secs.length)(hk:k<=L):∀s∈qa D L k,kC s:=by
 intro s hs;unfold qa kN at hs;rcases zMa hs with h|h
 ·obtain⟨i,hi,rfl⟩:=qAT.1 h;have:=qAw.1 hi;exact jB.rd Sg
 ·rw[(List.mem_replicate.1 h).2];exact mF
theorem TI D L:(qa D L 0).flatten=af (L*32):=by unfold qa kN;exact Fy L
theorem tJ D(hk:k<=L):(qa D L k).length=L:=by unfold qa;rw[zLa,ks,qBW];omega
theorem TP:(prog.info? 312).map (fun i=>(i.zero,i.size,i.bytes))=some (some (sv (af 32)),32,32):=SQ
section
variable {w:World} {p q:Nat} {S:Nat->Prop} {D:DS} {s:Int}
theorem za0(h:td w p S D)(hq:eE w q p s)(hL:eo D.secs.length=L)(hL1:L<=200)(Wo:48+L<=D.secs.length)(hd:D.down=false) :
  zC 169 #[zq q] w fun e w'=>∃v gk gm,e=zt #[zq v,.nilIface]/\Vw w' v q gk gm (kN D L) []/\w.heap.size<=gk/\w.heap.size<=gm/\w.heap.size<=v/\zB w w':=by
 have jE:=EB h hq;rw[hL]at jE;have jD:=ae jE;have HOK:=ae h.ok;have uV:Hid (∀ (w1:World) (k:Nat),zB w w1->k<L->zC 212 #[zq q,zi k] w1 fun e w'=>∃g,e=zt #[.slice (zo g) 32 32,.nilIface]/\w1.heap.size<=g/\gz w' g (D.rd (48+k))/\zB w1 w') :=ae (fun w1 k hb hk=>Yv (h.below hb) (hq.below hb) k (qAE ⟨Sg,by rw[hL];omega⟩) hd);have Jg:=@run_makeMap prog;obtain⟨i0,dU,cO,cU,cV⟩:=qAO TP;clear h hq jE;go_enter func169,ntmps169
 go_wp2_with fail
 refine jD.m ?_;rintro w1 rfl;go_wp2_with (at_make;refine rM rfl _ _ 310 312 rfl i0 underlying310 dU cO cU cV _ _ _ _ L rfl rfl rfl rfl Sg ?_)
 go_loopw [13] (fun u wr=>∃k:Nat,k<=L/\u=zi k/\kY wr w.heap.size 312 (qa D L k).flatten/\zB w wr) (fun u _=>L-(intOf u).toNat)
 case atStart=>exact⟨0,qAH _,rfl,by rw[TI];exact zu w _ _,zBr.alloc zNr _⟩
 case round =>
  obtain⟨k,hk,rfl,bK,ai⟩:=hrel;by_cases aB:k<L
  ·have HR:=ae (uV wr k ai aB);have uJ:=ae bK;have aJ:=ae ai;have bW:=ai.size;clear bK ai;go_wp2_with fail
   refine HR.mono ?_;rintro e w2 ⟨gr,rfl,hgr,aK,oJ⟩;have xR:=uJ.same (oJ.block w.heap.size uJ.lt);have hks:=I7 HOK Wo hk;have Aj:∀s∈qa D L k,s.length=32:=fun s hs=>(hks s hs).1
   have fI:kC (D.rd (48+k)):=HOK.rd Sg;have yJ:=nj (P:=prog) w2 29 29 3 underlying29 aT (dCap:=32) (off:=k*32) (by rw[yL _ Aj,tJ D hk,fI.1];omega) xR (rC aK fI);rw[vZ _ _ _ Aj (by rw[tJ D hk];exact aB) (by rw[fI.1];exact zNr),fI.1,List.drop_of_length_le (by rw[(cZ hks (by rw[tJ D hk];exact aB)).1];exact zNr),qAh,Za D aB]at yJ;have HR3:=ae (xR.set (qa D L (k+1)).flatten);have dF:=ae (e8 (qa D L (k+1)).flatten (aJ.trans (oJ.mono bW)) zNr);have e0:(k:Int)<(L:Int):=Sg;go_wp2;go_roundw
   case rel=>exact⟨k+1,Sg,Tc,HR3,dF⟩
   case measure=>exact Te
  ·obtain rfl:k=L:=by omega
   have uJ:=ae bK;have aJ:=ae ai;have bW:=ai.size;have Pt:=bK.lt;go_wp2;go_ret2;have kP:=aa uJ;unfold qa at kP;rw[qCY,List.replicate_zero,qAh]at kP;refine⟨wr.heap.size+1,w.heap.size,wr.heap.size,rfl,?_,zNr,bW,Sg,(aJ.alloc bW _).alloc Tb _⟩;refine⟨?_,(kP.same (qAb _ _ Pt)).same (qAb _ _ Tb),?_,by rw[ks];exact hL1,(oD.made wr).same (qAb _ _ Sk),fun x hx=>TG,Sg,Sg,Sg⟩
   ·have:=qAB (wr.alloc (.map #[] 0)) (.cells #[zq q,.slice (some (zp w.heap.size)) k k,.map (some wr.heap.size)] 315);rw[size_alloc]at this;rw[ks];exact this
   ·have:=I7 HOK Wo (Nat.le_refl k);unfold qa at this;rw[qCY,List.replicate_zero,qAh]at this;exact this
