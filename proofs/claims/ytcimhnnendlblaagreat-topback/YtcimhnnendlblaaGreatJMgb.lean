/-
  Parts of the proofs.
-/
import Derived.Test.YtcimhnnendlblaaGreatJMga
import Derived.Test.YtcimhnnendlblaaGreatJIl
import Derived.Test.YtcimhnnendlblaaGreatJRh
import Derived.Test.YtcimhnnendlblaaGreatJOl
set_option maxRecDepth 100000
set_option maxHeartbeats 16000000
set_option linter.all false
namespace Go.Proofs.YtcimhnnendlblaaGreat
open Go.RowKit
section
open Go.MapKept
open Go.ChangeMaps
def xT(R:List (ByteArray×Int)):ByteArray->Option Int:=fun s=>(R.find? (fun r=>r.1 == s)).map (·.2)
theorem qK(R:List (ByteArray×Int))(s:ByteArray):(xT R s).getD 0=aU R s:=rfl
theorem WD{R:List (ByteArray×Int)}{r:(ByteArray×Int)}(hn:∀ q∈R,q.1≠r.1):xT (R++[r])=tQ (xT R) r.1 (some r.2):=by
 funext s;unfold xT tQ;rw [List.find?_append];by_cases e:s=r.1
 ·subst e;have h0:R.find? (fun q=>q.1 == r.1)=none:=List.find?_eq_none.2 (fun q hq h=>hn q hq (fF.1 h));rw [if_pos rfl,h0];have h1:List.find? (fun q:(ByteArray×Int)=>q.1 == r.1) [r]=some r:=List.find?_cons_of_pos (p:=fun q:(ByteArray×Int)=>q.1 == r.1) (fF.2 rfl);rw [h1];rfl
 ·rw [if_neg e];have h1:List.find? (fun q:(ByteArray×Int)=>q.1 == s) [r]=none:=List.find?_eq_none.2 (fun q hq h=>by rw [zMs hq] at h;exact e (fF.1 h).symm);rw [h1,Option.or_none]
def xu(w:World)(L:List Int)(W:World)(g:Nat):Prop:=Mp fY W g 8 (xT (ak L 8))
theorem zhe(w0:World)(a:Option Addr)(cap:Nat)(L:List Int)(w:World)(SV:Bs w0 a cap L)(hw0:Below w0.heap.size w0 w)(hf:aB L) :
  Calls Tryz.prog 51 #[.slice a L.length cap] w fun e w'=>∃ g,e=.returned (.tuple #[.map (some g),.nilIface])/\w.heap.size<=g/\xu w0 L w' g/\Below w.heap.size w w':=by
 unfold xu;have aX:=SV.below hw0;clear SV hw0;have HR:=af (mj a cap L w aX hf.cW);have Qu:=af (fun(r:(ByteArray×Int)) (h:r∈ak L 8)=>s7 h);have hlen:=eA L 8;have iq:=aX.2.2.1;have D1:=@run_makeMap Tryz.prog;have UC:=af (dN hf.ok);generalize ak L 8=R at *;clear aX hf;go_enter Tryz.func51,Tryz.ntmps51
 go_wp2_with fail
 refine(ae HR).mono ?_;rintro e w1 ⟨v1,rfl,cz,ay⟩;obtain⟨a1,c1,rfl,dL⟩:=cz.kk mX (by omega);have mB:=af dL;have aL:=af ay;have nF:=ay.size;clear cz dL ay HR;go_wp2_with fail
 go_loopw [20] (fun iv wr=>∃ k:Nat,k<=R.length/\iv=.int .i64 (k:Int)/\Mp fY wr w1.heap.size k (xT (R.take k))/\Below w1.heap.size w1 wr) (fun iv _=>R.length-(intOf iv).toNat)
 case atStart=>exact⟨0,Nat.zero_le _,rfl,Mp.made fY w1,zBr.alloc zNr _⟩
 case round =>
  obtain⟨k,hk,rfl,GQ,ao⟩:=hrel;by_cases aM:k<R.length
  ·obtain⟨b1,o1,rfl,dR⟩:=((ae mB).below ao).2.2.2 (by intro e;rw [e] at aM;simp at aM);obtain⟨r,hr⟩:∃ r,R[k]?=some r:=⟨R[k],zLg aM⟩;obtain⟨q0,q1⟩:=fG.root (cap:=0) dR hr;have JC:=List.mem_of_getElem? hr;have cL:=ae Qu r JC;have jf:=(ae UC).pos r JC;have da:=EB (ae UC) hr;have pY:xT (R.take (k+1))=tQ (xT (R.take k)) r.1 (some r.2):=by rw [List.take_add_one,hr];exact WD da
   have fp:Below wr.heap.size wr (wr.alloc (.cells #[.string r.1,.int .i64 r.2] 152)):=zBr.alloc zNr _;obtain⟨w2,jw,Nf,j5⟩:=(GQ.below fp).store (by unfold maxLen;omega) (k:=r.1) (show r.1.size<=maxLen by unfold maxLen;omega) (zef (v:=r.2) (by omega));have Xj:(Instr.mapUpdate 112 (.map (some w1.heap.size)) (.string r.1) (.int .i64 r.2)).run Tryz.prog (wr.alloc (.cells #[.string r.1,.int .i64 r.2] 152))=.ok () w2:=jw;rw [<- pY] at Nf;have mI:=ao.trans (fp.mono ao.size);have br:=af (mI.grown j5.grown mI.size (fun j hj=>by cases hj;exact zNr));have Cz:=af Nf;have g1:=block_lt_of_cell q0;obtain⟨s,h⟩:=r;dsimp only at *;clear dR hr JC cL jf da pY fp Nf j5 mI GQ ao jw;go_wp2;go_roundw
   case rel=>exact⟨k+1,by omega,by go_num,ae Cz,ae br⟩
   case measure=>simp [intOf];omega
  ·have AJ:k=R.length:=by omega
   rw [AJ,List.take_length] at GQ;have HL:=af (GQ.mono (m:=8) (by omega));have br:=zTr aL ao;have tJ:¬ ((k:Int)<(R.length:Int)):=by omega
   clear AJ aM hk GQ ao;go_wp2;go_ret2;exact⟨_,rfl,nF,ae HL,ae br⟩
end
section
open Go.Shelf
def vM(F G:Int->Option OV)(ks:List Int):Int->Option OV:=fun k=>if ks.any (fun y=>decide (y=k))=true then G k else F k
theorem iD{ks:List Int}{k:Int}:ks.any (fun y=>decide (y=k))=true ↔ k∈ks:=by rw [List.any_eq_true];exact⟨fun⟨y,h1,h2⟩=>by rw [<- of_decide_eq_true h2];exact h1,fun h=>⟨k,h,decide_eq_true rfl⟩⟩
theorem OR{F G:Int->Option OV}{ks:List Int}{x:Int}:tQ (vM F G ks) x (G x)=vM F G (ks++[x]):=by
 funext k;unfold tQ vM;by_cases e:k=x
 ·subst e;rw [if_pos rfl,if_pos (iD.2 (by simp))]
 ·rw [if_neg e];by_cases h:k∈ks
  ·rw [if_pos (iD.2 h),if_pos (iD.2 (by simp [h]))]
  ·rw [if_neg (fun q=>h (iD.1 q)),if_neg (fun q=>by have:=iD.1 q;simp [h,e] at this)]
theorem zgX(go gb n m:Nat)(F G:Int->Option OV)(a:Option Addr)(c:Nat)(ks:List Int)(w:World)(hF:Mp fI w go n F)(hG:Mp fI w gb m G)(aO:go≠gb)(hk:fG kY 1 w a c ks)(dy:∀ k∈ks,(fI).vA k)(hl:ks.length<=1000)(hn:n<=10000) :
  Calls Tryz.prog 109 #[.map (some go),.map (some gb),.slice a ks.length c] w fun e w'=>e=.returned (.tuple #[])/\Mp fI w' go (n+ks.length) (vM F G ks)/\w.grownBy w' (some go):=by
 have HF:=af hF;have HG:=af hG;have yx:=af dy;have HS:=af hk;have mH:=hk.2.2.1;have hgo:=hF.lt;have AM:=hG.lt;obtain⟨es,clock,Nc⟩:=hF.isMap;have HM:=af Nc;clear hF hG dy hk Nc;go_enter Tryz.func109,Tryz.ntmps109
 go_wp2;go_loopw [7,8,9,12] (fun _ _ _ iv wr=>∃ k:Nat,k<=ks.length/\iv=.int .i64 (k:Int)/\Mp fI wr go (n+k) (vM F G (ks.take k))/\w.grownBy wr (some go)) (fun _ _ _ iv _=>ks.length-(intOf iv).toNat)
 case atStart=>exact⟨0,Nat.zero_le _,rfl,by rw [List.take_zero];exact(by have:=ae HF;rwa [show vM F G []=F from funext fun k=>if_neg (by simp)]),World.grownBy.refl _ _⟩
 case round =>
  obtain⟨k,hk,rfl,px,xY⟩:=hrel;by_cases aM:k<ks.length
  ·obtain⟨b1,o1,rfl,dR⟩:=(ae HS).2.2.2 (by intro e;rw [e] at aM;simp at aM);obtain⟨x,hx⟩:∃ x,ks[k]?=some x:=⟨ks[k],zLg aM⟩;have q0w:w.cell? ⟨b1,o1+k,none⟩=some ((Value.int .i64) x):=by have:=dR k x hx 0 _ rfl;rwa [Nat.mul_one,Nat.add_zero] at this
   have SX:b1≠go:=fun e=>by subst e;have hm:=ae HM;unfold World.cell? at q0w;rw [hm] at q0w;simp at q0w
   have q0:wr.cell? ⟨b1,o1+k,none⟩=some ((Value.int .i64) x):=xY.cell q0w (fun e=>SX (zOi e));have dy:=ae yx x (List.mem_of_getElem? hx);have hGr:=(ae HG).grown xY (fun e=>aO (zOi e).symm);have nK:Hid (ks.take (k+1)=ks.take k++[x]):=af (by rw [List.take_add_one,hx];rfl);have HX:=af hx;have HGR:=af xY;clear dR hx xY q0w;have lP:=hGr.zcI dy;have zlP:=af dy;have Qw:=af px;have HGW:=af hGr;cases hq:G x with
   | none =>
    rw [hq] at lP;simp only [Option.getD_none,Option.isSome_none] at lP;have zeC:(Instr.lookup 108 (.map (some gb)) (.int .i64 x) true).run Tryz.prog wr=.ok (.tuple #[.agg #[.int .i64 0,.slice none 0 0],.bool false]) wr:=lP;have hA:wr.grownBy (wr.alloc (.cells #[.int .i64 0,.slice none 0 0] 102)) none:=World.grownBy_alloc wr _ _;obtain⟨w5,bw,AH,xV⟩:=(px.grown hA (by simp)).drop dy 0;have Xo:(Builtin.delete_ #[108,3] 0 #[.map (some go),.int .i64 x]).run Tryz.prog (wr.alloc (.cells #[.int .i64 0,.slice none 0 0] 102))=.ok (.tuple #[]) w5:=bw;have HA:Hid (w.grownBy w5 (some go)):=af (((ae HGR).andThen (hA.but _) (fun j hj=>.inr hj)).andThen xV.grown (fun j hj=>.inr hj));clear lP bw px hGr dy hA xV;have Ow:=af AH;clear AH;go_wp2;go_roundw
    case rel=>exact⟨k+1,by omega,by go_num,by have h1:=ae Ow;rw [<- hq,OR] at h1;rw [ae nK];exact h1.mono (by omega),ae HA⟩
    case measure=>simp [intOf];omega
   | some v =>
    rw [hq] at lP;simp only [Option.getD_some,Option.isSome_some] at lP;have PQ:=(ae HGW).eok hq;obtain⟨vt,va,vn,vc⟩:=v;have zeC:(Instr.lookup 108 (.map (some gb)) (.int .i64 x) true).run Tryz.prog wr=.ok (.tuple #[.agg #[.int .i64 vt,.slice va vn vc],.bool true]) wr:=lP;have hA:wr.grownBy (wr.alloc (.cells #[.int .i64 vt,.slice va vn vc] 102)) none:=World.grownBy_alloc wr _ _;obtain⟨w5,bw,AH,xV⟩:=(px.grown hA (by simp)).store (by unfold maxLen;omega) dy PQ;have Xo:(Instr.mapUpdate 108 (.map (some go)) (.int .i64 x) (.agg #[.int .i64 vt,.slice va vn vc])).run Tryz.prog (wr.alloc (.cells #[.int .i64 vt,.slice va vn vc] 102))=.ok () w5:=bw;have HA:Hid (w.grownBy w5 (some go)):=af (((ae HGR).andThen (hA.but _) (fun j hj=>.inr hj)).andThen xV.grown (fun j hj=>.inr hj));clear lP bw px hGr dy hA xV PQ;have Ow:=af AH;clear AH;go_wp2;go_roundw
    case rel=>exact⟨k+1,by omega,by go_num,by have h1:=ae Ow;rw [<- hq,OR] at h1;rw [ae nK];exact h1.mono (by omega),ae HA⟩
    case measure=>simp [intOf];omega
  ·have tJ:¬ ((k:Int)<(ks.length:Int)):=by omega
   have Qw:Hid (Mp fI wr go (n+ks.length) (vM F G ks)):=af (by rw [List.take_of_length_le (by omega)] at px;exact px.mono (by omega));have HGR:=af xY;clear px xY;go_wp2
   go_end0
   exact⟨rfl,ae Qw,ae HGR⟩
theorem zkv(k:Int)(pi pm pa pb gm ga gb nm na nb:Nat)(Fm Fa Fb:Int->Option OV)(r1 r2:Bool)(w:World)(ci:w.cell? ⟨pi,0,none⟩=some (.func (.func 53) #[] #[]))(cm:w.cell? ⟨pm,0,none⟩=some (.map (some gm)))(ca:w.cell? ⟨pa,0,none⟩=some (.map (some ga)))(cb:w.cell? ⟨pb,0,none⟩=some (.map (some gb)))(hM:Mp fI w gm nm Fm)(hA:Mp fI w ga na Fa)(hB:Mp fI w gb nb Fb)(hk:(fI).vA k)
  (gP:Calls Tryz.prog 53 #[oP ((Fm k).getD (fI).z),oP ((Fa k).getD (fI).z)] w fun e w'=>e=.returned (.bool r1)/\Below w.heap.size w w') (gM:∀ W,Below w.heap.size w W->Calls Tryz.prog 53 #[oP ((Fm k).getD (fI).z),oP ((Fb k).getD (fI).z)] W fun e w'=>e=.returned (.bool r2)/\Below W.heap.size W w') :
  Calls Tryz.prog 111 #[(Value.int .i64) k,.pointer (some ⟨pi,0,none⟩),.pointer (some ⟨pm,0,none⟩),.pointer (some ⟨pa,0,none⟩),.pointer (some ⟨pb,0,none⟩)] w fun e w'=>e=.returned (.bool (r1 || r2))/\Below w.heap.size w w':=by
 have l1:(Instr.lookup 108 (.map (some gm)) ((Value.int .i64) k) false).run Tryz.prog w=.ok (oP ((Fm k).getD (fI).z)) w:=hM.look hk;have l2:(Instr.lookup 108 (.map (some ga)) ((Value.int .i64) k) false).run Tryz.prog w=.ok (oP ((Fa k).getD (fI).z)) w:=hA.look hk;have l3:∀ W,Below w.heap.size w W->(Instr.lookup 108 (.map (some gm)) ((Value.int .i64) k) false).run Tryz.prog W=.ok (oP ((Fm k).getD (fI).z)) W:=fun W hW=>(hM.below hW).look hk
 have l4:∀ W,Below w.heap.size w W->(Instr.lookup 108 (.map (some gb)) ((Value.int .i64) k) false).run Tryz.prog W=.ok (oP ((Fb k).getD (fI).z)) W:=fun W hW=>(hB.below hW).look hk
 have tz:=af l3;have OA:=af l4;have bi:=block_lt_of_cell ci;have bm:=block_lt_of_cell cm;have bb:=block_lt_of_cell cb;generalize oP ((Fm k).getD (fI).z)=vm at *;generalize oP ((Fa k).getD (fI).z)=va at *;generalize oP ((Fb k).getD (fI).z)=vb at *;have mB:=af gP;have yU:=af gM;have CI:=af ci;have CM:=af cm;have CB:=af cb;clear hM hA hB gP gM hk l3 l4;cases r1 with
 | true =>
  go_enter Tryz.func111,Tryz.ntmps111
  go_wp2_with (go_at_call 53;refine(ae mB).mono ?_;rintro e w1 ⟨rfl,hb⟩)
  go_ret;exact⟨rfl,hb⟩
 | false =>
  rw [Bool.false_or];go_enter Tryz.func111,Tryz.ntmps111
  go_wp2_with (first
   | (go_at_call 53;refine(ae mB).mono ?_;rintro e w1 ⟨rfl,hb⟩;clear mB;have d1:=(hb.cell (p:=⟨pi,0,none⟩) bi).trans (ae CI);have d2:=(hb.cell (p:=⟨pm,0,none⟩) bm).trans (ae CM);have d3:=(hb.cell (p:=⟨pb,0,none⟩) bb).trans (ae CB);have m1:=ae tz w1 hb;have m2:=ae OA w1 hb;have aL:=af hb)
   | (go_at_call 53;refine(ae yU w1 (ae aL)).mono ?_;rintro e w2 ⟨rfl,aK⟩))
  go_ret;exact⟨rfl,zTs aL aK⟩
def Uh(B gm ga gb:Nat)(W:World):Prop:=W.cell? ⟨B,0,none⟩=some (.map (some gm))/\W.cell? ⟨B+1,0,none⟩=some (.map (some ga))/\W.cell? ⟨B+1+1,0,none⟩=some (.map (some gb))/\W.cell? ⟨B+1+1+1,0,none⟩=some (.func (.func 53) #[] #[])
theorem Uh.below{B C gm ga gb:Nat}{W W':World}(h:Uh B gm ga gb W)(hb:Below C W W')(hC:B+1+1+1<C):Uh B gm ga gb W' :=⟨(hb.cell (p:=⟨B,0,none⟩) (by show B<_;omega)).trans h.1,(hb.cell (p:=⟨B+1,0,none⟩) (by show B+1<_;omega)).trans h.2.1,(hb.cell (p:=⟨B+1+1,0,none⟩) (by show B+1+1<_;omega)).trans h.2.2.1,(hb.cell (p:=⟨B+1+1+1,0,none⟩) hC).trans h.2.2.2⟩
theorem Uh.grown{B g gm ga gb:Nat}{W W':World}(h:Uh B gm ga gb W)(hb:W.grownBy W' (some g))(hC:B+1+1+1<g):Uh B gm ga gb W' :=⟨hb.cell h.1 (fun e=>by have:=zOi e;dsimp only at this;omega),hb.cell h.2.1 (fun e=>by have:=zOi e;dsimp only at this;omega),hb.cell h.2.2.1 (fun e=>by have:=zOi e;dsimp only at this;omega),hb.cell h.2.2.2 (fun e=>by have:=zOi e;dsimp only at this;omega)⟩
def zar(Fm Fa Fb:Int->Option OV)(U:List Int)(pa pb:Int->Bool):Int->Option OV:=vM (vM Fm Fb (U.filter fun k=>!pb k)) Fa (U.filter fun k=>!pa k)
def Gy(w:World)(U:List Int)(Fa Fb:Int->Option OV)(p:Int->Bool):Prop:=(∀ k∈U,∀ W,Below w.heap.size w W->Calls Tryz.prog 53 #[oP ((Fa k).getD (fI).z),oP ((Fb k).getD (fI).z)] W fun e w'=>e=.returned (.bool (p k))/\Below W.heap.size W w')/\∀ k∈U,Fa k=none->Fb k=none->p k=true
theorem Gy.at{w W:World}{U:List Int}{Fa Fb:Int->Option OV}{p:Int->Bool}(h:Gy w U Fa Fb p)(hW:Below w.heap.size w W):Gy W U Fa Fb p:=⟨fun k hk W' hb=>h.1 k hk W' (hW.trans (hb.mono hW.size)),h.2⟩
theorem zhs(ga gb na nb:Nat)(Fa Fb:Int->Option OV)(U:List Int)(p:Int->Bool)(W:World)(B x y z:Nat)(hA:Mp fI W ga na Fa)(hB:Mp fI W gb nb Fb)(hU:Cy U)(Ga:∀ k,(Fa k).isSome=true->k∈U)(F9:∀ k,(Fb k).isSome=true->k∈U)(dy:∀ k∈U,(fI).vA k)(hl:U.length<=1000)(hn:na<=20000/\nb<=20000)(hs:Gy W U Fa Fb p)(hx:Uh B x y z W)(hBW:B+1+1+1<W.heap.size) :
  Calls Tryz.prog 110 #[.map (some ga),.map (some gb),.func (.func 53) #[] #[]] W fun e w'=>∃ a c,e=.returned (.slice a (U.filter fun k=>!p k).length c)/\(bT kY 1 3 w' W.heap.size (.slice a (U.filter fun k=>!p k).length c) (U.filter fun k=>!p k)/\Below W.heap.size W w')/\w'.cell? ⟨B,0,none⟩=some (.map (some x))/\w'.cell? ⟨B+1,0,none⟩=some (.map (some y))/\w'.cell? ⟨B+1+1,0,none⟩=some (.map (some z))/\w'.cell? ⟨B+1+1+1,0,none⟩=some (.func (.func 53) #[] #[]):=by
 refine(Wl ga gb na nb Fa Fb U p W hA hB hU Ga F9 dy hl hn hs.1 hs.2).mono ?_;rintro e w' ⟨v,rfl,h1,h2⟩;obtain⟨a,c,rfl,_⟩:=h1.kk iG (Nat.le_trans (List.length_filter_le _ _) (by omega));exact⟨a,c,rfl,⟨h1,h2⟩,hx.below h2 hBW⟩
theorem zgS(go gb n m:Nat)(F G:Int->Option OV)(a:Option Addr)(c:Nat)(ks:List Int)(W:World)(B x y z:Nat)(hF:Mp fI W go n F)(hG:Mp fI W gb m G)(aO:go≠gb)(hk:fG kY 1 W a c ks)(dy:∀ k∈ks,(fI).vA k)(hl:ks.length<=1000)(hn:n<=10000)(hx:Uh B x y z W)(hB:B+1+1+1<go) :
  Calls Tryz.prog 109 #[.map (some go),.map (some gb),.slice a ks.length c] W fun e w'=>e=.returned (.tuple #[])/\(Mp fI w' go (n+ks.length) (vM F G ks)/\W.grownBy w' (some go))/\w'.cell? ⟨B,0,none⟩=some (.map (some x))/\w'.cell? ⟨B+1,0,none⟩=some (.map (some y))/\w'.cell? ⟨B+1+1,0,none⟩=some (.map (some z))/\w'.cell? ⟨B+1+1+1,0,none⟩=some (.func (.func 53) #[] #[]):=by
 refine(zgX go gb n m F G a c ks W hF hG aO hk dy hl hn).mono ?_;rintro e w' ⟨rfl,h1,h2⟩;exact⟨rfl,⟨h1,h2⟩,hx.grown h2 hB⟩
theorem Wg(ga gb na nb:Nat)(Fa Fb:Int->Option OV)(U:List Int)(p:Int->Bool)(w1:World)(B x y z:Nat)(hA:Mp fI w1 ga na Fa)(hB:Mp fI w1 gb nb Fb)(hU:Cy U)(Ga:∀ k,(Fa k).isSome=true->k∈U)(F9:∀ k,(Fb k).isSome=true->k∈U)(dy:∀ k∈U,(fI).vA k)(hl:U.length<=1000)(hn:na<=20000/\nb<=20000)(hs:Gy w1 U Fa Fb p)(hx:Uh B x y z w1)(hBW:B+1+1+1<w1.heap.size)(W:World)(hW:Below w1.heap.size w1 W) :
  Calls Tryz.prog 110 #[.map (some ga),.map (some gb),.func (.func 53) #[] #[]] W fun e w'=>∃ a c,e=.returned (.slice a (U.filter fun k=>!p k).length c)/\(bT kY 1 3 w' w1.heap.size (.slice a (U.filter fun k=>!p k).length c) (U.filter fun k=>!p k)/\Below w1.heap.size w1 w')/\w'.cell? ⟨B,0,none⟩=some (.map (some x))/\w'.cell? ⟨B+1,0,none⟩=some (.map (some y))/\w'.cell? ⟨B+1+1,0,none⟩=some (.map (some z))/\w'.cell? ⟨B+1+1+1,0,none⟩=some (.func (.func 53) #[] #[]):=by
 refine(zhs ga gb na nb Fa Fb U p W B x y z (hA.below hW) (hB.below hW) hU Ga F9 dy hl hn (hs.at hW) (hx.below hW hBW) (by have:=hW.size;omega)).mono ?_;rintro e w' ⟨a,c,rfl,⟨h1,h2⟩,h3⟩;exact⟨a,c,rfl,⟨bT.Jh h1 hW.size,hW.trans (h2.mono hW.size)⟩,h3⟩
theorem zcu(go gb n m:Nat)(F G:Int->Option OV)(ks:List Int)(w1:World)(B x y z:Nat)(hF:Mp fI w1 go n F)(hG:Mp fI w1 gb m G)(aO:go≠gb)(dy:∀ k∈ks,(fI).vA k)(hl:ks.length<=1000)(hn:n<=10000)(hx:Uh B x y z w1)(hB:B+1+1+1<go)(W:World)(a:Option Addr)(c:Nat)(h:bT kY 1 3 W w1.heap.size (.slice a ks.length c) ks/\Below w1.heap.size w1 W)(W':World)(hW:Below W.heap.size W W') :
  Calls Tryz.prog 109 #[.map (some go),.map (some gb),.slice a ks.length c] W' fun e w'=>e=.returned (.tuple #[])/\(Mp fI w' go (n+ks.length) (vM F G ks)/\Below (B+1+1+1+1) w1 w')/\w'.cell? ⟨B,0,none⟩=some (.map (some x))/\w'.cell? ⟨B+1,0,none⟩=some (.map (some y))/\w'.cell? ⟨B+1+1,0,none⟩=some (.map (some z))/\w'.cell? ⟨B+1+1+1,0,none⟩=some (.func (.func 53) #[] #[]):=by
 have bB:Below w1.heap.size w1 W':=h.2.trans (hW.mono h.2.size);have aM:=hF.lt;obtain⟨a',c',e',SC⟩:=h.1.kk iG (by omega);cases e'
 refine(zgS go gb n m F G a c ks W' B x y z (hF.below bB) (hG.below bB) aO (SC.below hW) dy hl hn (hx.below bB (by omega)) hB).mono ?_;rintro e w' ⟨rfl,⟨h1,h2⟩,h3⟩;refine⟨rfl,⟨h1,(bB.mono (by omega)).trans (zBr.grown h2 (by have:=bB.size;omega) (fun j hj=>by cases hj;omega))⟩,h3⟩
theorem zdv(gm ga gb nm na nb:Nat)(Fm Fa Fb:Int->Option OV)(U:List Int)(pa pb pc:Int->Bool)(w:World)(hM:Mp fI w gm nm Fm)(hA:Mp fI w ga na Fa)(hB:Mp fI w gb nb Fb)(hU:Cy U)(hiM:∀ k,(Fm k).isSome=true->k∈U)(Ga:∀ k,(Fa k).isSome=true->k∈U)(F9:∀ k,(Fb k).isSome=true->k∈U)(dy:∀ k∈U,(fI).vA k)(hl:U.length<=1000)(hn:nm<=5000/\na<=5000/\nb<=5000)
    (sa:Gy w U Fm Fa pa) (sb:Gy w U Fm Fb pb) (sc:Gy w U Fa Fb pc) :
    Calls Tryz.prog 52 #[.map (some gm),.map (some ga),.map (some gb),.func (.func 53) #[] #[]] w fun e w'=>∃ gE v,e=.returned (.tuple #[.map (some gE),v])/\w.heap.size<=gE/\Mp fI w' gE 7000 (zar Fm Fa Fb U pa pb)/\bT kY 1 3 w' w.heap.size v ((U.filter fun k=>!pc k).filter fun k=>!(pa k || pb k))/\Below w.heap.size w w':=by
  have gy:Below w.heap.size w ((((w.alloc (.cells #[.map (some gm)] 108)).alloc (.cells #[.map (some ga)] 108)).alloc (.cells #[.map (some gb)] 108)).alloc (.cells #[.func (.func 53) #[] #[]] 111)):=(((zBr.alloc zNr _).alloc (by rw [aH];omega) _).alloc (by rw [aH,aH];omega) _).alloc (by rw [aH,aH,aH];omega) _;have s0:((((w.alloc (.cells #[.map (some gm)] 108)).alloc (.cells #[.map (some ga)] 108)).alloc (.cells #[.map (some gb)] 108)).alloc (.cells #[.func (.func 53) #[] #[]] 111)).heap.size=w.heap.size+1+1+1+1:=by rw [aH,aH,aH,aH]
  have DO:Uh w.heap.size gm ga gb ((((w.alloc (.cells #[.map (some gm)] 108)).alloc (.cells #[.map (some ga)] 108)).alloc (.cells #[.map (some gb)] 108)).alloc (.cells #[.func (.func 53) #[] #[]] 111)) :=
    ⟨cC _ (cC _ (cC _ (dK _ _ _))),
     cC _ (cC _ (by have:=dK (w.alloc (.cells #[.map (some gm)] 108)) (.map (some ga)) 108;rwa [aH] at this)),
     cC _ (by have:=dK ((w.alloc (.cells #[.map (some gm)] 108)).alloc (.cells #[.map (some ga)] 108)) (.map (some gb)) 108;rwa [aH,aH] at this),
     by have:=dK (((w.alloc (.cells #[.map (some gm)] 108)).alloc (.cells #[.map (some ga)] 108)).alloc (.cells #[.map (some gb)] 108)) (.func (.func 53) #[] #[]) 111;rwa [aH,aH,aH] at this⟩
  have HC:=af (YU gm nm Fm _ (hM.below gy));have iw:=af gy;have zl:=af s0;have HX0:=af DO;have HM:=af hM;have HA:=af hA;have HB:=af hB;have JN:=hM.lt;have PO:=hA.lt;have AM:=hB.lt;have HU:=af hU;have HIM:=af hiM;have HIA:=af Ga;have HIB:=af F9;have yx:=af dy;have HSA:=af sa;have HSB:=af sb;have HSC:=af sc;have Zv:Hid (∀ (q:Int->Bool),∀ k∈U.filter (fun k=>!q k),(fI).vA k):=af (fun q k hk=>dy k (List.mem_filter.1 hk).1);have ZD:Hid (∀ (q:Int->Bool),(U.filter (fun k=>!q k)).length<=1000):=af (fun q=>Nat.le_trans (List.length_filter_le _ _) hl);clear gy s0 DO hM hA hB hU hiM Ga F9 dy sa sb sc;go_enter Tryz.func52,Tryz.ntmps52
  go_wp2_with fail
  refine(ae HC).mono ?_;rintro e w1 ⟨gE,rfl,hgE,uO,ay⟩;have dm:Below w.heap.size w w1:=(ae iw).trans (ay.mono (by rw [ae zl];omega));have GK:=(ae HX0).below ay (by rw [ae zl];omega);have dw:w.heap.size+1+1+1+1<=w1.heap.size:=by have:=ay.size;rw [ae zl] at this;exact this
  rw [ae zl] at hgE;have zlm:=uO.lt;have Ov:=af (Wg gm gb nm nb Fm Fb U pb w1 w.heap.size gm ga gb ((ae HM).below dm) ((ae HB).below dm) (ae HU) (ae HIM) (ae HIB) (ae yx) hl (by omega) ((ae HSB).at dm) GK (by omega));have nK:=af (zcu gE gb nm nb Fm Fb (U.filter fun k=>!pb k) w1 w.heap.size gm ga gb uO ((ae HB).below dm) (by omega) (ae Zv pb) (ae ZD pb) (by omega) GK (by omega));have aL:=af dm;obtain⟨q0,q1,q2,q3⟩:=GK;have hNL:=ae ZD pb;generalize (U.filter fun k=>!pb k).length=NB at Ov nK hNL;clear uO ay dm HC iw zl HX0;go_upto_region 2 with fail
  go_region_held3 (fun w'=>w'.cell? ⟨w.heap.size,0,none⟩=some (.map (some gm))/\w'.cell? ⟨w.heap.size+1,0,none⟩=some (.map (some ga))/\w'.cell? ⟨w.heap.size+1+1,0,none⟩=some (.map (some gb))/\w'.cell? ⟨w.heap.size+1+1+1,0,none⟩=some (.func (.func 53) #[] #[])) (first | go_keep | (go_split_ands;refine⟨?_,?_,?_,?_⟩ <;> go_keep))
    (first | (go_at_call 110;refine(ae Ov _ (by repeat (first | exact zBr | refine Below.drew ?_))).mono ?_;rintro e w2 ⟨a2,c2,rfl,h2,r0,r1,r2,r3⟩) | (go_at_call 109;refine(ae nK _ _ _ h2 _ (by repeat (first | exact zBr | refine Below.drew ?_))).mono ?_;rintro e w3 ⟨rfl,h3,t0,t1,t2,t3⟩))
  obtain⟨qO,bR⟩:=h3;have j8:Below w.heap.size w w3:=(ae aL).trans (bR.mono (by omega));have lF:Uh w.heap.size gm ga gb w3:=⟨t0,t1,t2,t3⟩;have zll:=qO.lt;have W8:w.heap.size+1+1+1+1<=w3.heap.size:=by have:=bR.size;omega
  have Ou:=af (Wg gm ga nm na Fm Fa U pa w3 w.heap.size gm ga gb ((ae HM).below j8) ((ae HA).below j8) (ae HU) (ae HIM) (ae HIA) (ae yx) hl (by omega) ((ae HSA).at j8) lF (by omega));have Oq:=af (zcu gE ga (nm+NB) na (vM Fm Fb (U.filter fun k=>!pb k)) Fa (U.filter fun k=>!pa k) w3 w.heap.size gm ga gb qO ((ae HA).below j8) (by omega) (ae Zv pa) (ae ZD pa) (by omega) lF (by omega));have cT:=af j8;have hNA:=ae ZD pa;generalize (U.filter fun k=>!pa k).length=NA at Ou Oq hNA;clear qO bR j8 lF h2 Ov nK aL q0 q1 q2 q3 r0 r1 r2 r3;go_upto_region 3 with fail
  go_region_held3 (fun w'=>w'.cell? ⟨w.heap.size,0,none⟩=some (.map (some gm))/\w'.cell? ⟨w.heap.size+1,0,none⟩=some (.map (some ga))/\w'.cell? ⟨w.heap.size+1+1,0,none⟩=some (.map (some gb))/\w'.cell? ⟨w.heap.size+1+1+1,0,none⟩=some (.func (.func 53) #[] #[])) (first | go_keep | (go_split_ands;refine⟨?_,?_,?_,?_⟩ <;> go_keep))
    (first | (go_at_call 110;refine(ae Ou _ (by repeat (first | exact zBr | refine Below.drew ?_))).mono ?_;rintro e w4 ⟨a4,c4,rfl,h4,r0,r1,r2,r3⟩) | (go_at_call 109;refine(ae Oq _ _ _ h4 _ (by repeat (first | exact zBr | refine Below.drew ?_))).mono ?_;rintro e w5 ⟨rfl,h5,s0,s1,s2,s3⟩))
  obtain⟨Z4,gJ⟩:=h5;have zc:Below w.heap.size w w5:=(ae cT).trans (gJ.mono (by omega));have hx5:Uh w.heap.size gm ga gb w5:=⟨s0,s1,s2,s3⟩;have zlk:=Z4.lt;have hz5:w.heap.size+1+1+1+1<=w5.heap.size:=by have:=gJ.size;omega
  have Zz:=af (Wg ga gb na nb Fa Fb U pc w5 w.heap.size gm ga gb ((ae HA).below zc) ((ae HB).below zc) (ae HU) (ae HIA) (ae HIB) (ae yx) hl (by omega) ((ae HSC).at zc) hx5 (by omega) w5 zBr);have lj:=af zc;have ZA:=af Z4;have HX5:=af hx5;clear Z4 gJ zc hx5 h4 Ou Oq cT t0 t1 t2 t3 r0 r1 r2 r3;go_wp2_with fail
  refine(ae Zz).mono ?_;rintro e w6 ⟨a6,c6,rfl,⟨hl6,tK⟩,_⟩;have AA:KJ w6 w5.heap.size 111 #[.pointer (some ⟨w.heap.size+1+1+1,0,none⟩),.pointer (some ⟨w.heap.size,0,none⟩),.pointer (some ⟨w.heap.size+1,0,none⟩),.pointer (some ⟨w.heap.size+1+1,0,none⟩)] (U.filter fun k=>!pc k) (fun k=>pa k || pb k):=fun W x hx hW=>by have Sw:=(List.mem_filter.1 hx).1;have hW5:Below w5.heap.size w5 W:=tK.trans hW;have Cq:Below w.heap.size w W:=zTs lj hW5;obtain⟨y0,y1,y2,y3⟩:=(ae HX5).below hW5 (by omega);exact zkv x _ _ _ _ gm ga gb nm na nb Fm Fa Fb (pa x) (pb x) W y3 y0 y1 y2 ((ae HM).below Cq) ((ae HA).below Cq) ((ae HB).below Cq) (ae yx x Sw) ((ae HSA).1 x Sw W Cq) (fun W' hW'=>(ae HSB).1 x Sw W' (Cq.trans (hW'.mono Cq.size)))
  have HD:=af (zi3 111 _ _ _ w5.heap.size _ w6 (enters_of Tryz.func111 (by kernel_rfl) rfl) AA tK.size hl6 (ae ZD pc));have UB:=af tK;have Yh:=(ae lj).size;clear AA hl6 tK Zz HX5;generalize (U.filter fun k=>!pc k).length=NC at HD;go_wp2_with fail
  refine(ae HD).mono ?_;rintro e w7 ⟨v7,rfl,PJ,XZ⟩;have Yg:Below w5.heap.size w5 w7:=(ae UB).trans XZ;have BB:=af (bT.Jh PJ Yh);have HM7:Hid (Mp fI w7 gE 7000 (zar Fm Fa Fb U pa pb)):=af (((ae ZA).below Yg).mono (by omega));have HB7:=af ((ae lj).trans (Yg.mono Yh));obtain⟨a7,m7,c7,rfl⟩:=PJ.shape;clear PJ XZ Yg HD UB ZA lj;go_wp2;go_ret2;exact⟨gE,_,rfl,by omega,ae HM7,ae BB,ae HB7⟩
end
section
open Go.Maps
open Go.Shelf
theorem YT(g n:Nat)(F:ByteArray->Option Int)(w:World)(h:Mp fY w g n F) :
  Calls Tryz.prog 114 #[.map (some g)] w fun e w'=>∃ gE,e=.returned (.map (some gE))/\w.heap.size<=gE/\Mp fY w' gE n F/\Below w.heap.size w w':=by
 obtain⟨D,h1,h2⟩:=h;have c:=AnyW.maps_Clone_owns mcS (fY).tk (fY).R g n D w h1;change Calls Tryz.prog 114 _ _ _ at c;refine c.mono ?_;rintro e w' ⟨rfl,o1,o2,hb⟩;exact⟨_,rfl,zNr,⟨D,o1,h2⟩,hb⟩
theorem Sq{v:Value}{y:DataW Unit×List MemPlace}(h:inR v=some y):∃ x:Int,v=Value.int .i64 x:=by obtain⟨a,rfl,_⟩:=uF h;exact⟨a,rfl⟩
theorem zi5(bd bs nd ns:Nat)(F G:ByteArray->Option Int)(w:World)(hd:Mp fY w bd nd F)(hs:Mp fY w bs ns G)(aO:bd≠bs)(su:nd+ns<=100000) :
  Calls Tryz.prog 179 #[.map (some bd),.map (some bs)] w fun e w'=>e=.returned (.tuple #[])/\Mp fY w' bd (nd+ns) (jP F G)/\w.grownBy w' (some bd):=by
 obtain⟨Dd,o1,h1⟩:=hd;obtain⟨Ds,o2,h2⟩:=hs;have Ub:=af h1;have HF2:=af h2;have o1:w.ownsMap Tryz.prog 9 inR bd nd Dd:=o1;have o2:w.ownsMap Tryz.prog 9 inR bs ns Ds:=o2;have cL:=o2.size_le;have sE:=o1.lt;have aX:=o2.lt;have hmx:nd+ns<maxLen:=by unfold maxLen;omega
 have K:Keyed Tryz.prog 9:=(fY).hK;clear h1 h2;go_enter Tryz.func179,Tryz.ntmps179
 go_wp2_with (first
  | (at_range;refine wpList_range_own _ rfl _ 112 rfl 9 3 K zu112 inR bs ns _ rfl o2 ?_;intro w0 zeu hg0 hs0)
  | go_in)
 go_frame
 go_loopw [4,5] (fun _ _ wr=>∃ (left:Lit->Bool) (GV:Nat) (Dout:DataW Unit),wr.ranges Tryz.prog 9 inR bs w.heap.size ns Ds left GV/\GV<=Maps.size Ds /\
   wr.ownsMap Tryz.prog 9 inR bd (nd+(Maps.size Ds-GV)) Dout/\Hid (Merged Dout Dd Ds left)/\w.grownBy wr (some bd))
  (fun _ _ wr=>wr.rangeLeft bs w.heap.size)
 case atStart =>exact⟨_,_,Dd,zeu,zNr,(o1.kept hg0 (by simp)).mono (by omega),af (merged_start Dd Ds),hg0.but _⟩
 case round =>
  obtain⟨left,GV,Dout,PE,jS,iA,HM,hgw⟩:=hrel;go_wp2_with (first
   | (at_next;refine wpList_next_ranges _ rfl _ rfl 9 K inR id (Value.int .i64) (fun key _ _=>⟨key,rfl⟩) (fun v _ h=>Sq h) bs w.heap.size ns _ _ _ rfl PE ?_ ?_)
   | go_in)
  ·intro Cm tl;go_wp2
   go_end0
   subst Cm;refine⟨rfl,Mp.mono (Mp.over (M:=fY) (ae Ub) (ae HF2) (ae HM) tl (show wr.ownsMap Tryz.prog (fY).tk (fY).R bd _ Dout from iA)) (by omega),hgw⟩
  ·intro x c kl yd yp w1 cnt1 dt hlx hv wO zet aM JO gP fc;have DW:=iA.kept JO (fun e=>by have:=zOi e;omega);go_wp2_with (first
    | (at_mapUpdate;refine wpList_mapUpdate_own _ rfl _ _ _ 112 rfl 9 3 K zu112 inR bd _ _ rfl DW (by omega) _ _ _ rfl rfl dt yd yp hv ?_;intro w2 Xv qg;go_frame)
    | go_in)
   have Xq:=zet.kept qg (fun e=>aO (zOi e).symm) (fun e=>by have:=zOi e;omega);go_roundw
   case rel =>exact⟨_,cnt1,_,Xq,by omega,Xv.mono (by omega),af (merged_step (ae HM) iA.isMap (K.key dt) wO),(hgw.andThen JO (fun j hj=>.inl (by cases hj;exact zNr))).andThen qg (fun j hj=>.inr hj)⟩
   case measure=>rw [Xq.left_eq,PE.left_eq];exact aM
end
section
open Go.Shelf
def KI(w:World)(B:Nat)(f:Nat)(lb:Array Value)(l:List ByteArray)(p:ByteArray->Bool):Prop :=∀ (W:World) (x:ByteArray),x∈l->Below B w W->Calls Tryz.prog f (#[Value.string x]++lb) W fun e w'=>e=.returned (.bool (p x))/\Below W.heap.size W w'
theorem zkM(f:Nat)(lb:Array Value)(p:ByteArray->Bool)(l:List ByteArray)(B g o c:Nat)(w:World)(xs:List Value)(eg:∀ args w,(callFunc f args).run Tryz.prog w=.ok (.enter f args) w)(hp:KI w B f lb l p)(hB:B<=w.heap.size)(hg:Rw w g 9 xs)(hx:∀ (i:Nat) x,l[i]?=some x->xs[o+i]?=some (Value.string x))(hl:l.length<=1000) :
  Calls Tryz.prog 182 #[.slice (some ⟨g,o,none⟩) l.length c,.func (.func f) #[] lb] w fun e w'=>∃ z:Int,e=.returned (.int .i64 z)/\Below w.heap.size w w'/\((z=-1/\∀ x∈l,p x=false)\/∃ k:Nat,z=k/\k<l.length/\(∀ (j:Nat) x,j<k->l[j]?=some x->p x=false)/\∃ x,l[k]?=some x/\p x=true):=by
 have HP:=af hp;have HG:=af hg;have HX:=af hx;clear hp hg hx;go_enter Tryz.func182,Tryz.ntmps182
 go_wp2;go_loopw [5,8] (fun _ iv wr=>∃ k:Nat,k<=l.length/\iv=.int .i64 k/\Hid (∀ (j:Nat) x,j<k->l[j]?=some x->p x=false)/\Below w.heap.size w wr) (fun _ iv _=>l.length-(intOf iv).toNat)
 case atStart=>exact⟨0,Nat.zero_le _,rfl,af (fun j x hj _=>absurd hj (Nat.not_lt_zero _)),zBr⟩
 case round =>
  obtain⟨k,hk,rfl,HK,hb⟩:=hrel;by_cases aM:k<l.length
  ·obtain⟨x,hxk⟩:∃ x,l[k]?=some x:=⟨l[k],zLg aM⟩;have bk:=((ae HG).same (hb.block g (ae HG).lt)).cell (ae HX k x hxk);have dj:=ae HP wr x (List.mem_of_getElem? hxk) (hb.mono hB);have HXK:=af hxk;have kz:=af hb;clear hxk hb;cases hq:p x with
   | false =>
    rw [hq] at dj;go_wp2_with (go_at_fn f;refine dj.mono ?_;rintro e w1 ⟨rfl,ay⟩)
    go_roundw
    case rel=>exact⟨k+1,by omega,by go_num,af (fun j y hj hy=>by
     by_cases e:j=k
     ·subst e;have:=(ae HXK).symm.trans hy;rw [<- zOi this];exact hq
     ·exact ae HK j y (by omega) hy),zTs kz ay⟩
    case measure=>simp [intOf];omega
   | true =>
    rw [hq] at dj;go_wp2_with (go_at_fn f;refine dj.mono ?_;rintro e w1 ⟨rfl,ay⟩)
    go_ret;exact⟨(k:Int),rfl,zTs kz ay,.inr ⟨k,rfl,aM,ae HK,x,ae HXK,hq⟩⟩
  ·have tJ:¬ ((k:Int)<(l.length:Int)):=by omega
   have kz:=af hb;clear hb;go_wp2;go_ret;exact⟨-1,rfl,ae kz,.inl ⟨rfl,fun x BK=>by obtain⟨j,hj⟩:=List.mem_iff_getElem?.1 BK;have:=(zLs hj).1;exact ae HK j x (by omega) hj⟩⟩
theorem YH(f:Nat)(lb:Array Value)(p:ByteArray->Bool)(l:List ByteArray)(B g o c:Nat)(w:World)(xs0:List Value)(eg:∀ args w,(callFunc f args).run Tryz.prog w=.ok (.enter f args) w)(hp:KI w B f lb l p)(hB:B<=w.heap.size)(XI:B<=g)(ho:o=0)(hg:Rw w g 9 xs0)(hx:∀ (i:Nat) x,l[i]?=some x->xs0[o+i]?=some (Value.string x))(hl:l.length<=1000)(hc:l.length<=c)(hxl:xs0.length=c) :
  Calls Tryz.prog 118 #[.slice (some ⟨g,o,none⟩) l.length c,.func (.func f) #[] lb] w fun e w'=>e=.returned (.slice (some ⟨g,o,none⟩) (l.filter fun x=>!p x).length c)/\∃ xs,Rw w' g 9 xs/\xs.length=c/\xs.take (l.filter fun x=>!p x).length=(l.filter fun x=>!p x).map Value.string/\Below B w w':=by
 have HI:=af (zkM f lb p l B g o c w xs0 eg hp hB hg hx hl);have HP:=af hp;have HG:=af hg;have HX:=af hx;have xZ:=hg.lt;have HF:Hid ((l.filter fun x=>!p x)=(l.take l.length).filter fun x=>!p x):=af (by rw [List.take_length]);have Xs:∀ i,i<l.length->∃ x,l[i]?=some x:=fun i hi=>⟨l[i],zLg hi⟩
 have zfy:=af Xs;have HO:=af ho;have T5:=af hxl;clear hp hg hx Xs ho hxl;go_enter Tryz.func118,Tryz.ntmps118
 go_wp2_with fail
 refine(ae HI).mono ?_;rintro e w1 ⟨z,rfl,ay,hz⟩;have aL:=af ay;clear ay HI;rcases hz with ⟨rfl,bB⟩ | ⟨k0,rfl,hk0,XW,x0,DO,GP⟩
 ·have Nk:(l.filter fun x=>!p x)=l:=List.filter_eq_self.2 (fun x BK=>by rw [bB x BK];rfl);have BE:=af Nk;have oJ:=af bB;clear Nk bB HF;go_wp2;go_ret;refine⟨by rw [ae BE];rfl,xs0,(ae HG).same ((ae aL).block g xZ),ae T5,?_,(ae aL).mono hB⟩;rw [ae BE];exact mO (fun i x h=>by have:=ae HX i x h;rw [ae HO,Nat.zero_add] at this;exact this)
 ·have zfI:=af XW;have HX0:=af DO;have Zt:=af GP;clear XW DO GP;have zk9:((k0:Int) == -1)=false:=beq_eq_false_iff_ne.2 (by omega);have qh:Hid ((l.take (k0+1)).filter (fun x=>!p x)=l.take k0):=af (by rw [List.take_add_one,ae HX0];simp only [Option.toList_some,List.filter_append,List.filter_cons,ae Zt,Bool.not_true,if_neg Bool.false_ne_true,List.filter_nil,List.append_nil];refine List.filter_eq_self.2 (fun x BK=>?_);obtain⟨j,hj⟩:=List.mem_iff_getElem?.1 BK;have mG:=(zLs hj).1;rw [zLt] at mG;rw [List.getElem?_take,if_pos (by omega)] at hj;rw [ae zfI j x (by omega) hj];rfl);have HKL:Hid ((l.take k0).length=k0):=af (by rw [zLt];omega);go_wp2_with fail
  go_loopw [5,6,7] (fun iv jv _ wr=>∃ (j:Nat) (K:List ByteArray) (xs:List Value),j<=l.length/\K.length<j/\iv=.int .i64 (K.length:Int)/\jv=.int .i64 (j:Int)/\Hid (K=(l.take j).filter fun x=>!p x)/\Hid (xs=K.map Value.string++xs0.drop K.length)/\Rw wr g 9 xs/\Below B w wr) (fun _ jv _ _=>l.length-(intOf jv).toNat)
  case atStart=>exact⟨k0+1,l.take k0,xs0,by omega,by rw [ae HKL];omega,by rw [ae HKL],by go_num,af (ae qh).symm,af (by have:=mO (l:=l) (xs:=xs0) (f:=Value.string) (fun i x h=>by have:=ae HX i x h;rw [ae HO,Nat.zero_add] at this;exact this);rw [ae HKL,List.map_take,<- this,List.take_take,Nat.min_eq_left (by omega),List.take_append_drop]),(ae HG).same ((ae aL).block g xZ),(ae aL).mono hB⟩
  case round =>
   obtain⟨j,K,xs,hj,hKj,rfl,rfl,HK,Zm,rP,hb⟩:=hrel;have Ay:xs.length=xs0.length:=by rw [ae Zm,zLa,zLm,zLd];have:=ae T5;omega
   have hxc:=ae T5;have ho0:=ae HO;have KM:=af (Ay.trans hxc);by_cases aM:j<l.length
   ·obtain⟨x,PA⟩:=ae zfy j aM;have bk:=rP.cell (i:=o+j) (v:=Value.string x) (by have h1:=ae HX j x PA;rw [ae HO,Nat.zero_add] at h1 ⊢;rw [ae Zm,List.getElem?_append_right (by rw [zLm];omega),zLm,List.getElem?_drop,show K.length+(j-K.length)=j by omega];exact h1);obtain⟨VR,hold⟩:=rP.has (i:=o+K.length) (by omega);have hfz:=rP.frozen (o+K.length);have dj:=ae HP wr x (List.mem_of_getElem? PA) hb;have xY:=rP.lt;have Zo:=af rP;have kz:=af hb;have HXJ:=af PA;have zeB:(j:Int)<(l.length:Int):=by omega
    have BR:K.length<l.length:=by omega
    have nK:Hid ((l.take (j+1)).filter (fun x=>!p x)=K++(if p x=true then [] else [x])):=af (by rw [List.take_add_one,ae HXJ,ae HK];simp only [Option.toList_some,List.filter_append,List.filter_cons,List.filter_nil];cases p x <;> rfl);generalize PT:K.length=N at *;have sM:=af PT;clear rP hb PA PT Ay hxc ho0;cases hq:p x with
    | true =>
     rw [hq] at dj;go_wp2_with (go_at_fn f;refine dj.mono ?_;rintro e w2 ⟨rfl,aK⟩)
     go_roundw
     case rel=>exact⟨j+1,K,xs,by omega,by rw [ae sM];omega,by rw [ae sM],by go_num,af (by rw [ae nK,if_pos hq,List.append_nil]),by rw [ae sM];exact Zm,(ae Zo).same (aK.block g xY),(ae kz).trans (aK.mono (ae kz |>.size |> Nat.le_trans hB))⟩
     case measure=>simp [intOf];omega
    | false =>
     rw [hq] at dj;go_wp2_with (go_at_fn f;refine dj.mono ?_;rintro e w2 ⟨rfl,aK⟩;rw [<- aK.cell (p:=⟨g,o+N,none⟩) xY] at hold;rw [<- aK.frozen (p:=⟨g,o+N,none⟩) xY] at hfz)
     have zes:=(ae Zo).same (aK.block g xY);go_roundw
     case rel=>exact⟨j+1,K++[x],xs.set (o+N) (Value.string x),by omega,by rw [zLa,ae sM];simp;omega,by rw [zLa,ae sM];go_num,by go_num,af (by rw [ae nK,if_neg (by rw [hq];simp)]),af (by
      rw [ae Zm,ae HO,Nat.zero_add,zLa,List.length_singleton,ae sM,List.map_append,List.set_append_right _ _ (by rw [zLm,ae sM];omega),zLm,ae sM,Nat.sub_self,List.append_assoc]
      congr 1
      rw [Er (by have:=ae T5;omega)];rfl),zes.set _ _,((ae kz).trans (aK.mono (ae kz |>.size |> Nat.le_trans hB))).setCell XI _⟩
     case measure=>simp [intOf];omega
   ·obtain rfl:j=l.length:=by omega
    have zeB:¬ (l.length:Int)<(l.length:Int):=by omega
    have hNc:K.length<=c:=by omega
    have hKF:K=l.filter fun x=>!p x:=(ae HK).trans (ae HF).symm
    have HKF:=af hKF;clear hKF;have mH:∀ ty,(Builtin.clear_ #[113] ty #[.slice (some ⟨g,o+K.length,none⟩) (l.length-K.length) (c-K.length)]).run Tryz.prog wr=.ok (.tuple #[]) (wr.setRow g (splice xs (o+K.length) (List.replicate (l.length-K.length) (.string ByteArray.empty))).toArray) :=fun ty=>tY wr 113 9 ty (.string ByteArray.empty) Tryz.underlying113 UE rfl rfl g (o+K.length) (l.length-K.length) (c-K.length) xs (by omega) (by omega) rP
    have Zo:=af rP;have kz:=af hb;have xY:=rP.lt;generalize PT:K.length=N at *;have sM:=af PT;clear rP hb PT Ay hxc ho0;have zle:N<=l.length:=by omega
    go_wp2;go_ret;refine⟨by rw [<- ae HKF,ae sM];rfl,splice xs (o+N) (List.replicate (l.length-N) (.string ByteArray.empty)),(ae Zo).row _,?_,?_,below_setRow (ae kz) XI _⟩
    ·have q1:=ae KM;have q2:=ae HO;rw [zH (by rw [List.length_replicate];omega)];exact q1
    ·rw [<- ae HKF,ae sM,ae HO,Nat.zero_add,xE zNr (by have:=ae KM;omega),ae Zm,List.take_append_of_le_length (by rw [zLm,ae sM];omega),List.take_of_length_le (by rw [zLm,ae sM];omega)]
theorem W1(f:Nat)(lb:Array Value)(w:World):Calls Tryz.prog 182 #[.slice none 0 0,.func (.func f) #[] lb] w fun e w'=>e=.returned (.int .i64 (-1))/\Below w.heap.size w w':=by
 go_enter Tryz.func182,Tryz.ntmps182
 go_wp2;refine wp_loop_rounds 1 ?_;rw [rounds_succ];go_wp2;go_ret;exact⟨rfl,zBr⟩
theorem YJ(f:Nat)(lb:Array Value)(w:World):Calls Tryz.prog 118 #[.slice none 0 0,.func (.func f) #[] lb] w fun e w'=>e=.returned (.slice none 0 0)/\Below w.heap.size w w':=by
 have HI:=af (W1 f lb w);go_enter Tryz.func118,Tryz.ntmps118
 go_wp2_with fail
 refine(ae HI).mono ?_;rintro e w1 ⟨rfl,ay⟩;have aL:=af ay;clear ay HI;go_wp2;go_ret;exact⟨rfl,ae aL⟩
theorem zi2(f:Nat)(lb:Array Value)(p:ByteArray->Bool)(l:List ByteArray)(B:Nat)(v:Value)(w:World)(eg:∀ args w,(callFunc f args).run Tryz.prog w=.ok (.enter f args) w)(hp:KI w B f lb l p)(hB:B<=w.heap.size)(hv:bT Ih 1 9 w B v l)(hl:l.length<=1000) :
  Calls Tryz.prog 118 #[v,.func (.func f) #[] lb] w fun e w'=>∃ v',e=.returned v'/\bT Ih 1 9 w' B v' (l.filter fun x=>!p x)/\Below B w w':=by
 obtain⟨hq,hv | ⟨g,cap,cur,rfl,XI,hc,h3,h4,h5,h6⟩⟩:=hv
 ·obtain⟨rfl,h0⟩:=hv;have pw:l=[]:=List.eq_nil_of_length_eq_zero h0;subst pw;refine(YJ f lb w).mono ?_;rintro e w' ⟨rfl,hb⟩;exact⟨_,rfl,bT.nil _ _,hb.mono hB⟩
 ·rw [Nat.mul_one] at h5 h6;have rP:Rw w g 9 cur.toList:=by unfold Rw;rw [hc]
  have e6:cur.toList.take l.length=l.map Value.string:=by rw [h6];exact PZ l
  refine(YH f lb p l B g 0 cap w cur.toList eg hp hB XI rfl rP (fun i x hi=>?_) hl h3 (by simpa using h5)).mono ?_
  ·have h7:(cur.toList.take l.length)[i]?=some (Value.string x):=by rw [e6,List.getElem?_map,hi];rfl
   rw [List.getElem?_take,if_pos (zLs hi).1] at h7;rw [Nat.zero_add];exact h7
  ·rintro e w' ⟨rfl,xs,hr,hxl,ht,hb⟩;refine⟨_,rfl,⟨by rw [PZ,zLm,Nat.mul_one],.inr ⟨g,cap,xs.toArray,rfl,XI,hr,?_,h4,by simpa using hxl,?_⟩⟩,hb⟩
   ·exact Nat.le_trans (List.length_filter_le _ _) h3
   ·rw [Nat.mul_one,PZ];exact ht
theorem zkF(k:ByteArray)(pi pa pb ga gb na nb:Nat)(Fa Fb:ByteArray->Option Int)(r:Bool)(w:World)(ci:w.cell? ⟨pi,0,none⟩=some (.func (.func 55) #[] #[]))(ca:w.cell? ⟨pa,0,none⟩=some (.map (some ga)))(cb:w.cell? ⟨pb,0,none⟩=some (.map (some gb)))(hA:Mp fY w ga na Fa)(hB:Mp fY w gb nb Fb)(hk:(fY).vA k)
  (hs:Calls Tryz.prog 55 #[(Value.int .i64) ((Fa k).getD (fY).z),(Value.int .i64) ((Fb k).getD (fY).z)] w fun e w'=>e=.returned (.bool r)/\Below w.heap.size w w') :
  Calls Tryz.prog 181 #[Value.string k,.pointer (some ⟨pi,0,none⟩),.pointer (some ⟨pa,0,none⟩),.pointer (some ⟨pb,0,none⟩)] w fun e w'=>e=.returned (.bool r)/\Below w.heap.size w w':=by
 have l1:(Instr.lookup 112 (.map (some ga)) (Value.string k) false).run Tryz.prog w=.ok ((Value.int .i64) ((Fa k).getD (fY).z)) w:=hA.look hk;have l2:(Instr.lookup 112 (.map (some gb)) (Value.string k) false).run Tryz.prog w=.ok ((Value.int .i64) ((Fb k).getD (fY).z)) w:=hB.look hk;generalize (Value.int .i64) ((Fa k).getD (fY).z)=va at *;generalize (Value.int .i64) ((Fb k).getD (fY).z)=vb at *;have HS:=af hs;clear hA hB hs hk;go_enter Tryz.func181,Tryz.ntmps181
 go_wp2_with (go_at_call 55;refine(ae HS).mono ?_;rintro e w1 ⟨rfl,hb⟩)
 go_ret;exact⟨rfl,hb⟩
theorem zea(ga gb na nb:Nat)(Fa Fb:ByteArray->Option Int)(U:List ByteArray)(p:ByteArray->Bool)(w:World)(hA:Mp fY w ga na Fa)(hB:Mp fY w gb nb Fb)(hU:By U)(Ga:∀ k,(Fa k).isSome=true->k∈U)(F9:∀ k,(Fb k).isSome=true->k∈U)(dy:∀ k∈U,(fY).vA k)(hl:U.length<=1000)(hn:na<=20000/\nb<=20000)
  (hs:∀ k∈U,∀ W,Below w.heap.size w W->Calls Tryz.prog 55 #[(Value.int .i64) ((Fa k).getD (fY).z),(Value.int .i64) ((Fb k).getD (fY).z)] W fun e w'=>e=.returned (.bool (p k))/\Below W.heap.size W w')
  (GP:∀ k∈U,Fa k=none->Fb k=none->p k=true) :
  Calls Tryz.prog 116 #[.map (some ga),.map (some gb),.func (.func 55) #[] #[]] w fun e w'=>∃ v,e=.returned v/\bT Ih 1 9 w' w.heap.size v (U.filter fun k=>!p k)/\Below w.heap.size w w':=by
 have gy:Below w.heap.size w (((w.alloc (.cells #[.map (some ga)] 112)).alloc (.cells #[.map (some gb)] 112)).alloc (.cells #[.func (.func 55) #[] #[]] 116)):=((zBr.alloc zNr _).alloc (by simp) _).alloc (by simp;omega) _;have c1:(((w.alloc (.cells #[.map (some ga)] 112)).alloc (.cells #[.map (some gb)] 112)).alloc (.cells #[.func (.func 55) #[] #[]] 116)).cell? ⟨w.heap.size,0,none⟩=some (.map (some ga)):=cC _ (cC _ (dK _ _ _));have c2:(((w.alloc (.cells #[.map (some ga)] 112)).alloc (.cells #[.map (some gb)] 112)).alloc (.cells #[.func (.func 55) #[] #[]] 116)).cell? ⟨w.heap.size+1,0,none⟩=some (.map (some gb)):=cC _ (by have:=dK (w.alloc (.cells #[.map (some ga)] 112)) (.map (some gb)) 112;rwa [aH] at this);have c3:(((w.alloc (.cells #[.map (some ga)] 112)).alloc (.cells #[.map (some gb)] 112)).alloc (.cells #[.func (.func 55) #[] #[]] 116)).cell? ⟨w.heap.size+1+1,0,none⟩=some (.func (.func 55) #[] #[]):=by have:=dK ((w.alloc (.cells #[.map (some ga)] 112)).alloc (.cells #[.map (some gb)] 112)) (.func (.func 55) #[] #[]) 116;rwa [aH,aH] at this
 have s0:(((w.alloc (.cells #[.map (some ga)] 112)).alloc (.cells #[.map (some gb)] 112)).alloc (.cells #[.func (.func 55) #[] #[]] 116)).heap.size=w.heap.size+1+1+1:=by rw [aH,aH,aH]
 have HC:=af (YT ga na Fa _ (hA.below gy));have iw:=af gy;have mC:=af c1;have vH:=af c2;have HC3:=af c3;have zl:=af s0;have HMA:=af hA;have HMB:=af hB;have PO:=hA.lt;have AM:=hB.lt;have HU:=af hU;have HIA:=af Ga;have HIB:=af F9;have yx:=af dy;have HS:=af hs;have Zt:=af GP;obtain⟨B0,mJ⟩:∃ B0,B0=w.heap.size:=⟨_,rfl⟩;have Ld:=af mJ;clear gy c1 c2 c3 s0 hA hB hU Ga F9 dy hs GP mJ;go_enter Tryz.func116,Tryz.ntmps116
 go_wp2_with fail
 refine(ae HC).mono ?_;rintro e w1 ⟨gE,rfl,hgE,uO,ay⟩;rw [ae zl] at hgE ay;have dm:Below w.heap.size w w1:=(ae iw).trans (ay.mono (by omega));have d1:=(ay.cell (p:=⟨w.heap.size,0,none⟩) (by show w.heap.size<_;omega)).trans (ae mC);have d2:=(ay.cell (p:=⟨w.heap.size+1,0,none⟩) (by show w.heap.size+1<_;omega)).trans (ae vH);have d3:=(ay.cell (p:=⟨w.heap.size+1+1,0,none⟩) (by show w.heap.size+1+1<_;omega)).trans (ae HC3);have nF:w.heap.size+1+1+1<=w1.heap.size:=by have:=uO.lt;omega
 have ZI:=af (zi5 gE gb na nb Fa Fb w1 uO ((ae HMB).below dm) (by omega) (by omega));have aL:=af dm;have HD1:=af d1;have HD3:=af d3;clear uO ay dm d1 d3 HC mC vH HC3 iw zl;go_wp2_with fail
 refine(ae ZI).mono ?_;rintro e w2 ⟨rfl,iP,qg⟩;have aK:Below (w.heap.size+1+1+1) w1 w2:=zBr.grown qg nF (fun j hj=>by cases hj;exact hgE);have cD:Below w.heap.size w w2:=(ae aL).trans (aK.mono (by omega));have e1:=(aK.cell (p:=⟨w.heap.size,0,none⟩) (by show w.heap.size<_;omega)).trans (ae HD1);have e2:=(aK.cell (p:=⟨w.heap.size+1,0,none⟩) (by show w.heap.size+1<_;omega)).trans d2;have e3:=(aK.cell (p:=⟨w.heap.size+1+1,0,none⟩) (by show w.heap.size+1+1<_;omega)).trans (ae HD3);have M6:w.heap.size+1+1+1<=w2.heap.size:=by have:=aK.size;omega
 have hov:∀ k,(jP Fa Fb k).isSome=true->k∈U:=fun k hk=>by
  unfold jP at hk;split at hk
  ·rename_i h;exact ae HIB k h
  ·exact ae HIA k hk
 have HR:=af (O5 gE _ _ U w2 iP (ae HU) hov hl);have br:=af cD;have CA:=af e1;have EI:=af e2;have HE3:=af e3;clear iP qg aK cD e1 e2 e3 d2 ZI HD1 HD3 aL hov;go_wp2_with fail
 refine(ae HR).mono ?_;rintro e w3 ⟨v3,rfl,lQ,bR⟩;have j8:Below w.heap.size w w3:=(ae br).trans (bR.mono (by omega));have AA:KI w3 w2.heap.size 181 #[.pointer (some ⟨w.heap.size+1+1,0,none⟩),.pointer (some ⟨w.heap.size,0,none⟩),.pointer (some ⟨w.heap.size+1,0,none⟩)] (U.filter fun k=>(jP Fa Fb k).isSome) p:=fun W x hx hW=>by have Sw:=(List.mem_filter.1 hx).1;have Gg:Below w2.heap.size w2 W:=bR.trans hW;have Cq:Below w.heap.size w W:=(ae br).trans (Gg.mono (by omega));exact zkF x _ _ _ ga gb na nb Fa Fb (p x) W ((Gg.cell (p:=⟨w.heap.size+1+1,0,none⟩) (by show w.heap.size+1+1<_;omega)).trans (ae HE3)) ((Gg.cell (p:=⟨w.heap.size,0,none⟩) (by show w.heap.size<_;omega)).trans (ae CA)) ((Gg.cell (p:=⟨w.heap.size+1,0,none⟩) (by show w.heap.size+1<_;omega)).trans (ae EI)) ((ae HMA).below Cq) ((ae HMB).below Cq) (ae yx x Sw) (ae HS x Sw W Cq)
 have HD:=af (zi2 181 _ p _ w2.heap.size v3 w3 (enters_of Tryz.func181 (by kernel_rfl) rfl) AA bR.size lQ (Nat.le_trans (List.length_filter_le _ _) hl));have cT:=af j8;have tz:=af lQ;obtain⟨a3,m3,c3,rfl⟩:=lQ.shape;clear AA lQ bR j8 HR CA EI HE3;go_wp2_with fail
 refine(ae HD).mono ?_;rintro e w4 ⟨v4,rfl,tI,dO⟩;have OA:Hid (bT Ih 1 9 w4 w.heap.size v4 (U.filter fun k=>!p k)):=af (by
  have hf:(U.filter fun k=>(jP Fa Fb k).isSome).filter (fun x=>!p x)=U.filter fun k=>!p k:=by
   rw [List.filter_filter];refine List.filter_congr (fun k hk=>?_);cases hq:p k with
   | true=>rfl
   | false =>
    show(!false && (jP Fa Fb k).isSome)=!false
    cases ha:Fa k with
    | some x=>unfold jP;rw [ha];cases hb:(Fb k).isSome <;> simp [hb]
    | none =>
     cases hb:Fb k with
     | some y=>unfold jP;rw [hb];rfl
     | none=>have:=ae Zt k hk ha hb;rw [hq] at this;cases this
  rw [hf] at tI;exact bT.Jh tI (by omega))
 have ez:=af ((ae cT).trans (dO.mono (by omega)));obtain⟨a4,m4,c4,rfl⟩:=tI.shape;clear tI dO HD tz;go_wp2;go_ret;exact⟨_,rfl,ae OA,ae ez⟩
def tT(F G:ByteArray->Option Int)(ks:List ByteArray):ByteArray->Option Int:=fun k=>if ks.any (fun y=>decide (y=k))=true then G k else F k
theorem jF{ks:List ByteArray}{k:ByteArray}:ks.any (fun y=>decide (y=k))=true ↔ k∈ks:=by rw [List.any_eq_true];exact⟨fun⟨y,h1,h2⟩=>by rw [<- of_decide_eq_true h2];exact h1,fun h=>⟨k,h,decide_eq_true rfl⟩⟩
theorem OQ{F G:ByteArray->Option Int}{ks:List ByteArray}{x:ByteArray}:tQ (tT F G ks) x (G x)=tT F G (ks++[x]):=by
 funext k;unfold tQ tT;by_cases e:k=x
 ·subst e;rw [if_pos rfl,if_pos (jF.2 (by simp))]
 ·rw [if_neg e];by_cases h:k∈ks
  ·rw [if_pos (jF.2 h),if_pos (jF.2 (by simp [h]))]
  ·rw [if_neg (fun q=>h (jF.1 q)),if_neg (fun q=>by have:=jF.1 q;simp [h,e] at this)]
theorem zgW(go gb n m:Nat)(F G:ByteArray->Option Int)(a:Option Addr)(c:Nat)(ks:List ByteArray)(w:World)(hF:Mp fY w go n F)(hG:Mp fY w gb m G)(aO:go≠gb)(hk:fG Ih 1 w a c ks)(dy:∀ k∈ks,(fY).vA k)(hl:ks.length<=1000)(hn:n<=10000) :
  Calls Tryz.prog 115 #[.map (some go),.map (some gb),.slice a ks.length c] w fun e w'=>e=.returned (.tuple #[])/\Mp fY w' go (n+ks.length) (tT F G ks)/\w.grownBy w' (some go):=by
 have HF:=af hF;have HG:=af hG;have yx:=af dy;have HS:=af hk;have mH:=hk.2.2.1;have hgo:=hF.lt;have AM:=hG.lt;obtain⟨es,clock,Nc⟩:=hF.isMap;have HM:=af Nc;clear hF hG dy hk Nc;go_enter Tryz.func115,Tryz.ntmps115
 go_wp2;go_loopw [7,8,9,12] (fun _ _ _ iv wr=>∃ k:Nat,k<=ks.length/\iv=.int .i64 (k:Int)/\Mp fY wr go (n+k) (tT F G (ks.take k))/\w.grownBy wr (some go)) (fun _ _ _ iv _=>ks.length-(intOf iv).toNat)
 case atStart=>exact⟨0,Nat.zero_le _,rfl,by rw [List.take_zero];exact(by have:=ae HF;rwa [show tT F G []=F from funext fun k=>if_neg (by simp)]),World.grownBy.refl _ _⟩
 case round =>
  obtain⟨k,hk,rfl,px,xY⟩:=hrel;by_cases aM:k<ks.length
  ·obtain⟨b1,o1,rfl,dR⟩:=(ae HS).2.2.2 (by intro e;rw [e] at aM;simp at aM);obtain⟨x,hx⟩:∃ x,ks[k]?=some x:=⟨ks[k],zLg aM⟩;have q0w:w.cell? ⟨b1,o1+k,none⟩=some (Value.string x):=by have:=dR k x hx 0 _ rfl;rwa [Nat.mul_one,Nat.add_zero] at this
   have SX:b1≠go:=fun e=>by subst e;have hm:=ae HM;unfold World.cell? at q0w;rw [hm] at q0w;simp at q0w
   have q0:wr.cell? ⟨b1,o1+k,none⟩=some (Value.string x):=xY.cell q0w (fun e=>SX (zOi e));have dy:=ae yx x (List.mem_of_getElem? hx);have hGr:=(ae HG).grown xY (fun e=>aO (zOi e).symm);have nK:Hid (ks.take (k+1)=ks.take k++[x]):=af (by rw [List.take_add_one,hx];rfl);have HX:=af hx;have HGR:=af xY;clear dR hx xY q0w;have lP:=hGr.zcI dy;have zlP:=af dy;have Qw:=af px;have HGW:=af hGr;cases hq:G x with
   | none =>
    rw [hq] at lP;simp only [Option.getD_none,Option.isSome_none] at lP;have zeC:(Instr.lookup 112 (.map (some gb)) (.string x) true).run Tryz.prog wr=.ok (.tuple #[.int .i64 0,.bool false]) wr:=lP;obtain⟨w5,bw,AH,xV⟩:=px.drop dy 0;have Xo:(Builtin.delete_ #[112,9] 0 #[.map (some go),.string x]).run Tryz.prog wr=.ok (.tuple #[]) w5:=bw;have HA:Hid (w.grownBy w5 (some go)):=af ((ae HGR).andThen xV.grown (fun j hj=>.inr hj));clear lP bw px hGr dy xV;have Ow:=af AH;clear AH;go_wp2;go_roundw
    case rel=>exact⟨k+1,by omega,by go_num,by have h1:=ae Ow;rw [<- hq,OQ] at h1;rw [ae nK];exact h1.mono (by omega),ae HA⟩
    case measure=>simp [intOf];omega
   | some v =>
    rw [hq] at lP;simp only [Option.getD_some,Option.isSome_some] at lP;have PQ:=(ae HGW).eok hq;have zeC:(Instr.lookup 112 (.map (some gb)) (.string x) true).run Tryz.prog wr=.ok (.tuple #[.int .i64 v,.bool true]) wr:=lP;obtain⟨w5,bw,AH,xV⟩:=px.store (by unfold maxLen;omega) dy PQ;have Xo:(Instr.mapUpdate 112 (.map (some go)) (.string x) (.int .i64 v)).run Tryz.prog wr=.ok () w5:=bw;have HA:Hid (w.grownBy w5 (some go)):=af ((ae HGR).andThen xV.grown (fun j hj=>.inr hj));clear lP bw px hGr dy xV PQ;have Ow:=af AH;clear AH;go_wp2;go_roundw
    case rel=>exact⟨k+1,by omega,by go_num,by have h1:=ae Ow;rw [<- hq,OQ] at h1;rw [ae nK];exact h1.mono (by omega),ae HA⟩
    case measure=>simp [intOf];omega
  ·have tJ:¬ ((k:Int)<(ks.length:Int)):=by omega
   have Qw:Hid (Mp fY wr go (n+ks.length) (tT F G ks)):=af (by rw [List.take_of_length_le (by omega)] at px;exact px.mono (by omega));have HGR:=af xY;clear px xY;go_wp2
   go_end0
   exact⟨rfl,ae Qw,ae HGR⟩
theorem zku(k:ByteArray)(pi pm pa pb gm ga gb nm na nb:Nat)(Fm Fa Fb:ByteArray->Option Int)(r1 r2:Bool)(w:World)(ci:w.cell? ⟨pi,0,none⟩=some (.func (.func 55) #[] #[]))(cm:w.cell? ⟨pm,0,none⟩=some (.map (some gm)))(ca:w.cell? ⟨pa,0,none⟩=some (.map (some ga)))(cb:w.cell? ⟨pb,0,none⟩=some (.map (some gb)))(hM:Mp fY w gm nm Fm)(hA:Mp fY w ga na Fa)(hB:Mp fY w gb nb Fb)(hk:(fY).vA k)
  (gP:Calls Tryz.prog 55 #[(Value.int .i64) ((Fm k).getD (fY).z),(Value.int .i64) ((Fa k).getD (fY).z)] w fun e w'=>e=.returned (.bool r1)/\Below w.heap.size w w') (gM:∀ W,Below w.heap.size w W->Calls Tryz.prog 55 #[(Value.int .i64) ((Fm k).getD (fY).z),(Value.int .i64) ((Fb k).getD (fY).z)] W fun e w'=>e=.returned (.bool r2)/\Below W.heap.size W w') :
  Calls Tryz.prog 117 #[Value.string k,.pointer (some ⟨pi,0,none⟩),.pointer (some ⟨pm,0,none⟩),.pointer (some ⟨pa,0,none⟩),.pointer (some ⟨pb,0,none⟩)] w fun e w'=>e=.returned (.bool (r1 || r2))/\Below w.heap.size w w':=by
 have l1:(Instr.lookup 112 (.map (some gm)) (Value.string k) false).run Tryz.prog w=.ok ((Value.int .i64) ((Fm k).getD (fY).z)) w:=hM.look hk;have l2:(Instr.lookup 112 (.map (some ga)) (Value.string k) false).run Tryz.prog w=.ok ((Value.int .i64) ((Fa k).getD (fY).z)) w:=hA.look hk;have l3:∀ W,Below w.heap.size w W->(Instr.lookup 112 (.map (some gm)) (Value.string k) false).run Tryz.prog W=.ok ((Value.int .i64) ((Fm k).getD (fY).z)) W:=fun W hW=>(hM.below hW).look hk
 have l4:∀ W,Below w.heap.size w W->(Instr.lookup 112 (.map (some gb)) (Value.string k) false).run Tryz.prog W=.ok ((Value.int .i64) ((Fb k).getD (fY).z)) W:=fun W hW=>(hB.below hW).look hk
 have tz:=af l3;have OA:=af l4;have bi:=block_lt_of_cell ci;have bm:=block_lt_of_cell cm;have bb:=block_lt_of_cell cb;generalize (Value.int .i64) ((Fm k).getD (fY).z)=vm at *;generalize (Value.int .i64) ((Fa k).getD (fY).z)=va at *;generalize (Value.int .i64) ((Fb k).getD (fY).z)=vb at *;have mB:=af gP;have yU:=af gM;have CI:=af ci;have CM:=af cm;have CB:=af cb;clear hM hA hB gP gM hk l3 l4;cases r1 with
 | true =>
  go_enter Tryz.func117,Tryz.ntmps117
  go_wp2_with (go_at_call 55;refine(ae mB).mono ?_;rintro e w1 ⟨rfl,hb⟩)
  go_ret;exact⟨rfl,hb⟩
 | false =>
  rw [Bool.false_or];go_enter Tryz.func117,Tryz.ntmps117
  go_wp2_with (first
   | (go_at_call 55;refine(ae mB).mono ?_;rintro e w1 ⟨rfl,hb⟩;clear mB;have d1:=(hb.cell (p:=⟨pi,0,none⟩) bi).trans (ae CI);have d2:=(hb.cell (p:=⟨pm,0,none⟩) bm).trans (ae CM);have d3:=(hb.cell (p:=⟨pb,0,none⟩) bb).trans (ae CB);have m1:=ae tz w1 hb;have m2:=ae OA w1 hb;have aL:=af hb)
   | (go_at_call 55;refine(ae yU w1 (ae aL)).mono ?_;rintro e w2 ⟨rfl,aK⟩))
  go_ret;exact⟨rfl,zTs aL aK⟩
def Ug(B gm ga gb:Nat)(W:World):Prop:=W.cell? ⟨B,0,none⟩=some (.map (some gm))/\W.cell? ⟨B+1,0,none⟩=some (.map (some ga))/\W.cell? ⟨B+1+1,0,none⟩=some (.map (some gb))/\W.cell? ⟨B+1+1+1,0,none⟩=some (.func (.func 55) #[] #[])
theorem Ug.below{B C gm ga gb:Nat}{W W':World}(h:Ug B gm ga gb W)(hb:Below C W W')(hC:B+1+1+1<C):Ug B gm ga gb W' :=⟨(hb.cell (p:=⟨B,0,none⟩) (by show B<_;omega)).trans h.1,(hb.cell (p:=⟨B+1,0,none⟩) (by show B+1<_;omega)).trans h.2.1,(hb.cell (p:=⟨B+1+1,0,none⟩) (by show B+1+1<_;omega)).trans h.2.2.1,(hb.cell (p:=⟨B+1+1+1,0,none⟩) hC).trans h.2.2.2⟩
theorem Ug.grown{B g gm ga gb:Nat}{W W':World}(h:Ug B gm ga gb W)(hb:W.grownBy W' (some g))(hC:B+1+1+1<g):Ug B gm ga gb W' :=⟨hb.cell h.1 (fun e=>by have:=zOi e;dsimp only at this;omega),hb.cell h.2.1 (fun e=>by have:=zOi e;dsimp only at this;omega),hb.cell h.2.2.1 (fun e=>by have:=zOi e;dsimp only at this;omega),hb.cell h.2.2.2 (fun e=>by have:=zOi e;dsimp only at this;omega)⟩
def UX(Fm Fa Fb:ByteArray->Option Int)(U:List ByteArray)(pa pb:ByteArray->Bool):ByteArray->Option Int:=tT (tT Fm Fb (U.filter fun k=>!pb k)) Fa (U.filter fun k=>!pa k)
def Gx(w:World)(U:List ByteArray)(Fa Fb:ByteArray->Option Int)(p:ByteArray->Bool):Prop:=(∀ k∈U,∀ W,Below w.heap.size w W->Calls Tryz.prog 55 #[(Value.int .i64) ((Fa k).getD (fY).z),(Value.int .i64) ((Fb k).getD (fY).z)] W fun e w'=>e=.returned (.bool (p k))/\Below W.heap.size W w')/\∀ k∈U,Fa k=none->Fb k=none->p k=true
theorem Gx.at{w W:World}{U:List ByteArray}{Fa Fb:ByteArray->Option Int}{p:ByteArray->Bool}(h:Gx w U Fa Fb p)(hW:Below w.heap.size w W):Gx W U Fa Fb p:=⟨fun k hk W' hb=>h.1 k hk W' (hW.trans (hb.mono hW.size)),h.2⟩
theorem zhr(ga gb na nb:Nat)(Fa Fb:ByteArray->Option Int)(U:List ByteArray)(p:ByteArray->Bool)(W:World)(B x y z:Nat)(hA:Mp fY W ga na Fa)(hB:Mp fY W gb nb Fb)(hU:By U)(Ga:∀ k,(Fa k).isSome=true->k∈U)(F9:∀ k,(Fb k).isSome=true->k∈U)(dy:∀ k∈U,(fY).vA k)(hl:U.length<=1000)(hn:na<=20000/\nb<=20000)(hs:Gx W U Fa Fb p)(hx:Ug B x y z W)(hBW:B+1+1+1<W.heap.size) :
  Calls Tryz.prog 116 #[.map (some ga),.map (some gb),.func (.func 55) #[] #[]] W fun e w'=>∃ a c,e=.returned (.slice a (U.filter fun k=>!p k).length c)/\(bT Ih 1 9 w' W.heap.size (.slice a (U.filter fun k=>!p k).length c) (U.filter fun k=>!p k)/\Below W.heap.size W w')/\w'.cell? ⟨B,0,none⟩=some (.map (some x))/\w'.cell? ⟨B+1,0,none⟩=some (.map (some y))/\w'.cell? ⟨B+1+1,0,none⟩=some (.map (some z))/\w'.cell? ⟨B+1+1+1,0,none⟩=some (.func (.func 55) #[] #[]):=by
 refine(zea ga gb na nb Fa Fb U p W hA hB hU Ga F9 dy hl hn hs.1 hs.2).mono ?_;rintro e w' ⟨v,rfl,h1,h2⟩;obtain⟨a,c,rfl,_⟩:=h1.kk Fi (Nat.le_trans (List.length_filter_le _ _) (by omega));exact⟨a,c,rfl,⟨h1,h2⟩,hx.below h2 hBW⟩
theorem zgR(go gb n m:Nat)(F G:ByteArray->Option Int)(a:Option Addr)(c:Nat)(ks:List ByteArray)(W:World)(B x y z:Nat)(hF:Mp fY W go n F)(hG:Mp fY W gb m G)(aO:go≠gb)(hk:fG Ih 1 W a c ks)(dy:∀ k∈ks,(fY).vA k)(hl:ks.length<=1000)(hn:n<=10000)(hx:Ug B x y z W)(hB:B+1+1+1<go) :
  Calls Tryz.prog 115 #[.map (some go),.map (some gb),.slice a ks.length c] W fun e w'=>e=.returned (.tuple #[])/\(Mp fY w' go (n+ks.length) (tT F G ks)/\W.grownBy w' (some go))/\w'.cell? ⟨B,0,none⟩=some (.map (some x))/\w'.cell? ⟨B+1,0,none⟩=some (.map (some y))/\w'.cell? ⟨B+1+1,0,none⟩=some (.map (some z))/\w'.cell? ⟨B+1+1+1,0,none⟩=some (.func (.func 55) #[] #[]):=by
 refine(zgW go gb n m F G a c ks W hF hG aO hk dy hl hn).mono ?_;rintro e w' ⟨rfl,h1,h2⟩;exact⟨rfl,⟨h1,h2⟩,hx.grown h2 hB⟩
theorem Wf(ga gb na nb:Nat)(Fa Fb:ByteArray->Option Int)(U:List ByteArray)(p:ByteArray->Bool)(w1:World)(B x y z:Nat)(hA:Mp fY w1 ga na Fa)(hB:Mp fY w1 gb nb Fb)(hU:By U)(Ga:∀ k,(Fa k).isSome=true->k∈U)(F9:∀ k,(Fb k).isSome=true->k∈U)(dy:∀ k∈U,(fY).vA k)(hl:U.length<=1000)(hn:na<=20000/\nb<=20000)(hs:Gx w1 U Fa Fb p)(hx:Ug B x y z w1)(hBW:B+1+1+1<w1.heap.size)(W:World)(hW:Below w1.heap.size w1 W) :
  Calls Tryz.prog 116 #[.map (some ga),.map (some gb),.func (.func 55) #[] #[]] W fun e w'=>∃ a c,e=.returned (.slice a (U.filter fun k=>!p k).length c)/\(bT Ih 1 9 w' w1.heap.size (.slice a (U.filter fun k=>!p k).length c) (U.filter fun k=>!p k)/\Below w1.heap.size w1 w')/\w'.cell? ⟨B,0,none⟩=some (.map (some x))/\w'.cell? ⟨B+1,0,none⟩=some (.map (some y))/\w'.cell? ⟨B+1+1,0,none⟩=some (.map (some z))/\w'.cell? ⟨B+1+1+1,0,none⟩=some (.func (.func 55) #[] #[]):=by
 refine(zhr ga gb na nb Fa Fb U p W B x y z (hA.below hW) (hB.below hW) hU Ga F9 dy hl hn (hs.at hW) (hx.below hW hBW) (by have:=hW.size;omega)).mono ?_;rintro e w' ⟨a,c,rfl,⟨h1,h2⟩,h3⟩;exact⟨a,c,rfl,⟨bT.Jh h1 hW.size,hW.trans (h2.mono hW.size)⟩,h3⟩
theorem zct(go gb n m:Nat)(F G:ByteArray->Option Int)(ks:List ByteArray)(w1:World)(B x y z:Nat)(hF:Mp fY w1 go n F)(hG:Mp fY w1 gb m G)(aO:go≠gb)(dy:∀ k∈ks,(fY).vA k)(hl:ks.length<=1000)(hn:n<=10000)(hx:Ug B x y z w1)(hB:B+1+1+1<go)(W:World)(a:Option Addr)(c:Nat)(h:bT Ih 1 9 W w1.heap.size (.slice a ks.length c) ks/\Below w1.heap.size w1 W)(W':World)(hW:Below W.heap.size W W') :
  Calls Tryz.prog 115 #[.map (some go),.map (some gb),.slice a ks.length c] W' fun e w'=>e=.returned (.tuple #[])/\(Mp fY w' go (n+ks.length) (tT F G ks)/\Below (B+1+1+1+1) w1 w')/\w'.cell? ⟨B,0,none⟩=some (.map (some x))/\w'.cell? ⟨B+1,0,none⟩=some (.map (some y))/\w'.cell? ⟨B+1+1,0,none⟩=some (.map (some z))/\w'.cell? ⟨B+1+1+1,0,none⟩=some (.func (.func 55) #[] #[]):=by
 have bB:Below w1.heap.size w1 W':=h.2.trans (hW.mono h.2.size);have aM:=hF.lt;obtain⟨a',c',e',SC⟩:=h.1.kk Fi (by omega);cases e'
 refine(zgR go gb n m F G a c ks W' B x y z (hF.below bB) (hG.below bB) aO (SC.below hW) dy hl hn (hx.below bB (by omega)) hB).mono ?_;rintro e w' ⟨rfl,⟨h1,h2⟩,h3⟩;refine⟨rfl,⟨h1,(bB.mono (by omega)).trans (zBr.grown h2 (by have:=bB.size;omega) (fun j hj=>by cases hj;omega))⟩,h3⟩
theorem zdu(gm ga gb nm na nb:Nat)(Fm Fa Fb:ByteArray->Option Int)(U:List ByteArray)(pa pb pc:ByteArray->Bool)(w:World)(hM:Mp fY w gm nm Fm)(hA:Mp fY w ga na Fa)(hB:Mp fY w gb nb Fb)(hU:By U)(hiM:∀ k,(Fm k).isSome=true->k∈U)(Ga:∀ k,(Fa k).isSome=true->k∈U)(F9:∀ k,(Fb k).isSome=true->k∈U)(dy:∀ k∈U,(fY).vA k)(hl:U.length<=1000)(hn:nm<=5000/\na<=5000/\nb<=5000)
    (sa:Gx w U Fm Fa pa) (sb:Gx w U Fm Fb pb) (sc:Gx w U Fa Fb pc) :
    Calls Tryz.prog 54 #[.map (some gm),.map (some ga),.map (some gb),.func (.func 55) #[] #[]] w fun e w'=>∃ gE v,e=.returned (.tuple #[.map (some gE),v])/\w.heap.size<=gE/\Mp fY w' gE 7000 (UX Fm Fa Fb U pa pb)/\bT Ih 1 9 w' w.heap.size v ((U.filter fun k=>!pc k).filter fun k=>!(pa k || pb k))/\Below w.heap.size w w':=by
  have gy:Below w.heap.size w ((((w.alloc (.cells #[.map (some gm)] 112)).alloc (.cells #[.map (some ga)] 112)).alloc (.cells #[.map (some gb)] 112)).alloc (.cells #[.func (.func 55) #[] #[]] 116)):=(((zBr.alloc zNr _).alloc (by rw [aH];omega) _).alloc (by rw [aH,aH];omega) _).alloc (by rw [aH,aH,aH];omega) _;have s0:((((w.alloc (.cells #[.map (some gm)] 112)).alloc (.cells #[.map (some ga)] 112)).alloc (.cells #[.map (some gb)] 112)).alloc (.cells #[.func (.func 55) #[] #[]] 116)).heap.size=w.heap.size+1+1+1+1:=by rw [aH,aH,aH,aH]
  have DO:Ug w.heap.size gm ga gb ((((w.alloc (.cells #[.map (some gm)] 112)).alloc (.cells #[.map (some ga)] 112)).alloc (.cells #[.map (some gb)] 112)).alloc (.cells #[.func (.func 55) #[] #[]] 116)) :=
    ⟨cC _ (cC _ (cC _ (dK _ _ _))),
     cC _ (cC _ (by have:=dK (w.alloc (.cells #[.map (some gm)] 112)) (.map (some ga)) 112;rwa [aH] at this)),
     cC _ (by have:=dK ((w.alloc (.cells #[.map (some gm)] 112)).alloc (.cells #[.map (some ga)] 112)) (.map (some gb)) 112;rwa [aH,aH] at this),
     by have:=dK (((w.alloc (.cells #[.map (some gm)] 112)).alloc (.cells #[.map (some ga)] 112)).alloc (.cells #[.map (some gb)] 112)) (.func (.func 55) #[] #[]) 116;rwa [aH,aH,aH] at this⟩
  have HC:=af (YT gm nm Fm _ (hM.below gy));have iw:=af gy;have zl:=af s0;have HX0:=af DO;have HM:=af hM;have HA:=af hA;have HB:=af hB;have JN:=hM.lt;have PO:=hA.lt;have AM:=hB.lt;have HU:=af hU;have HIM:=af hiM;have HIA:=af Ga;have HIB:=af F9;have yx:=af dy;have HSA:=af sa;have HSB:=af sb;have HSC:=af sc;have Zv:Hid (∀ (q:ByteArray->Bool),∀ k∈U.filter (fun k=>!q k),(fY).vA k):=af (fun q k hk=>dy k (List.mem_filter.1 hk).1);have ZD:Hid (∀ (q:ByteArray->Bool),(U.filter (fun k=>!q k)).length<=1000):=af (fun q=>Nat.le_trans (List.length_filter_le _ _) hl);clear gy s0 DO hM hA hB hU hiM Ga F9 dy sa sb sc;go_enter Tryz.func54,Tryz.ntmps54
  go_wp2_with fail
  refine(ae HC).mono ?_;rintro e w1 ⟨gE,rfl,hgE,uO,ay⟩;have dm:Below w.heap.size w w1:=(ae iw).trans (ay.mono (by rw [ae zl];omega));have GK:=(ae HX0).below ay (by rw [ae zl];omega);have dw:w.heap.size+1+1+1+1<=w1.heap.size:=by have:=ay.size;rw [ae zl] at this;exact this
  rw [ae zl] at hgE;have zlm:=uO.lt;have Ov:=af (Wf gm gb nm nb Fm Fb U pb w1 w.heap.size gm ga gb ((ae HM).below dm) ((ae HB).below dm) (ae HU) (ae HIM) (ae HIB) (ae yx) hl (by omega) ((ae HSB).at dm) GK (by omega));have nK:=af (zct gE gb nm nb Fm Fb (U.filter fun k=>!pb k) w1 w.heap.size gm ga gb uO ((ae HB).below dm) (by omega) (ae Zv pb) (ae ZD pb) (by omega) GK (by omega));have aL:=af dm;obtain⟨q0,q1,q2,q3⟩:=GK;have hNL:=ae ZD pb;generalize (U.filter fun k=>!pb k).length=NB at Ov nK hNL;clear uO ay dm HC iw zl HX0;go_upto_region 2 with fail
  go_region_held3 (fun w'=>w'.cell? ⟨w.heap.size,0,none⟩=some (.map (some gm))/\w'.cell? ⟨w.heap.size+1,0,none⟩=some (.map (some ga))/\w'.cell? ⟨w.heap.size+1+1,0,none⟩=some (.map (some gb))/\w'.cell? ⟨w.heap.size+1+1+1,0,none⟩=some (.func (.func 55) #[] #[])) (first | go_keep | (go_split_ands;refine⟨?_,?_,?_,?_⟩ <;> go_keep))
    (first | (go_at_call 116;refine(ae Ov _ (by repeat (first | exact zBr | refine Below.drew ?_))).mono ?_;rintro e w2 ⟨a2,c2,rfl,h2,r0,r1,r2,r3⟩) | (go_at_call 115;refine(ae nK _ _ _ h2 _ (by repeat (first | exact zBr | refine Below.drew ?_))).mono ?_;rintro e w3 ⟨rfl,h3,t0,t1,t2,t3⟩))
  obtain⟨qO,bR⟩:=h3;have j8:Below w.heap.size w w3:=(ae aL).trans (bR.mono (by omega));have lF:Ug w.heap.size gm ga gb w3:=⟨t0,t1,t2,t3⟩;have zll:=qO.lt;have W8:w.heap.size+1+1+1+1<=w3.heap.size:=by have:=bR.size;omega
  have Ou:=af (Wf gm ga nm na Fm Fa U pa w3 w.heap.size gm ga gb ((ae HM).below j8) ((ae HA).below j8) (ae HU) (ae HIM) (ae HIA) (ae yx) hl (by omega) ((ae HSA).at j8) lF (by omega));have Oq:=af (zct gE ga (nm+NB) na (tT Fm Fb (U.filter fun k=>!pb k)) Fa (U.filter fun k=>!pa k) w3 w.heap.size gm ga gb qO ((ae HA).below j8) (by omega) (ae Zv pa) (ae ZD pa) (by omega) lF (by omega));have cT:=af j8;have hNA:=ae ZD pa;generalize (U.filter fun k=>!pa k).length=NA at Ou Oq hNA;clear qO bR j8 lF h2 Ov nK aL q0 q1 q2 q3 r0 r1 r2 r3;go_upto_region 3 with fail
  go_region_held3 (fun w'=>w'.cell? ⟨w.heap.size,0,none⟩=some (.map (some gm))/\w'.cell? ⟨w.heap.size+1,0,none⟩=some (.map (some ga))/\w'.cell? ⟨w.heap.size+1+1,0,none⟩=some (.map (some gb))/\w'.cell? ⟨w.heap.size+1+1+1,0,none⟩=some (.func (.func 55) #[] #[])) (first | go_keep | (go_split_ands;refine⟨?_,?_,?_,?_⟩ <;> go_keep))
    (first | (go_at_call 116;refine(ae Ou _ (by repeat (first | exact zBr | refine Below.drew ?_))).mono ?_;rintro e w4 ⟨a4,c4,rfl,h4,r0,r1,r2,r3⟩) | (go_at_call 115;refine(ae Oq _ _ _ h4 _ (by repeat (first | exact zBr | refine Below.drew ?_))).mono ?_;rintro e w5 ⟨rfl,h5,s0,s1,s2,s3⟩))
  obtain⟨Z4,gJ⟩:=h5;have zc:Below w.heap.size w w5:=(ae cT).trans (gJ.mono (by omega));have hx5:Ug w.heap.size gm ga gb w5:=⟨s0,s1,s2,s3⟩;have zlk:=Z4.lt;have hz5:w.heap.size+1+1+1+1<=w5.heap.size:=by have:=gJ.size;omega
  have Zz:=af (Wf ga gb na nb Fa Fb U pc w5 w.heap.size gm ga gb ((ae HA).below zc) ((ae HB).below zc) (ae HU) (ae HIA) (ae HIB) (ae yx) hl (by omega) ((ae HSC).at zc) hx5 (by omega) w5 zBr);have lj:=af zc;have ZA:=af Z4;have HX5:=af hx5;clear Z4 gJ zc hx5 h4 Ou Oq cT t0 t1 t2 t3 r0 r1 r2 r3;go_wp2_with fail
  refine(ae Zz).mono ?_;rintro e w6 ⟨a6,c6,rfl,⟨hl6,tK⟩,_⟩;have AA:KI w6 w5.heap.size 117 #[.pointer (some ⟨w.heap.size+1+1+1,0,none⟩),.pointer (some ⟨w.heap.size,0,none⟩),.pointer (some ⟨w.heap.size+1,0,none⟩),.pointer (some ⟨w.heap.size+1+1,0,none⟩)] (U.filter fun k=>!pc k) (fun k=>pa k || pb k):=fun W x hx hW=>by have Sw:=(List.mem_filter.1 hx).1;have hW5:Below w5.heap.size w5 W:=tK.trans hW;have Cq:Below w.heap.size w W:=zTs lj hW5;obtain⟨y0,y1,y2,y3⟩:=(ae HX5).below hW5 (by omega);exact zku x _ _ _ _ gm ga gb nm na nb Fm Fa Fb (pa x) (pb x) W y3 y0 y1 y2 ((ae HM).below Cq) ((ae HA).below Cq) ((ae HB).below Cq) (ae yx x Sw) ((ae HSA).1 x Sw W Cq) (fun W' hW'=>(ae HSB).1 x Sw W' (Cq.trans (hW'.mono Cq.size)))
  have HD:=af (zi2 117 _ _ _ w5.heap.size _ w6 (enters_of Tryz.func117 (by kernel_rfl) rfl) AA tK.size hl6 (ae ZD pc));have UB:=af tK;have Yh:=(ae lj).size;clear AA hl6 tK Zz HX5;generalize (U.filter fun k=>!pc k).length=NC at HD;go_wp2_with fail
  refine(ae HD).mono ?_;rintro e w7 ⟨v7,rfl,PJ,XZ⟩;have Yg:Below w5.heap.size w5 w7:=(ae UB).trans XZ;have BB:=af (bT.Jh PJ Yh);have HM7:Hid (Mp fY w7 gE 7000 (UX Fm Fa Fb U pa pb)):=af (((ae ZA).below Yg).mono (by omega));have HB7:=af ((ae lj).trans (Yg.mono Yh));obtain⟨a7,m7,c7,rfl⟩:=PJ.shape;clear PJ XZ Yg HD UB ZA lj;go_wp2;go_ret2;exact⟨gE,_,rfl,by omega,ae HM7,ae BB,ae HB7⟩
end
theorem vZ{α:Type} [BEq α] [LawfulBEq α]:∀ {l m:List α},l.Nodup->(∀ x∈l,x∈m)->l.length<=m.length
 | [],m,_,_=>Nat.zero_le _
 | x :: l,m,hn,hs=>by obtain⟨h1,h2⟩:=List.nodup_cons.1 hn;have hx:=hs x (by simp);have:=vZ (l:=l) (m:=m.erase x) h2 (fun y hy=>(List.mem_erase_of_ne (show y≠x from fun e=>h1 (e ▸ hy))).2 (hs y (by simp [hy])));rw [List.length_erase_of_mem hx] at this;have jf:0<m.length:=List.length_pos_of_mem hx;rw [zLc];omega
section
variable {L c:List Int}
end
def Wp(m a b:List Int)(X:Int×Nat×List Int):Int×List Int :=if X.1≠0 then (X.1,[]) else if 8<(tC m a b X.2.2).length then (4,[]) else (0,xJ X.2.2 (tC m a b X.2.2) 0)
def nT(m a b:List Int):Int×List Int:=Wp m a b (gp m.length (tU m a b) 40)
theorem zX{O Q:Int->Int×List Int}:∀ k:Nat,(∀ h:Int,1<=h->h<=k->O h=Q h)->kF O k=kF Q k
 | 0,_=>rfl
 | k+1,h=>by
  show kF O k+_=kF Q k+_
  rw [zX k (fun x h1 h2=>h x h1 (by omega)),h ((k:Int)+1) (by omega) (by omega)]
section
variable {m a b:List Int}
theorem Wo(hm:aB m)(ha:aB a)(hb:aB b)(bm:bj m)(ba:bj a)(bb:bj b){c:List Int}(hc:aB c){X:Int×Nat×List Int}{N x:Nat}(e1:X.1=0)(pk:Pk N X.2.2 x)(po:∀ h:Int,1<=h->h<=40->aD X.2.2 h=tU m a b h)
  (hO:∀ h:Int,1<=h->h<=40->tU m a b h=aD c h) (hH:∀ s,y9 m a b s=aU (ak c 8) s) :
  (Wp m a b X).1=0/\aB (Wp m a b X).2/\(Wp m a b X).2.length=N/\sameO (Wp m a b X).2 c 40=true/\lW (ak (Wp m a b X).2 8) (ak c 8)=true:=by
 haveI:=se
 have Tb:=dN hc.ok
 -- the roots are those of c
 have mF:∀ r:(ByteArray×Int),r∈tC m a b X.2.2 ↔ r∈ak c 8:=fun r=>by
  rw [uo,hH];have zlq:∀ h:Int,1<=h->h<=40->(aP X.2.2 h=0 ↔ aq c h≠0):=fun h h1 h2=>by
   have ho:=(po h h1 h2).trans (hO h h1 h2);constructor
   ·intro hx ht;have h3:=(aJ.1 hx).2.2;unfold aD at ho;rw [if_neg h3,if_pos ht] at ho;have:=congrArg Prod.fst ho;have h4:=(pk.aV.jB h1 h2 h3).2.2.2.2.1;unfold gu at this;dsimp only at this;omega
   ·intro ht;refine aJ.2 ⟨pk.aV.cW,aF.2 ⟨h1,h2⟩,fun h3=>?_⟩;unfold aD at ho;rw [if_pos h3,if_neg ht] at ho;have:=congrArg Prod.fst ho;have h4:=(hc.jB h1 h2 ht).2.2.2.2.1;unfold gu at this;dsimp only at this;omega
  constructor
  ·rintro ⟨h1,h2⟩;have h0:aU (ak c 8) r.1≠0:=fun e=>kP _ (by rw [h1,e] at h2;exact h2)
   obtain⟨s,h⟩:=r;dsimp only at h1 h2 h0;subst h1;rcases Aq hc s with e | ⟨b1,_,_⟩
   ·exact absurd e h0
   ·exact(qJ Tb b1).1 rfl
  ·intro hr;obtain⟨p1,p2⟩:=Tb.pos r hr;obtain⟨s,h⟩:=r;dsimp only at p1 p2;have GQ:aU (ak c 8) s=h:=(qJ Tb p1).2 hr;refine⟨GQ.symm,?_⟩;refine(zlq h p1 p2).2 ?_;rcases Aq hc s with e | ⟨_,_,b3⟩
   ·rw [GQ] at e;omega
   ·rw [GQ] at b3;exact(aJ.1 b3).2.2
 have zlb:(tC m a b X.2.2).Nodup:=by refine List.Pairwise.imp ?_ (List.pairwise_map.1 rK);intro x y DN e;exact DN (by rw [e])
 have zla:(ak c 8).Nodup:=by refine List.Pairwise.imp ?_ (List.pairwise_map.1 Tb.nodup);intro x y DN e;exact DN (by rw [e])
 have hlr:(tC m a b X.2.2).length=(ak c 8).length :=Nat.le_antisymm (vZ zlb (fun x hx=>(mF x).1 hx)) (vZ zla (fun x hx=>(mF x).2 hx));have h8:¬ 8<(tC m a b X.2.2).length:=by rw [hlr];have:=eA c 8;omega
 have hS:Wp m a b X=(0,xJ X.2.2 (tC m a b X.2.2) 0):=by unfold Wp;rw [if_neg (fun h=>h e1),if_neg h8]
 have r:=Ja hm ha hb bm ba bb pk.aV pk.kV pk.none_ (by omega);rw [hS];dsimp only;generalize xJ X.2.2 (tC m a b X.2.2) 0=Y at *;refine⟨rfl,r.aV,r.len.trans pk.len,jV.2 (fun j hj=>?_),?_⟩
 ·rw [(r.tc ((j:Int)+1) (by omega) (by omega)).1,po _ (by omega) (by omega)];exact hO _ (by omega) (by omega)
 ·rw [r.roots];have rS:vw (tC m a b X.2.2):=⟨rK,fun x hx=>Tb.pos x ((mF x).1 hx)⟩;exact(vP rS Tb).2 ⟨hlr,fun x hx=>(mF x).1 hx⟩
theorem Jb(hm:aB m)(ha:aB a)(hb:aB b)(bm:bj m)(ba:bj a)(bb:bj b){c:List Int}(hc:aB c)(hlen:c.length=m.length)(hO:∀ h:Int,1<=h->h<=40->tU m a b h=aD c h)(hH:∀ s,y9 m a b s=aU (ak c 8) s) :
  (nT m a b).1=0/\aB (nT m a b).2/\(nT m a b).2.length=m.length/\sameO (nT m a b).2 c 40=true/\lW (ak (nT m a b).2 8) (ak c 8)=true:=by
 have hl:=hm.len;obtain⟨i1,i2,i3⟩:=zV hl.1 hl.2 (E4 (m:=m) ha ba hb bb) 40 zNr;have su:288+kF (tU m a b) 40<=m.length:=by have e:=zX (O:=tU m a b) (Q:=aD c) 40 (fun h h1 h2=>hO h h1 (by omega));rw [e,<- hlen];exact Ma hc
 have e1:=i1.2 su;obtain⟨pk,_,po,_⟩:=i3 e1;unfold nT;exact Wo hm ha hb bm ba bb hc e1 pk (fun h h1 h2=>po h h1 (by omega)) hO hH
end
def oT(m a b:List Int)(k:Int):Int×List Int:=if oL m k=oL a k then oL b k else oL a k
theorem V4{m a b:List Int}{k:Int}(h1:1<=k)(h2:k<=40):oT m a b k=tU m a b k:=by
 have e:∀ L,oL L k=aD L k:=fun L=>by unfold oL;rw [if_pos ⟨h1,h2⟩]
 unfold oT tU;rw [e,e,e]
theorem V3{m a b:List Int}{k:Int}(h:¬ (1<=k/\k<=40)):oT m a b k=(-1,[]):=by unfold oT oL;rw [if_neg h,if_neg h,if_neg h,if_pos rfl]
theorem IN{N:Nat}{O Q:Int->Int×List Int}:∀ k:Nat,(∀ h:Int,1<=h->h<=k->O h=Q h)->gp N O k=gp N Q k
 | 0,_=>rfl
 | k+1,h=>by
  have ih:=IN (N:=N) k (fun x h1 h2=>h x h1 (by omega));have e:=h ((k:Int)+1) (by omega) (by omega)
  show(if (gp N O k).1≠0 then gp N O k else if (O ((k:Int)+1)).1<0 then gp N O k
   else if N<(gp N O k).2.1+(O ((k:Int)+1)).2.length then (4,0,[])
   else (0,(gp N O k).2.1+(O ((k:Int)+1)).2.length,zZ (gp N O k).2.2 (gp N O k).2.1 ((k:Int)+1) (O ((k:Int)+1)).1 (O ((k:Int)+1)).2))=(if (gp N Q k).1≠0 then gp N Q k else if (Q ((k:Int)+1)).1<0 then gp N Q k
   else if N<(gp N Q k).2.1+(Q ((k:Int)+1)).2.length then (4,0,[])
   else (0,(gp N Q k).2.1+(Q ((k:Int)+1)).2.length,zZ (gp N Q k).2.2 (gp N Q k).2.1 ((k:Int)+1) (Q ((k:Int)+1)).1 (Q ((k:Int)+1)).2))
  rw [ih,e]
theorem zdT(N:Nat)(m a b:List Int):gp N (oT m a b) 40=gp N (tU m a b) 40:=IN 40 (fun h h1 h2=>V4 h1 (by omega))
theorem zhn{m a b:List Int}(ha:aB a)(nk:bj a)(hb:aB b)(Cn:bj b):tx (oT m a b):=fun h h1 h2=>by rw [V4 h1 h2];exact E4 ha nk hb Cn h h1 h2
section
variable {w:World} {Fm Fa Fb:Int->Option OV} {m a b:List Int}
theorem sf.three(hm:sf w Fm (oL m))(ha:sf w Fa (oL a))(hb:sf w Fb (oL b)):sf w (zar Fm Fa Fb fL (fun k=>decide (oL m k=oL a k)) (fun k=>decide (oL m k=oL b k))) (oT m a b):=fun k=>by
 unfold zar vM;by_cases hk:k∈fL
 ·by_cases h1:oL m k=oL a k
  ·have n1:¬ (fL.filter fun k=>!decide (oL m k=oL a k)).any (fun y=>decide (y=k))=true:=fun h=>by have:=(List.mem_filter.1 (iD.1 h)).2;rw [decide_eq_true h1] at this;cases this
   rw [if_neg n1];have e1:oT m a b k=oL b k:=by unfold oT;rw [if_pos h1]
   by_cases h2:oL m k=oL b k
   ·have n2:¬ (fL.filter fun k=>!decide (oL m k=oL b k)).any (fun y=>decide (y=k))=true:=fun h=>by have:=(List.mem_filter.1 (iD.1 h)).2;rw [decide_eq_true h2] at this;cases this
    rw [if_neg n2,e1,<- h2];exact hm k
   ·have n2:(fL.filter fun k=>!decide (oL m k=oL b k)).any (fun y=>decide (y=k))=true:=iD.2 (List.mem_filter.2 ⟨hk,by rw [decide_eq_false h2];rfl⟩);rw [if_pos n2,e1];exact hb k
  ·have n1:(fL.filter fun k=>!decide (oL m k=oL a k)).any (fun y=>decide (y=k))=true:=iD.2 (List.mem_filter.2 ⟨hk,by rw [decide_eq_false h1];rfl⟩);have e1:oT m a b k=oL a k:=by unfold oT;rw [if_neg h1]
   rw [if_pos n1,e1];exact ha k
 ·have gI:∀ q:Int->Bool,¬ (fL.filter q).any (fun y=>decide (y=k))=true:=fun q h=>hk (List.mem_filter.1 (iD.1 h)).1
  rw [if_neg (gI _),if_neg (gI _),V3 (fun h=>hk (kH.2 h))];rcases hm k with h | ⟨t,x,c,l,h1,h2,h3,h4,h5,_⟩
  ·exact .inl ⟨h.1,rfl⟩
  ·exfalso
   have:oL m k=(-1,[]):=by unfold oL;rw [if_neg (fun h=>hk (kH.2 h))]
   rw [this] at h2;have:=congrArg Prod.fst h2;dsimp only at this;omega
end
theorem zap(m a b:List Int):((fL.filter fun k=>!decide (oL a k=oL b k)).filter fun k=>!(decide (oL m k=oL a k) || decide (oL m k=oL b k)))=fL.filter (E0 m a b):=by rw [List.filter_filter];refine List.filter_congr (fun k hk=>?_);have hr:=kH.1 hk;unfold E0 oL;rw [if_pos hr,if_pos hr,if_pos hr];by_cases h1:aD m k=aD a k <;> by_cases h2:aD m k=aD b k <;> by_cases h3:aD a k=aD b k <;> simp [h1,h2,h3]
theorem MS{R:List (ByteArray×Int)}{s:ByteArray}(h:(xT R s).isSome=true):s∈R.map (·.1):=by unfold xT at h;rw [Option.isSome_map] at h;obtain⟨r,hr⟩:=Option.isSome_iff_exists.1 h;exact List.mem_map.2 ⟨r,List.mem_of_find?_eq_some hr,fF.1 (List.find?_some (p:=fun(r:(ByteArray×Int))=>r.1 == s) hr)⟩
theorem FY{L:List Int}(hf:aB L){s:ByteArray}{h:Int}(hq:xT (ak L 8) s=some h):1<=h/\h<=40:=by unfold xT at hq;rw [Option.map_eq_some_iff] at hq;obtain⟨r,hr,rfl⟩:=hq;exact(dN hf.ok).pos r (List.mem_of_find?_eq_some hr)
section
variable {m a b:List Int}
def za(m a b:List Int):ByteArray->Option Int:=UX (xT (ak m 8)) (xT (ak a 8)) (xT (ak b 8)) (xR m a b) (fun s=>aU (ak m 8) s == aU (ak a 8) s) (fun s=>aU (ak m 8) s == aU (ak b 8) s)
theorem WC{s:ByteArray}(hs:s∈xR m a b):(za m a b s).getD 0=y9 m a b s:=by
 unfold za UX tT y9;by_cases h1:aU (ak m 8) s=aU (ak a 8) s
 ·have n1:¬ ((xR m a b).filter fun s=>!(aU (ak m 8) s == aU (ak a 8) s)).any (fun y=>decide (y=s))=true:=fun h=>by have:=(List.mem_filter.1 (jF.1 h)).2;rw [beq_iff_eq.2 h1] at this;cases this
  rw [if_neg n1,if_pos h1.symm];by_cases h2:aU (ak m 8) s=aU (ak b 8) s
  ·have n2:¬ ((xR m a b).filter fun s=>!(aU (ak m 8) s == aU (ak b 8) s)).any (fun y=>decide (y=s))=true:=fun h=>by have:=(List.mem_filter.1 (jF.1 h)).2;rw [beq_iff_eq.2 h2] at this;cases this
   rw [if_neg n2,<- h2];exact qK _ _
  ·have n2:((xR m a b).filter fun s=>!(aU (ak m 8) s == aU (ak b 8) s)).any (fun y=>decide (y=s))=true:=jF.2 (List.mem_filter.2 ⟨hs,by rw [beq_eq_false_iff_ne.2 h2];rfl⟩);rw [if_pos n2];exact qK _ _
 ·have n1:((xR m a b).filter fun s=>!(aU (ak m 8) s == aU (ak a 8) s)).any (fun y=>decide (y=s))=true:=jF.2 (List.mem_filter.2 ⟨hs,by rw [beq_eq_false_iff_ne.2 h1];rfl⟩);rw [if_pos n1,if_neg (fun e=>h1 e.symm)];exact qK _ _
theorem WB{s:ByteArray}:za m a b s=xT (ak m 8) s\/za m a b s=xT (ak a 8) s\/za m a b s=xT (ak b 8) s:=by
 unfold za UX tT;split
 ·exact .inr (.inl rfl)
 ·split
  ·exact .inr (.inr rfl)
  ·exact .inl rfl
theorem zbs(hm:aB m)(ha:aB a)(hb:aB b){s:ByteArray}{h:Int}(hq:za m a b s=some h):1<=h/\h<=40:=by
 rcases WB (m:=m) (a:=a) (b:=b) (s:=s) with e | e | e
 ·exact FY hm (by rw [<- e];exact hq)
 ·exact FY ha (by rw [<- e];exact hq)
 ·exact FY hb (by rw [<- e];exact hq)
theorem zcF{s:ByteArray}(h:(xT (ak m 8) s).isSome=true):s∈xR m a b:=qI.2 (by rw [List.map_append,List.map_append,List.mem_append,List.mem_append];exact .inl (.inl (MS h)))
theorem zcH{s:ByteArray}(h:(xT (ak a 8) s).isSome=true):s∈xR m a b:=qI.2 (by rw [List.map_append,List.map_append,List.mem_append,List.mem_append];exact .inl (.inr (MS h)))
theorem zcG{s:ByteArray}(h:(xT (ak b 8) s).isSome=true):s∈xR m a b:=qI.2 (by rw [List.map_append,List.map_append,List.mem_append,List.mem_append];exact .inr (MS h))
theorem zeg{s:ByteArray}(h:(za m a b s).isSome=true):s∈xR m a b:=by
 rcases WB (m:=m) (a:=a) (b:=b) (s:=s) with e | e | e
 ·exact zcF (by rw [<- e];exact h)
 ·exact zcH (by rw [<- e];exact h)
 ·exact zcG (by rw [<- e];exact h)
theorem Jp(s:ByteArray):∀ l:List ByteArray,(insN l s).length<=l.length+1
 | []=>by simp [insN]
 | x :: l=>by
  unfold insN;split
  ·simp
  ·split
   ·simp
   ·have:=Jp s l;simp only [zLc];omega
theorem WM(ns:List ByteArray):∀ l:List ByteArray,(ns.foldl insN l).length<=l.length+ns.length:=by
 induction ns with
 | nil=>intro l;exact zNr
 | cons s ns ih =>
  intro l;have h1:=ih (insN l s);have h2:=Jp s l
  show(ns.foldl insN (insN l s)).length<=_
  rw [zLc];omega
theorem Pn:(xR m a b).length<=24:=by have h:=WM ((ak m 8++ak a 8++ak b 8).map (·.1)) [];have h1:=eA m 8;have h2:=eA a 8;have h3:=eA b 8;rw [zLm,zLa,zLa] at h;unfold xR WN;simp only [List.length_nil] at h;omega
theorem Ag{s:ByteArray}(h:du s=true):s.size<=8:=(bZ.1 h).2.1
theorem Sf(hm:aB m)(ha:aB a)(hb:aB b){out:List Int}{Fo:Int->Option OV}(hlen:b9 out.length=true)(iA:∀ h:Int,1<=h->h<=40->((Fo h).isSome=true ↔ aq out h≠0)) :
  (((xR m a b).filter fun s=>(gY (za m a b) (fun _ h=>!(Fo h).isSome) s).isSome).map fun s=>(s,(gY (za m a b) (fun _ h=>!(Fo h).isSome) s).getD 0))=tC m a b out:=by
 unfold tC;have key:∀ s∈xR m a b,(if (gY (za m a b) (fun _ h=>!(Fo h).isSome) s).isSome=true then some (s,(gY (za m a b) (fun _ h=>!(Fo h).isSome) s).getD 0) else none)=if aP out (y9 m a b s)=0 then some (s,y9 m a b s) else none:=fun s hs=>by
  have hl:=WC hs;cases hq:za m a b s with
  | none =>
   rw [hq] at hl;have e0:gY (za m a b) (fun _ h=>!(Fo h).isSome) s=none:=by unfold gY;rw [hq];rfl
   rw [e0,if_neg (by simp),if_neg];rw [<- hl];exact kP out
  | some h =>
   rw [hq] at hl;have hh:y9 m a b s=h:=hl.symm;obtain⟨p1,p2⟩:=zbs hm ha hb hq;rw [hh];by_cases ho:(Fo h).isSome=true
   ·have e0:gY (za m a b) (fun _ h=>!(Fo h).isSome) s=some h:=by unfold gY;rw [hq];simp [Option.filter,ho]
    rw [e0,if_pos (by rfl),if_pos (aJ.2 ⟨hlen,aF.2 ⟨p1,p2⟩,(iA h p1 p2).1 ho⟩)];rfl
   ·have e0:gY (za m a b) (fun _ h=>!(Fo h).isSome) s=none:=by unfold gY;rw [hq];simp [Option.filter,ho]
    rw [e0,if_neg (by simp),if_neg (fun h2=>ho ((iA h p1 p2).2 (aJ.1 h2).2.2))]
 generalize gY (za m a b) (fun _ h=>!(Fo h).isSome)=G at *;generalize xR m a b=l at *;induction l with
 | nil=>rfl
 | cons s l ih =>
  have h1:=key s (by simp);have h2:=ih (fun x hx=>key x (by simp [hx]));rw [List.filter_cons,List.filterMap_cons,<- h1];by_cases hG:(G s).isSome=true
  ·rw [if_pos hG,if_pos hG,List.map_cons,h2]
  ·rw [if_neg hG,if_neg hG,h2]
end
theorem Ol.pre{b out:List Int}{R:List (ByteArray×Int)}(o:Ol b out R){s:ByteArray}{h:Int}(hi:R.length<8)(hn:du s=true)(hc:aP b h=0):BI out R.length (s,h)=0:=by
 obtain⟨q1,q2,q3⟩:=aJ.1 hc;have hh:=aF.1 q2;have Na:¬ gv (s,h)=true:=fun hx=>by have:=(eX.1 hx).2;dsimp only at this;omega
 have F6:eF (s,h)=0:=by unfold eF;rw [if_neg Na,if_neg (by rw [q2];simp),if_pos hn]
 exact gB.2 ⟨o.aV.cW,by omega,by omega,F6⟩
theorem Vv{m a b out:List Int}(hm:aB m)(ha:aB a)(hb:aB b)(bm:bj m)(ba:bj a)(bb:bj b)(ho:aB out)(bo:bj out)(hr:∀ i,i<8->isRoot (rowAt out i)=false)(h8:(tC m a b out).length<=8):Qs out.length out (tC m a b out):=fun j hj=>by
 have h0:ak out 8=[]:=by rw [gS (b:=out) (k:=0) 8 (Nat.zero_le _) (fun j _ hj=>hr j hj)];rfl
 have st:Ol out out []:=⟨ho,rfl,bo,h0,fun j _ hj=>hr j hj,fun _ _ _=>⟨rfl,rfl⟩⟩;have dy:∀ r∈tC m a b out,du r.1=true/\aP out r.2=0:=fun r hr=>by have h:=uo.1 hr;refine⟨MB hm ha hb bm ba bb (MC (fun e=>?_)),h.2⟩;have h2:=h.2;rw [h.1,e] at h2;exact kP out h2
 have sC:=rK (m:=m) (a:=a) (b:=b) (out:=out);generalize tC m a b out=R at *;have:=Ol.all (R.take j) st (by rw [List.nil_append,zLt];omega) (fun r hr=>dy r (List.mem_of_mem_take hr)) (by rw [List.nil_append,List.map_take];exact sC.sublist (List.take_sublist _ _));rw [List.nil_append] at this;refine⟨this.len,fun r hrj=>?_⟩;have mG:=(zLs hrj).1;obtain⟨q1,q2⟩:=dy r (List.mem_of_getElem? hrj);have hp:=this.pre (s:=r.1) (h:=r.2) (by rw [zLt];omega) q1 q2;rw [zLt,Nat.min_eq_left (by omega)] at hp;exact⟨hp,Ag q1⟩
theorem WE{w:World}{F:Int->Option OV}{m a b:List Int}(hm:aB m)(ha:aB a)(hb:aB b)(bm:bj m)(ba:bj a)(bb:bj b)(hF:sf w F (oT m a b)){R:List (ByteArray×Int)}(hR:R=((xR m a b).filter fun s=>(gY (za m a b) (fun _ h=>!(F h).isSome) s).isSome).map fun s=>(s,(gY (za m a b) (fun _ h=>!(F h).isSome) s).getD 0)) :
  ((gp m.length (oT m a b) 40).1=0->R.length<=8->Qs m.length (gp m.length (oT m a b) 40).2.2 R)/\ldT (gp m.length (oT m a b) 40) R=nT m a b:=by
 have hl:=hm.len;obtain⟨i1,i2,i3⟩:=zV hl.1 hl.2 (E4 (m:=m) ha ba hb bb) 40 zNr;rw [zdT];have key:(gp m.length (tU m a b) 40).1=0->R=tC m a b (gp m.length (tU m a b) 40).2.2:=fun h0=>by
  obtain⟨pk,_,po,_⟩:=i3 h0;rw [hR];refine Sf hm ha hb pk.aV.cW (fun h h1 h2=>?_);have ho:=po h h1 (by omega);rw [hF.zI h,V4 h1 h2,<- ho];unfold aD;by_cases ht:aq (gp m.length (tU m a b) 40).2.2 h=0
  ·rw [if_pos ht];simp [ht]
  ·rw [if_neg ht];have h4:=(pk.aV.jB h1 h2 ht).2.2.2.2.1;refine⟨fun _=>ht,fun _ e=>?_⟩;have:=congrArg Prod.fst e;unfold gu at this;dsimp only at this;omega
 refine⟨fun h0 h8=>?_,?_⟩
 ·obtain⟨pk,_,_,_⟩:=i3 h0;rw [key h0] at h8 ⊢;have:=Vv hm ha hb bm ba bb pk.aV pk.kV pk.none_ h8;rw [pk.len] at this;exact this
 ·by_cases h0:(gp m.length (tU m a b) 40).1=0
  ·rw [key h0];rfl
  ·have e1:ldT (gp m.length (tU m a b) 40) R=((gp m.length (tU m a b) 40).1,[]):=by unfold ldT;rw [if_pos h0]
   have e2:nT m a b=((gp m.length (tU m a b) 40).1,[]):=by unfold nT Wp;rw [if_pos h0]
   rw [e1,e2]
theorem xu.same{w0 W W':World}{L:List Int}{g:Nat}(h:xu w0 L W g)(hs:W'.heap[g]?=W.heap[g]?):xu w0 L W' g:=by exact Mp.same h hs
theorem xu.isMap{w0 W:World}{L:List Int}{g:Nat}(h:xu w0 L W g):∃ es clock,W.heap[g]?=some (.map es clock):=by exact Mp.isMap h
def Ze(w:World)(ims:List IM)(gs:List Nat)(W:World):Prop:=∀ (i:Nat) x y,ims[i]?=some x->gs[i]?=some y->w.heap.size<=y/\xu w x.2.2 W y
theorem ziW(ims:List IM)(g:Nat)(w:World)(h:Zl w g ims)(hf:∀ x∈ims,aB x.2.2)(hl:ims.length<=10) :
  Calls Tryz.prog 50 #[.func (.func 51) #[] #[],.slice (some ⟨g,0,none⟩) ims.length ims.length] w fun e w'=>∃ v gs,e=.returned (.tuple #[v,.nilIface])/\bT mpC 1 112 w' w.heap.size v gs/\gs.length=ims.length/\Ze w ims gs w'/\Below w.heap.size w w':=by
 obtain⟨i0,eP,cY,dw,dz⟩:=info_parts WT;have HI:=af h;have HF:=af hf;clear h hf;go_enter Tryz.func50,Tryz.ntmps50
 go_wp2;go_loopw [6,8,9,10,13] (fun v _ _ _ iv wr=>∃ (k:Nat) (gs:List Nat),k<=ims.length/\gs.length=k/\iv=.int .i64 (k:Int)/\bT mpC 1 112 wr w.heap.size v gs/\Hid (Ze w ims gs wr)/\Below w.heap.size w wr) (fun _ _ _ _ iv _=>ims.length-(intOf iv).toNat)
 case atStart=>exact⟨0,[],Nat.zero_le _,rfl,rfl,bT.nil _ _,af (fun i x y _ hy=>by simp at hy),zBr⟩
 case round =>
  obtain⟨k,gs,hk,hgk,rfl,az,HR,ao⟩:=hrel;obtain⟨va,vm,vc,rfl⟩:=az.shape;by_cases aM:k<ims.length
  ·obtain⟨x,hx⟩:∃ x,ims[k]?=some x:=⟨ims[k],zLg aM⟩;have BK:=List.mem_of_getElem? hx;have bk:=((ae HI).below ao).cell hx;have xx:=af (zhe w x.1 x.2.1 x.2.2 wr ((ae HI).2 x BK) ao (ae HF x BK));have xZ:g<wr.heap.size:=Nat.lt_of_lt_of_le (ae HI).1.lt ao.size;have HX:=af hx;have ki:=af az;have kz:=af ao;obtain⟨xa,xc,xl⟩:=x;unfold mi at bk;dsimp only at *;generalize hxn:xl.length=XN at *;have HXN:=af hxn;clear hx BK az ao hxn;go_wp2_with fail
   refine(ae xx).mono ?_;rintro e w2 ⟨y,rfl,hy,sw,aK⟩;have cD:Below w.heap.size w w2:=zTs kz aK;have bR:Below w2.heap.size w2 (w2.alloc (.cells #[.map (some y)] 112)):=zBr.alloc zNr _;have nB:=af (((ae ki).below aK).below bR);have jK:Hid ((w2.alloc (.cells #[.map (some y)] 112)).heap[w2.heap.size]?=some (.cells (mpC y).toArray 112 (0,0))):=af (heap_alloc_new _ _);have cT:=af (cD.trans (bR.mono cD.size));have Zr:=af sw;have zfL:=af bR;have OF:=af aK;have hsw:=(ae kz).size;have gM:=aK.size;have hyl:y<w2.heap.size:=by obtain⟨es,cl,hm⟩:=sw.isMap;exact(zAg hm).1
   clear sw aK cD bR xx;go_wp2_with (at_builtin;refine gj rfl _ _ 104 rfl w.heap.size i0 (.map none) 8 Tryz.underlying104 eP cY dw dz rfl (by decide) (by decide) _ _ rfl (ae nB) w2.heap.size y rfl (ae jK) rfl (Ph _) (by omega) (by simp;omega) ?_)
   intro v9 w9 aZ mr qP;have mn:∀ j,j<w2.heap.size->(∃ es cl,w2.heap[j]?=some (.map es cl))->w9.heap[j]?=w2.heap[j]?:=fun j hj hm=>by
    obtain⟨es,cl,hm⟩:=hm;have qO:=(ae zfL).block j hj;refine(qP j (by first | omega | (rw [aH];omega)) (fun e=>?_)).trans qO;rcases (ae nB).2 with ⟨e0,_⟩ | ⟨gq,cap,cur,e0,_,hc,_⟩
    ·rw [e0] at e;simp [Value.ownBlock] at e
    ·rw [e0] at e;simp [Value.ownBlock] at e;subst e;rw [qO,hm] at hc;cases hc
   have HR9:Hid (Ze w ims (gs++[y]) w9):=af (fun i x' y' W9 xU=>by
    by_cases hi:i<gs.length
    ·rw [List.getElem?_append_left hi] at xU;obtain⟨h1,h2⟩:=ae HR i x' y' W9 xU;obtain⟨es,cl,hm⟩:=h2.isMap;have JK:=(zAg hm).1;have hs:=(ae OF).block y' JK;exact⟨h1,(h2.same hs).same (mn y' (by omega) ⟨es,cl,hs.trans hm⟩)⟩
    ·rw [List.getElem?_append_right (by omega)] at xU;have eP:i-gs.length=0:=by have:=(zLs xU).1;simp at this;omega
     rw [eP] at xU;simp at xU;subst xU;have hik:i=k:=by omega
     subst hik;have e2:=(ae HX).symm.trans W9;obtain rfl:=zOi e2;exact⟨by omega,(ae Zr).same (mn y hyl (ae Zr).isMap)⟩)
   have pS:=af aZ;have jI:=af ((ae cT).trans mr);obtain⟨a9,m9,c9,rfl⟩:=aZ.shape;clear aZ mr qP mn nB cT jK;go_wp2;go_roundw
   case rel=>exact⟨k+1,gs++[y],by omega,by rw [zLa,hgk];rfl,by go_num,ae pS,HR9,ae jI⟩
   case measure=>simp [intOf];omega
  ·have HO:=af az;have br:=af ao;have tJ:¬ ((k:Int)<(ims.length:Int)):=by omega
   have HKE:Hid (gs.length=ims.length):=af (by omega);clear az ao;go_wp2;go_ret2
   first | exact⟨_,gs,rfl,ae HO,ae HKE,ae HR,ae br⟩ | exact⟨_,rfl,gs,ae HO,ae HKE,ae HR,ae br⟩
end Go.Proofs.YtcimhnnendlblaaGreat
