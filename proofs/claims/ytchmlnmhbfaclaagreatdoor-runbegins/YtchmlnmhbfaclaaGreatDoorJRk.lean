/-
  Parts of the proofs, joined by program.
-/
import Derived.Test.YtchmlnmhbfaclaaGreatDoorJRg
namespace Go.Proofs.YtchmlnmhbfaclaaGreatDoor
open Go.RowKit
set_option linter.unusedVariables false
theorem zBt{K M:List Int}(hK:K.length=1024)(hM:M.length=1024)(h:∀ j,488<=j->M.getD j 0=K.getD j 0):(qz K M 32).length<=23:=by
 refine Nat.le_trans (zvR (F:=16) (fun i h1 h2=>?_)) (by decide)
 apply zJ
 ·rw [zaJ (m:=32) hK h2,zaJ (m:=32) hM h2]
 ·intro j hj
  rw [zaJ (m:=32) hK h2] at hj
  rw [zaB hj,zaB hj]
  exact(h _ (by omega)).symm
structure Ob1 (L:List Int) (n:Nat):Prop where
 fine:Fine L
 byt:Byt L
 len:L.length=1024
 tag:zg L 1≠0
 ent:ze L 1=(1,288,(n:Int),0)
 z:∀ j,488<=j->L.getD j 0=0
theorem zfa(n j:Nat):(zerosB n).getD j 0=0:=by
 unfold zerosB
 rw [List.getD_eq_getElem?_getD,List.getElem?_replicate]
 split <;> rfl
theorem zhZ{n:Nat}(h1:1<=n)(h2:n<=200):alE (zerosB 1024) n 0=0/\alH (zerosB 1024) n 0=1/\Ob1 (alB (zerosB 1024) n 0) n/\∀ j,j<8->zj (rowAt (alB (zerosB 1024) n 0) j)=false:=by
 obtain⟨z1,z2,z3⟩:=Qs (n:=1024) (by decide) (by decide)
 have hzl:=length_zerosB 1024
 have l0:QH (zerosB 1024)=0:=(qP _).unique ⟨Nat.zero_le _,fun j hj=>absurd hj (Nat.not_lt_zero j),fun _=>decide_eq_true (z2 _)⟩
 have t0:zn (zerosB 1024)=[]:=by unfold zn;rw [ziu (fun k _ _=>z2 k) 40 (Nat.le_refl _)];rfl
 have f0:qo (((zerosB 1024).length:Int)-288) (srtL (zn (zerosB 1024)))=[(0,736)]:=by rw [t0,hzl,zhJ];rfl
 obtain⟨a1,a2,a3,a4,a5,a6,a7,a8⟩:=zwk z1 (t:=0) (n:=(n:Int)) l0 (by decide) (by omega) (by omega) (by decide) (by decide) f0 (by omega)
 obtain⟨x,N,hk⟩:=zep z1 a1
 obtain⟨_,_,_,k4,_,_⟩:=hk.keep z1 a1
 rw [l0] at k4
 have e:=k4.symm.trans a5
 simp only [Prod.mk.injEq] at e
 have hx:x=288:=by omega
 have hN:N=n:=by omega
 have zz:∀ j,488<=j->(alB (zerosB 1024) (n:Int) 0).getD j 0=0:=fun j hj=>by
  have hz:=length_zerosB N
  have hp:=qx (h:=(QH (zerosB 1024):Int)+1) (by omega) (by have:=hk.low;omega)
  have hpl:(putL (zerosB 1024) ((QH (zerosB 1024):Int)+1,(x:Int),(N:Int),0))=splice (zerosB 1024) (plc ((QH (zerosB 1024):Int)+1)) (zax ((QH (zerosB 1024):Int)+1,(x:Int),(N:Int),0)):=by
   unfold putL
   rw [if_pos (hk.put z1)]
  have hr5:(zax ((QH (zerosB 1024):Int)+1,(x:Int),(N:Int),0)).length=5:=rfl
  rw [<- hk.lay z1 a1,hpl,zw (by rw [length_splice (by rw [hr5,hzl];omega),hz,hzl];omega) (by rw [hz];exact .inr (by omega)),zw (by rw [hr5,hzl];omega) (by rw [hr5];exact .inr (by omega))]
  exact zfa _ _
 refine⟨a1,a2,⟨a3,ziO (byt_zerosB _) _ _,a4.trans hzl,a6,a5,zz⟩,fun j hj=>?_⟩
 rw [a8 j hj]
 exact z3 j hj
section
variable {L:List Int} {n:Nat}
theorem Ob1.chk(o:Ob1 L n):zO L 1=0:=zq.2 ⟨o.fine.len0,by decide,o.tag⟩
theorem Ob1.pc(o:Ob1 L n):pcE L 1 0 (n:Int)=0:=zaC.2 ⟨o.chk,by decide,by omega,by rw [o.ent];show(0:Int)+n<=n;omega⟩
theorem Ob1.write(o:Ob1 L n)(h2:n<=200){l:List Int}(hl:l.length=n)(hb:Byt l):Ob1 (wrB L 1 0 l) n/\rdL (wrB L 1 0 l) 1 0 n=l/\zk (wrB L 1 0 l) 8=zk L 8:=by
 have hlen:=o.len
 have e1:(ze L 1).2.1.toNat+0=288:=by rw [o.ent];rfl
 have e:wrB L 1 0 l=splice L 288 l:=by
  unfold wrB
  rw [hl,if_pos o.pc]
  rw [show(ze L 1).2.1.toNat+(0:Int).toNat=288 from e1]
 obtain⟨w1,w2,w3,w4,w5⟩:=zcp o.fine (h:=1) (by decide) (by decide) o.tag (p:=0) (r:=l) (by rw [o.ent,hl];show(((0:Nat):Int))+n<=n;omega)
 rw [e1] at w1 w2 w3 w4 w5
 have hh:=w4 1 (by decide) (by decide)
 have ho:Ob1 (splice L 288 l) n:=⟨w1,qv o.byt hb,w2.trans o.len,by rw [hh.1];exact o.tag,by rw [hh.2];exact o.ent,fun j hj=>by
  rw [zw (by omega) (.inr (by omega))]
  exact o.z j hj⟩
 rw [e]
 refine⟨ho,?_,zlU w2 (by omega) (fun j hj=>zw (by omega) (.inl hj))⟩
 unfold rdL
 rw [if_pos ho.pc,ho.ent]
 show((splice L 288 l).drop 288).take (n:Int).toNat=l
 rw [Int.toNat_natCast]
 apply zJ
 ·rw [List.length_take,List.length_drop,w2];omega
 ·intro j hj
  rw [List.length_take,List.length_drop] at hj
  have hj2:j<l.length:=by omega
  have hjn:j<n:=by omega
  have:=qi (z:=L) (l:=l) (off:=288) (j:=j) (by omega) hj2
  simp only [List.getD,List.getElem?_take,if_pos hjn,List.getElem?_drop] at this ⊢
  exact this
def aS:ByteArray:=⟨#[97]⟩
theorem Ob1.set(o:Ob1 L n)(hr:∀ j,j<8->zj (rowAt L j)=false):seE L aS 1=0/\seO L aS 1=true/\Ob1 (seF L aS 1) n/\gtE (seF L aS 1) aS (-1)=0/\gtH (seF L aS 1) aS (-1)=1:=by
 have hn:Qb aS=true:=by decide
 have p8:plR L aS=8:=zhS o.fine (fun i hi hq=>by rw [hr i hi] at hq;cases hq)
 have f0:frR L=0:=(zba L).unique ⟨Nat.zero_le _,fun j hj=>absurd hj (Nat.not_lt_zero j),fun _=>by
  show(!zj (rowAt L 0))=true
  rw [hr 0 (by decide)];rfl⟩
 have hI:seI L aS=0:=by
  unfold seI
  rw [if_neg (by omega),f0]
 have h0:seE L aS 1=0:=by
  unfold seE
  rw [hn,if_neg (by decide),if_neg (by rw [o.chk];decide),if_neg (by rw [hI];decide)]
 have hO:seO L aS 1=true:=by
  unfold seO seN
  rw [h0,p8];rfl
 have hF:seF L aS 1=seB L aS 1:=by unfold seF;rw [if_pos h0]
 obtain⟨g1,g2⟩:=zAf o.fine h0 (T:=-1) (by decide) (by decide)
 have row:=zdr o.fine h0
 have he:=row.ents 1 (by decide) (by decide)
 rw [if_neg (fun h=>h.1 rfl)] at g1
 rw [if_neg (fun h=>h.1 rfl)] at g2
 refine⟨h0,hO,?_,by rw [hF];exact g1,by rw [hF];exact g2⟩
 rw [hF]
 exact⟨(zbo o.fine h0).1,zww o.byt aS 1,row.len.trans o.len,by rw [he.1];exact o.tag,by rw [he.2];exact o.ent,fun j hj=>by rw [row.tail j (by omega)];exact o.z j hj⟩
end
section
variable {m n:Nat} {P:Ps} {N:List Int}
theorem zlr{K:List Int}{s:Int}(hr:Rdy (zhm P) m s (prt K))(hK:K.length=32 * m):(zdv m P).L=K:=by
 rcases zeR hr with ⟨r1,r2,r3,r4,r5⟩ | ⟨r1,r2,r3,r4,r5⟩
 ·show zcc (fun i=>img (qs (zhm P) m).1 (48+i)) m=K
  rw [zcC m (fun i hi=>r3.pages i hi)]
  exact zdF hK
 ·exact absurd (show(zhm P).left<0 by show(-1:Int)<0;decide) r2
theorem Pu.cr(h:Pu m n P):(zdv m P).L=P.K:=zlr (h.opens _ _ _) h.lk
theorem Pd.cr(h:Pd m n P N):(zdv m P).L=P.K\/(zdv m P).L=N:=by
 obtain⟨K,s,hK,hr,_,_,hl,_⟩:=h.opens (List.replicate P.D.mem.length true) (-1) (c:=0) (by omega)
 rcases hK with rfl | rfl
 ·exact .inl (zlr hr hl)
 ·exact .inr (zlr hr hl)
def zC1:OpP:=(6,0,0,0,⟨#[]⟩,[])
theorem zlq(m:Nat)(P:Ps):zY m P zC1=qR m P:=rfl
theorem Pu.coE(h:Pu m n P)(hs:P.s<=9999)(hl:P.D.left<0)(hd:(qz P.K P.L m).length<=23):(qR m P).2=0/\Pu m n (qR m P).1/\(qR m P).1.D.left<0/\(qR m P).1.s<=P.s+1/\(qR m P).1.K=P.L/\(qR m P).1.L=P.L:=by
 obtain⟨u1,u2,u3,u4,u5,u6,_⟩:=h.ever hs hl zC1 (fun z hz=>by cases hz)
 rw [zlq] at u1 u2 u3 u4 u5 u6
 have e:=u5 rfl
 rw [if_neg (by omega)] at e
 exact⟨e,u1,u2,u4,u6 rfl e,rfl⟩
theorem Pu.coC(h:Pu m n P)(hs:P.s<=9999)(hd:(qz P.K P.L m).length<=23):((qR m P).2=0/\(zdv m (qR m P).1).L=P.L)\/((qR m P).2=9/\((zdv m (qR m P).1).L=P.K\/(zdv m (qR m P).1).L=P.L)):=by
 rcases h.step hs zC1 (fun z hz=>by cases hz) with ⟨h1,h2,h3,h4,h5,_⟩ | ⟨_,h2,h3,h4,_⟩
 ·rw [zlq] at h1 h4 h5
  have e:=h4 rfl
  rw [if_neg (by omega)] at e
  exact .inl ⟨e,h1.cr.trans (h5 rfl e)⟩
 ·rw [zlq] at h2 h3 h4
  refine .inr ⟨h2,?_⟩
  rcases h3.cr with h | h
  ·exact .inl (h.trans h4)
  ·exact .inr h
end
theorem QU(A B:List UInt8):tx A++tx B=tx (A++B):=by
 apply ByteArray.ext
 rw [ByteArray.data_append]
 show A.toArray++B.toArray=(A++B).toArray
 simp
theorem zfm(A B:List UInt8):strL (tx (A++B))=strL (tx A)++strL (tx B):=by
 unfold strL tx
 simp
theorem zm6(B:List UInt8):∀ A:List UInt8,10 ∉ A->nlC (A++10 :: B)=(A,B)
 | [],_=>by
  rw [List.nil_append]
  unfold nlC
  rw [if_pos rfl]
 | x :: l,h=>by
  rw [List.cons_append]
  unfold nlC
  have hx:¬ x=10:=fun e=>h (by rw [e];exact List.mem_cons_self)
  rw [if_neg hx,zm6 B l (fun hm=>h (List.mem_cons_of_mem _ hm))]
theorem zva{A:List UInt8}(B:List UInt8)(h:10 ∉ A):lnT (tx (A++10 :: B))=tx A :: lnT (tx B):=by
 have hz:(tx (A++10 :: B)).size≠0:=by rw [qr];simp
 rw [zeX hz,znh,zm6 B A h]
theorem zyD:lnT (tx [])=[]:=zlI rfl
theorem znq(B:List UInt8):∀ A:List UInt8,32 ∉ A->Go.Lib.index (A++32 :: B) [32]=A.length
 | [],_=>by
  rw [List.nil_append]
  unfold Go.Lib.index
  rw [if_pos (by simp [List.isPrefixOf])]
  rfl
 | x :: l,h=>by
  rw [List.cons_append]
  unfold Go.Lib.index
  have hx:¬ x=32:=fun e=>h (by rw [e];exact List.mem_cons_self)
  have hp:[(32:UInt8)].isPrefixOf (x :: (l++32 :: B))=false:=by
   simp [List.isPrefixOf]
   exact fun e=>hx e.symm
  rw [hp,znq B l (fun hm=>h (List.mem_cons_of_mem _ hm)),if_neg (by decide),if_neg (by simp)]
  rw [List.length_cons]
  omega
theorem znr:∀ A:List UInt8,32 ∉ A->Go.Lib.index A [32]=-1
 | [],_=>by
  unfold Go.Lib.index
  rfl
 | x :: l,h=>by
  unfold Go.Lib.index
  have hx:¬ x=32:=fun e=>h (by rw [e];exact List.mem_cons_self)
  have hp:[(32:UInt8)].isPrefixOf (x :: l)=false:=by
   simp [List.isPrefixOf]
   exact fun e=>hx e.symm
  rw [hp,znr l (fun hm=>h (List.mem_cons_of_mem _ hm)),if_neg (by decide),if_pos (by decide)]
theorem ZP{A:List UInt8}(B:List UInt8)(h:32 ∉ A):wdS (tx (A++32 :: B))=tx A :: wdS (tx B):=by
 have hi:Go.Lib.indexB (tx (A++32 :: B)) ⟨#[32]⟩=(A.length:Int):=by
  show Go.Lib.index (A++32 :: B).toArray.toList [32]=_
  rw [List.toList_toArray]
  exact znq B A h
 have e1:(tx (A++32 :: B)).extract (A.length+(⟨#[32]⟩:ByteArray).size) (tx (A++32 :: B)).size=tx B:=by
  rw [zaX,qr]
  show tx (((A++32 :: B).drop (A.length+1)).take ((A++32 :: B).length-(A.length+1)))=tx B
  congr 1
  rw [List.drop_append,List.drop_eq_nil_of_le (by omega)]
  simp
  exact List.take_of_length_le (by omega)
 have e2:(tx (A++32 :: B)).extract 0 (A.length+0)=tx A:=by
  rw [zaX]
  congr 1
  simp
 unfold wdS
 rw [Go.Lib.countB_hit _ _ _ (by decide) hi,Nat.add_comm 1,Go.Lib.splitB_hit _ _ _ _ _ hi,e1,e2]
theorem zeM{A:List UInt8}(h:32 ∉ A):wdS (tx A)=[tx A]:=by
 have hi:Go.Lib.indexB (tx A) ⟨#[32]⟩=-1:=by
  show Go.Lib.index A.toArray.toList [32]=_
  rw [List.toList_toArray]
  exact znr A h
 unfold wdS
 rw [Go.Lib.splitB_miss _ _ _ _ hi]
def dgF:Nat->Nat->List UInt8
 | 0,n=>[UInt8.ofNat (48+n)]
 | f+1,n=>if n<10 then [UInt8.ofNat (48+n)] else dgF f (n / 10)++[UInt8.ofNat (48+n % 10)]
theorem zBF:(List.range 201).map (fun k:Nat=>rdN (tx (dgF 2 k)))=(List.range 201).map (fun k:Nat=>some (k:Int)):=by kernel_rfl
theorem zrP{α:Type}{f g:Nat->α}{n:Nat}(h:(List.range n).map f=(List.range n).map g){k:Nat}(hk:k<n):f k=g k:=by
 have:=congrArg (fun l=>l[k]?) h
 simpa [List.getElem?_map,List.getElem?_range hk] using this
theorem zl7{k:Nat}(hk:k<=200):rdN (tx (dgF 2 k))=some (k:Int):=zrP (f:=fun k:Nat=>rdN (tx (dgF 2 k))) (g:=fun k:Nat=>some (k:Int)) zBF (by omega)
theorem zv0:(List.range 201).map (fun k=>(dgF 2 k).contains 32 || (dgF 2 k).contains 10 || decide (3<(dgF 2 k).length))=(List.range 201).map (fun _=>false):=by kernel_rfl
theorem zeK{k:Nat}(hk:k<=200):32 ∉ dgF 2 k/\10 ∉ dgF 2 k/\(dgF 2 k).length<=3:=by
 have h:=zrP (f:=fun k=>(dgF 2 k).contains 32 || (dgF 2 k).contains 10 || decide (3<(dgF 2 k).length)) (g:=fun _=>false) zv0 (show k<201 by omega)
 simp only [Bool.or_eq_false_iff,decide_eq_false_iff_not] at h
 refine⟨fun hm=>?_,fun hm=>?_,by omega⟩
 ·have:=List.contains_iff_mem.2 hm
  rw [h.1.1] at this
  cases this
 ·have:=List.contains_iff_mem.2 hm
  rw [h.1.2] at this
  cases this
def hxU(l:List Int):List UInt8:=l.flatMap fun x=>[zbQ.data.toList.getD (x / 16).toNat 0,zbQ.data.toList.getD (x % 16).toNat 0]
theorem ze2(x:Int)(l:List Int):hxU (x :: l)=zbQ.data.toList.getD (x / 16).toNat 0 :: zbQ.data.toList.getD (x % 16).toNat 0 :: hxU l:=rfl
theorem zaO:∀ l:List Int,(hxU l).length=2 * l.length
 | []=>rfl
 | x :: l=>by rw [ze2,List.length_cons,List.length_cons,zaO l,List.length_cons];omega
theorem znz(i:Nat)(hi:i<16):((zbQ.data.toList.getD i 0).toNat:Int)=(strL zbQ).getD i 0:=by
 rw [strL_getD zbQ i (by rw [zfZ];exact hi),List.getD_eq_getElem?_getD,Array.getElem?_toList,Array.getElem?_eq_getElem (by exact hi)]
 rfl
theorem zsg:∀ {l:List Int},Byt l->strL (tx (hxU l))=l.flatMap hxT
 | [],_=>rfl
 | x :: l,h=>by
  have hx:=h x (by simp)
  have ih:=zsg (l:=l) (fun z hz=>h z (by simp [hz]))
  rw [ze2,List.flatMap_cons,<- ih]
  show(((zbQ.data.toList.getD (x / 16).toNat 0).toNat:Int) :: ((zbQ.data.toList.getD (x % 16).toNat 0).toNat:Int) :: strL (tx (hxU l)))=hxT x++strL (tx (hxU l))
  rw [znz _ (by omega),znz _ (by omega)]
  rfl
theorem zyS{l:List Int}(h:Byt l):zBk l=tx (hxU l):=by
 unfold zBk
 rw [<- zsg h,strOf_strL]
theorem zcD:∀ i,i<16->zbQ.data.toList.getD i 0≠32/\zbQ.data.toList.getD i 0≠10/\hxD (zbQ.data.toList.getD i 0)=(i:Int):=by decide
theorem zsh:∀ {l:List Int},Byt l->32 ∉ hxU l/\10 ∉ hxU l
 | [],_=>⟨List.not_mem_nil,List.not_mem_nil⟩
 | x :: l,h=>by
  have hx:=h x (by simp)
  obtain⟨i1,i2⟩:=zsh (l:=l) (fun z hz=>h z (by simp [hz]))
  have c1:=zcD (x / 16).toNat (by omega)
  have c2:=zcD (x % 16).toNat (by omega)
  rw [ze2]
  refine⟨fun hm=>?_,fun hm=>?_⟩
  ·rcases List.mem_cons.1 hm with e | hm
   ·exact c1.1 e.symm
   ·rcases List.mem_cons.1 hm with e | hm
    ·exact c2.1 e.symm
    ·exact i1 hm
  ·rcases List.mem_cons.1 hm with e | hm
   ·exact c1.2.1 e.symm
   ·rcases List.mem_cons.1 hm with e | hm
    ·exact c2.2.1 e.symm
    ·exact i2 hm
theorem zyO:(List.range 256).map (fun x:Nat=>hxP (hxP 0 ((x:Int) / 16)) ((x:Int) % 16))=(List.range 256).map (fun x:Nat=>(x:Int)):=by kernel_rfl
theorem zvu{x:Int}(h:0<=x/\x<=255):hxP (hxP 0 (x / 16)) (x % 16)=x:=by
 obtain⟨k,rfl⟩:∃ k:Nat,x=k:=⟨x.toNat,by omega⟩
 exact zrP (f:=fun x:Nat=>hxP (hxP 0 ((x:Int) / 16)) ((x:Int) % 16)) (g:=fun x:Nat=>(x:Int)) zyO (by omega)
theorem zwS:∀ {l:List Int} {k:Nat},k<l.length->(hxU l).getD (2 * k) 0=zbQ.data.toList.getD (l.getD k 0 / 16).toNat 0/\(hxU l).getD (2 * k+1) 0=zbQ.data.toList.getD (l.getD k 0 % 16).toNat 0
 | [],k,h=>by cases h
 | x :: l,0,_=>⟨rfl,rfl⟩
 | x :: l,k+1,h=>by
  have ih:=zwS (l:=l) (k:=k) (by simpa using h)
  rw [ze2]
  exact ih
theorem zdJ{l:List Int}{k:Nat}(h:k<l.length):l.getD k 0∈l:=by
 rw [List.getD_eq_getElem?_getD,List.getElem?_eq_getElem h]
 exact List.getElem_mem h
theorem zsk{l:List Int}(hb:Byt l){k:Nat}(hk:k<l.length):hxD (hxC (tx (hxU l)) (2 * k))=l.getD k 0 / 16/\hxD (hxC (tx (hxU l)) (2 * k+1))=l.getD k 0 % 16:=by
 have hx:=hb _ (zdJ hk)
 obtain⟨a1,a2⟩:=zwS hk
 have c1:=(zcD (l.getD k 0 / 16).toNat (by omega)).2.2
 have c2:=(zcD (l.getD k 0 % 16).toNat (by omega)).2.2
 unfold hxC tx
 rw [List.toList_toArray,a1,a2,c1,c2]
 omega
theorem zkl(l:List Int)(i j:Nat)(x:Int)(hi:i<l.length):(l.set i x).getD j 0=if i=j then x else l.getD j 0:=by
 rw [List.getD_eq_getElem?_getD,List.getElem?_set]
 by_cases h:i=j
 ·rw [if_pos h,if_pos h,if_pos hi];rfl
 ·rw [if_neg h,if_neg h,List.getD_eq_getElem?_getD]
theorem znw(s:ByteArray)(i:Nat):hxS s (i+1)=(hxS s i).set (i / 2) (hxP ((hxS s i).getD (i / 2) 0) (hxD (hxC s i))):=rfl
theorem znx{l:List Int}(hb:Byt l):∀ k,k<=l.length->∀ j,j<l.length->(hxS (tx (hxU l)) (2 * k)).getD j 0=if j<k then l.getD j 0 else 0
 | 0,_,j,hj=>by
  rw [if_neg (Nat.not_lt_zero j)]
  exact zfa _ _
 | k+1,hk,j,hj=>by
  have ih:=znx hb k (by omega)
  have hlen:(hxS (tx (hxU l)) (2 * k)).length=l.length:=by rw [zc4,qr,zaO];omega
  obtain⟨d1,d2⟩:=zsk hb (k:=k) (by omega)
  have hx:=hb _ (zdJ (l:=l) (k:=k) (by omega))
  have e1:hxS (tx (hxU l)) (2 * k+1)=(hxS (tx (hxU l)) (2 * k)).set k (hxP 0 (l.getD k 0 / 16)):=by
   rw [znw,show 2 * k / 2=k by omega,ih k (by omega),if_neg (by omega),d1]
  have e2:hxS (tx (hxU l)) (2 * (k+1))=(hxS (tx (hxU l)) (2 * k)).set k (l.getD k 0):=by
   rw [show 2 * (k+1)=2 * k+1+1 by omega,znw,show(2 * k+1) / 2=k by omega,e1,d2,zkl _ _ _ _ (by omega),if_pos rfl,zvu hx,List.set_set]
  rw [e2,zkl _ _ _ _ (by omega)]
  by_cases e:k=j
  ·rw [if_pos e,if_pos (by omega),e]
  ·rw [if_neg e,ih j hj]
   by_cases hjk:j<k
   ·rw [if_pos hjk,if_pos (by omega)]
   ·rw [if_neg hjk,if_neg (by omega)]
theorem zvt{l:List Int}(hb:Byt l):rdH (tx (hxU l))=some l:=by
 have hsz:(tx (hxU l)).size=2 * l.length:=by rw [qr,zaO]
 have hd:∀ j,j<(tx (hxU l)).size->0<=hxD (hxC (tx (hxU l)) j):=fun j hj=>by
  rw [hsz] at hj
  obtain⟨d1,d2⟩:=zsk hb (k:=j / 2) (by omega)
  have hx:=hb _ (zdJ (l:=l) (k:=j / 2) (by omega))
  rcases Nat.mod_two_eq_zero_or_one j with e | e
  ·rw [show 2 * (j / 2)=j by omega] at d1
   rw [d1];omega
  ·rw [show 2 * (j / 2)+1=j by omega] at d2
   rw [d2];omega
 unfold rdH
 rw [if_pos ⟨by rw [hsz];omega,hd⟩,hsz]
 congr 1
 apply zJ
 ·rw [zc4,hsz];omega
 ·intro j hj
  rw [zc4,hsz] at hj
  rw [znx hb l.length (Nat.le_refl _) j (by omega),if_pos (by omega)]
theorem zmW{s r f:ByteArray}{ws:List ByteArray}(hw:wdS s=r :: ws)(hf:fmO r=some f)(hl:ws.length=f.size):rdO s=rdK r f ws f.size:=by
 unfold rdO
 rw [hw]
 show(match fmO r with | some f=>if (r :: ws).length=f.size+1 then rdK r f ws f.size else none | none=>none)=_
 rw [hf]
 dsimp only
 rw [if_pos (by rw [List.length_cons,hl])]
section
variable {r f:ByteArray} {ws:List ByteArray} {i:Nat} {o:Od}
theorem zb2(h:rdK r f ws i=some o)(hk:(f.data.toList.getD i 0).toNat=78){v:Int}(hv:rdN (ws.getD i ⟨#[]⟩)=some v):rdK r f ws (i+1)=some { o with nums:=o.nums++[v]}:=by
 unfold rdK
 rw [h]
 dsimp only
 rw [hk]
 exact zp4 hv o
theorem zx3(h:rdK r f ws i=some o)(hk:(f.data.toList.getD i 0).toNat=72){l:List Int}(hv:rdH (ws.getD i ⟨#[]⟩)=some l):rdK r f ws (i+1)=some { o with body:=l }:=by
 unfold rdK
 rw [h]
 dsimp only
 rw [hk]
 exact zp7 hv o
end
theorem zwD:rdN (tx [49])=some 1:=by kernel_rfl
theorem zq1:rdN (tx [48])=some 0:=by kernel_rfl
def zcN(k:Nat):List UInt8:=[110,101,119]++32 :: (dgF 2 k++32 :: [48])
def zgy(l:List Int):List UInt8:=[119,114,105,116,101]++32 :: ([49]++32 :: ([48]++32 :: hxU l))
def zkK(k:Nat):List UInt8:=[114,101,97,100]++32 :: ([49]++32 :: ([48]++32 :: dgF 2 k))
def zeJ(k:Nat):List UInt8:=[99,117,116]++32 :: dgF 2 k
def zo3:List UInt8:=[115,101,116,32,97,32,49]
def zo4:List UInt8:=[103,101,116,32,97]
def zng:List UInt8:=[99,111,109,109,105,116]
def ztB:List UInt8:=[99,114,97,115,104]
theorem zAu{k:Nat}(hk:k<=200):rdO (tx (zcN k))=some ⟨zeN,[(k:Int),0],⟨#[]⟩,[]⟩:=by
 have hw:wdS (tx (zcN k))=zeN :: [tx (dgF 2 k),tx [48]]:=by
  unfold zcN
  rw [ZP _ (by decide),ZP _ (zeK hk).1,zeM (by decide)]
  rfl
 have hf:fmO zeN=some ⟨#[78,78]⟩:=by unfold fmO;rw [if_pos rfl]
 rw [zmW hw hf rfl]
 have k1:rdK zeN ⟨#[78,78]⟩ [tx (dgF 2 k),tx [48]] 1=some ⟨zeN,[(k:Int)],⟨#[]⟩,[]⟩:=zb2 (o:=⟨zeN,[],⟨#[]⟩,[]⟩) (i:=0) rfl rfl (zl7 hk)
 exact zb2 k1 rfl zq1
theorem zCT{l:List Int}(hb:Byt l):rdO (tx (zgy l))=some ⟨Qa,[1,0],⟨#[]⟩,l⟩:=by
 have hw:wdS (tx (zgy l))=Qa :: [tx [49],tx [48],tx (hxU l)]:=by
  unfold zgy
  rw [ZP _ (by decide),ZP _ (by decide),ZP _ (by decide),zeM (zsh hb).1]
  rfl
 have hf:fmO Qa=some ⟨#[78,78,72]⟩:=by kernel_rfl
 rw [zmW hw hf rfl]
 have k1:rdK Qa ⟨#[78,78,72]⟩ [tx [49],tx [48],tx (hxU l)] 1=some ⟨Qa,[1],⟨#[]⟩,[]⟩:=zb2 (o:=⟨Qa,[],⟨#[]⟩,[]⟩) (i:=0) rfl rfl zwD
 have k2:rdK Qa ⟨#[78,78,72]⟩ [tx [49],tx [48],tx (hxU l)] 2=some ⟨Qa,[1,0],⟨#[]⟩,[]⟩:=zb2 k1 rfl zq1
 exact zx3 k2 rfl (zvt hb)
theorem zCU{k:Nat}(hk:k<=200):rdO (tx (zkK k))=some ⟨ZK,[1,0,(k:Int)],⟨#[]⟩,[]⟩:=by
 have hw:wdS (tx (zkK k))=ZK :: [tx [49],tx [48],tx (dgF 2 k)]:=by
  unfold zkK
  rw [ZP _ (by decide),ZP _ (by decide),ZP _ (by decide),zeM (zeK hk).1]
  rfl
 have hf:fmO ZK=some ⟨#[78,78,78]⟩:=by kernel_rfl
 rw [zmW hw hf rfl]
 have k1:rdK ZK ⟨#[78,78,78]⟩ [tx [49],tx [48],tx (dgF 2 k)] 1=some ⟨ZK,[1],⟨#[]⟩,[]⟩:=zb2 (o:=⟨ZK,[],⟨#[]⟩,[]⟩) (i:=0) rfl rfl zwD
 have k2:rdK ZK ⟨#[78,78,78]⟩ [tx [49],tx [48],tx (dgF 2 k)] 2=some ⟨ZK,[1,0],⟨#[]⟩,[]⟩:=zb2 k1 rfl zq1
 exact zb2 k2 rfl (zl7 hk)
theorem zAw{k:Nat}(hk:k<=200):rdO (tx (zeJ k))=some ⟨zgA,[(k:Int)],⟨#[]⟩,[]⟩:=by
 have hw:wdS (tx (zeJ k))=zgA :: [tx (dgF 2 k)]:=by
  unfold zeJ
  rw [ZP _ (by decide),zeM (zeK hk).1]
  rfl
 have hf:fmO zgA=some ⟨#[78]⟩:=by kernel_rfl
 rw [zmW hw hf rfl]
 exact zb2 (o:=⟨zgA,[],⟨#[]⟩,[]⟩) (i:=0) rfl rfl (zl7 hk)
theorem zAt:rdO (tx zo3)=some ⟨ziQ,[1],aS,[]⟩:=by kernel_rfl
theorem zAv:rdO (tx zo4)=some ⟨ziR,[],aS,[]⟩:=by kernel_rfl
theorem zCW:rdO (tx zng)=some ⟨Qe,[],⟨#[]⟩,[]⟩:=by kernel_rfl
theorem zCV:rdO (tx ztB)=some ⟨Zl,[],⟨#[]⟩,[]⟩:=by kernel_rfl
def tls:List (List UInt8)->List UInt8
 | []=>[]
 | A :: r=>A++10 :: tls r
theorem zfl:∀ {l:List (List UInt8)},(∀ A∈l,10 ∉ A)->lnT (tx (tls l))=l.map tx
 | [],_=>zyD
 | A :: r,h=>by
  show lnT (tx (A++10 :: tls r))=_
  rw [zva _ (h A (by simp)),zfl (fun B hB=>h B (by simp [hB]))]
  rfl
def rnG(m:Nat)(a:Ps×List Int)(l:List ByteArray):Ps×List Int:=l.foldl (fun a x=>((lnA m a.1 (lim x)).1,a.2++strL (lnA m a.1 (lim x)).2++[10])) a
theorem Qu{m:Nat}{P Q:Ps}{W X A:List UInt8}{r:List ByteArray}(hx:X.length<=3000)(h:lnA m P (tx X)=(Q,tx A)):rnG m (P,strL (tx W)) (tx X :: r)=rnG m (Q,strL (tx (W++A++[10]))) r:=by
 unfold rnG
 rw [List.foldl_cons,znl (by rw [qr];exact hx)]
 dsimp only
 rw [h,zfm,zfm]
 rfl
def okL:List UInt8:=[111,107]
def loL:List UInt8:=[69,114,114,76,111,115,116]
theorem zp9:tdS 9=tx loL:=by kernel_rfl
theorem zwN:nbS 1 0=tx [49]:=by
 unfold nbS
 rw [if_pos rfl,zBy]
 rfl
section
variable {P:Ps} {n:Nat} {b c:List Int}
theorem Pu.putL{m k:Nat}(h:Pu m k P){L:List Int}(hf:Fine L)(hb:Byt L)(hl:L.length=32 * m):Pu m k { P with L:=L }:=⟨h.nt,hf,h.fk,hb,h.bk,hl,h.lk,h.sn⟩
theorem zne{l:List Int}(h:l.length<=200):(zgy l).length<=3000:=by
 unfold zgy
 simp only [List.length_append,List.length_cons,List.length_nil,zaO]
 omega
theorem zBW(o:Ob1 P.L n){l:List Int}(hb:Byt l)(hl:l.length=n):lnA 32 P (tx (zgy l))=({ P with L:=wrB P.L 1 0 l },tx okL):=by
 rw [QF (zCT hb),zje _ _ _ rfl]
 show({ P with L:=wrB P.L 1 0 l },tdS (pcE P.L 1 0 l.length))=_
 rw [hl,o.pc]
 rfl
theorem zB0(P:Ps):lnA 32 P (tx zng)=((qR 32 P).1,tdS (qR 32 P).2):=by
 rw [QF zCW,zgQ _ _ _ rfl]
theorem zBZ(P:Ps):lnA 32 P (tx ztB)=(zdv 32 P,tx okL):=by
 rw [QF zCV,zjf _ _ _ rfl]
 rfl
theorem zBY(P:Ps){k:Nat}(hk:k<=200):lnA 32 P (tx (zeJ k))=(wlP P k,tx okL):=by
 rw [QF (zAw hk),zqn _ _ _ rfl]
 rfl
theorem zBX(o:Ob1 P.L n)(hn:n<=200)(hb:Byt b)(h:rdL P.L 1 0 n=b):lnA 32 P (tx (zkK n))=(P,tx (hxU b)):=by
 rw [QF (zCU hn),zmI _ _ _ rfl]
 show(P,hxV (rdL P.L 1 0 (n:Int)) (pcE P.L 1 0 (n:Int)))=_
 rw [h,o.pc]
 unfold hxV
 rw [if_pos rfl,zyS hb]
structure Md (Q:Ps) (n:Nat) (b c:List Int) (R:List (ByteArray×Int)) (M:List Int):Prop where
 pu:Pu 32 80 Q
 s9:Q.s<=9999
 ok:Ob1 Q.K n
 rk:rdL Q.K 1 0 n=b
 ro:zk Q.K 8=R
 ol:Ob1 Q.L n
 rl:rdL Q.L 1 0 n=c
theorem zrK(hp:Pu 32 80 P)(hl:P.D.left<0)(hs:P.s<=9)(hK:∀ j,488<=j->P.K.getD j 0=0)(o:Ob1 P.L n)(hn:n<=200)(hb:Byt b)(hc:Byt c)(lb:b.length=n)(lc:c.length=n) :
  ∃ Q,Md Q n b c (zk P.L 8) []/\∀ (W:List UInt8) r,rnG 32 (P,strL (tx W)) (tx (zgy b) :: tx zng :: tx (zgy c) :: r)=rnG 32 (Q,strL (tx (W++okL++[10]++okL++[10]++okL++[10]))) r:=by
 obtain⟨o1,r1,t1⟩:=o.write hn lb hb
 have p1:Pu 32 80 { P with L:=wrB P.L 1 0 b }:=hp.putL o1.fine o1.byt o1.len
 obtain⟨c1,c2,c3,c4,c5,c6⟩:=p1.coE (show P.s<=9999 by omega) hl (zBt hp.lk o1.len (fun j hj=>by
  show(wrB P.L 1 0 b).getD j 0=P.K.getD j 0
  rw [o1.z j hj,hK j hj]))
 have o2:Ob1 (qR 32 { P with L:=wrB P.L 1 0 b }).1.L n:=by rw [c6];exact o1
 obtain⟨o3,r3,t3⟩:=o2.write hn lc hc
 refine⟨{ (qR 32 { P with L:=wrB P.L 1 0 b }).1 with L:=wrB (qR 32 { P with L:=wrB P.L 1 0 b }).1.L 1 0 c },⟨c2.putL o3.fine o3.byt o3.len,?_,?_,?_,?_,o3,r3⟩,fun W r=>?_⟩
 ·show(qR 32 { P with L:=wrB P.L 1 0 b }).1.s<=9999
  have:(qR 32 { P with L:=wrB P.L 1 0 b }).1.s<=P.s+1:=c4
  omega
 ·show Ob1 (qR 32 { P with L:=wrB P.L 1 0 b }).1.K n
  rw [c5];exact o1
 ·show rdL (qR 32 { P with L:=wrB P.L 1 0 b }).1.K 1 0 n=b
  rw [c5];exact r1
 ·show zk (qR 32 { P with L:=wrB P.L 1 0 b }).1.K 8=_
  rw [c5];exact t1
 ·rw [Qu (zne (by omega)) (zBW o hb lb),Qu (by decide) (by rw [zB0,c1];rfl),Qu (zne (by omega)) (zBW o2 hc lc)]
  rfl
theorem zm7(h1:1<=n)(h2:n<=200):∃ Q,Q.L=alB (zerosB 1024) n 0/\Pu 32 80 Q/\Q.D.left<0/\Q.s<=9/\(∀ j,488<=j->Q.K.getD j 0=0)/\lnA 32 (crP 80 32) (tx (zcN n))=(Q,tx [49]):=by
 obtain⟨a1,a2,o,hr⟩:=zhZ h1 h2
 obtain⟨p1,p2⟩:=zkx (n:=80) (m:=32) (by decide) (by decide) (by decide)
 refine⟨{ crP 80 32 with L:=alB (zerosB 1024) n 0 },rfl,p1.putL o.fine o.byt o.len,p2,(show(2:Int)<=9 by decide),fun j _=>zfa _ j,?_⟩
 rw [QF (zAu h2),zkZ _ _ _ rfl]
 show({ crP 80 32 with L:=alB (zerosB 1024) n 0 },nbS (alH (zerosB 1024) n 0) (alE (zerosB 1024) n 0))=_
 rw [a1,a2,zwN]
theorem zjX(h2:n<=200):(zcN n).length<=3000:=by
 have:=(zeK h2).2.2
 unfold zcN
 simp only [List.length_append,List.length_cons,List.length_nil]
 omega
theorem znf(h2:n<=200):(zkK n).length<=3000:=by
 have:=(zeK h2).2.2
 unfold zkK
 simp only [List.length_append,List.length_cons,List.length_nil]
 omega
theorem zrU(h2:n<=200):(zeJ n).length<=3000:=by
 have:=(zeK h2).2.2
 unfold zeJ
 simp only [List.length_append,List.length_cons,List.length_nil]
 omega
def ln1(n:Nat)(b c:List Int):List (List UInt8):=[zcN n,zo3,zgy b,zng,zgy c,ztB,zo4,zkK n]
theorem zyf(h1:1<=n)(h2:n<=200)(hb:Byt b)(hc:Byt c)(lb:b.length=n)(lc:c.length=n) :
  (rnG 32 (crP 80 32,strL (tx [])) ((ln1 n b c).map tx)).2=strL (tx (tls [[49],[110,101,119],okL,okL,okL,okL,[49],hxU b])):=by
 obtain⟨Q,q1,q2,q3,q4,q5,q6⟩:=zm7 h1 h2
 obtain⟨a1,a2,o,hr⟩:=zhZ h1 h2
 rw [<- q1] at o hr
 obtain⟨s1,s2,s3,s4,s5⟩:=o.set hr
 have p1:Pu 32 80 { Q with L:=seF Q.L aS 1 }:=q2.putL s3.fine s3.byt s3.len
 obtain⟨T,m,hm⟩:=zrK (P:={ Q with L:=seF Q.L aS 1 }) (b:=b) (c:=c) p1 q3 q4 q5 s3 h2 hb hc lb lc
 have hcr:(zdv 32 T).L=T.K:=m.pu.cr
 have hset:lnA 32 Q (tx zo3)=({ Q with L:=seF Q.L aS 1 },tx [110,101,119]):=by
  rw [QF zAt,zql _ _ _ rfl]
  show({ Q with L:=seF Q.L aS 1 },noS (seO Q.L aS 1) (seE Q.L aS 1))=_
  rw [s1,s2]
  rfl
 have hg:=zyV (b:=seF Q.L aS 1) (c:=T.K) (s:=aS) (by rw [m.ro])
 have hget:lnA 32 (zdv 32 T) (tx zo4)=(zdv 32 T,tx [49]):=by
  rw [QF zAv,zqm _ _ _ rfl]
  show(zdv 32 T,nbS (gtH (zdv 32 T).L aS (-1)) (gtE (zdv 32 T).L aS (-1)))=_
  rw [hcr,hg.1,hg.2,s4,s5,zwN]
 show(rnG 32 (crP 80 32,strL (tx [])) (tx (zcN n) :: tx zo3 :: tx (zgy b) :: tx zng :: tx (zgy c) :: tx ztB :: tx zo4 :: tx (zkK n) :: [])).2=_
 rw [Qu (zjX h2) q6,Qu (by decide) hset,hm,Qu (by decide) (zBZ T),Qu (by decide) hget,Qu (znf h2) (zBX (by rw [hcr];exact m.ok) h2 hb (by rw [hcr];exact m.rk))]
 exact congrArg (fun x=>strL (tx x)) (by simp [tls])
def ln2(n k:Nat)(b c:List Int):List (List UInt8):=[zcN n,zgy b,zng,zgy c,zeJ k,zng,ztB,zkK n]
theorem zxu(h1:1<=n)(h2:n<=200)(hb:Byt b)(hc:Byt c)(lb:b.length=n)(lc:c.length=n){k:Nat}(hk:k<=200) :
  ∃ R,(R=tls [okL,okL,hxU c]\/R=tls [loL,okL,hxU b]\/R=tls [loL,okL,hxU c])/\(rnG 32 (crP 80 32,strL (tx [])) ((ln2 n k b c).map tx)).2=strL (tx (tls [[49],okL,okL,okL,okL]++R)):=by
 obtain⟨Q,q1,q2,q3,q4,q5,q6⟩:=zm7 h1 h2
 obtain⟨a1,a2,o,hr⟩:=zhZ h1 h2
 rw [<- q1] at o hr
 obtain⟨T,m,hm⟩:=zrK (P:=Q) (b:=b) (c:=c) q2 q3 q4 q5 o h2 hb hc lb lc
 have pu2:Pu 32 80 (wlP T k):=m.pu.lefts ⟨by omega,by omega⟩
 have hd:(qz (wlP T k).K (wlP T k).L 32).length<=23:=zBt m.ok.len m.ol.len (fun j hj=>by
  show T.L.getD j 0=T.K.getD j 0
  rw [m.ol.z j hj,m.ok.z j hj])
 have key:∀ (A X:List UInt8) (V:List Int) (hV:Byt V),X=hxU V->tdS (qR 32 (wlP T k)).2=tx A->Ob1 (zdv 32 (qR 32 (wlP T k)).1).L n->rdL (zdv 32 (qR 32 (wlP T k)).1).L 1 0 n=V->(rnG 32 (crP 80 32,strL (tx [])) ((ln2 n k b c).map tx)).2=strL (tx (tls [[49],okL,okL,okL,okL]++tls [A,okL,X])):=by
  intro A X V hV hX hA hO hR
  show(rnG 32 (crP 80 32,strL (tx [])) (tx (zcN n) :: tx (zgy b) :: tx zng :: tx (zgy c) :: tx (zeJ k) :: tx zng :: tx ztB :: tx (zkK n) :: [])).2=_
  have hco:lnA 32 (wlP T k) (tx zng)=((qR 32 (wlP T k)).1,tx A):=by rw [zB0,hA]
  have hcr:=zBZ (qR 32 (wlP T k)).1
  have hrd:=zBX (P:=zdv 32 (qR 32 (wlP T k)).1) hO h2 hV hR
  have hcu:=zBY T hk
  clear hA hO hR
  generalize zdv 32 (qR 32 (wlP T k)).1=Z at hcr hrd
  generalize (qR 32 (wlP T k)).1=Y at hco hcr
  rw [Qu (zjX h2) q6,hm,Qu (zrU hk) hcu,Qu (by decide) hco,Qu (by decide) hcr,Qu (znf h2) hrd,hX]
  exact congrArg (fun x=>strL (tx x)) (by simp [tls])
 rcases pu2.coC m.s9 hd with ⟨e1,e2⟩ | ⟨e1,e2 | e2⟩
 ·exact⟨_,.inl rfl,key okL (hxU c) c hc rfl (by rw [e1];rfl) (by rw [e2];exact m.ol) (by rw [e2];exact m.rl)⟩
 ·exact⟨_,.inr (.inl rfl),key loL (hxU b) b hb rfl (by rw [e1];exact zp9) (by rw [e2];exact m.ok) (by rw [e2];exact m.rk)⟩
 ·exact⟨_,.inr (.inr rfl),key loL (hxU c) c hc rfl (by rw [e1];exact zp9) (by rw [e2];exact m.ol) (by rw [e2];exact m.rl)⟩
end
section
variable {n k:Nat} {b c:List Int}
theorem ztT(h2:n<=200)(lb:b.length=n)(lc:c.length=n):(tls (ln1 n b c)).length<=3000:=by
 have h:=(zeK h2).2.2
 simp only [ln1,tls,zcN,zo3,zgy,zng,ztB,zo4,zkK,List.length_append,List.length_cons,List.length_nil,zaO,lb,lc]
 omega
theorem ztS(h2:n<=200)(hk:k<=200)(lb:b.length=n)(lc:c.length=n):(tls (ln2 n k b c)).length<=3000:=by
 have h:=(zeK h2).2.2
 have h':=(zeK hk).2.2
 simp only [ln2,tls,zcN,zgy,zng,ztB,zeJ,zkK,List.length_append,List.length_cons,List.length_nil,zaO,lb,lc]
 omega
theorem zwM(h2:n<=200):10 ∉ zcN n:=by
 have h:=(zeK h2).2.1
 unfold zcN
 simp [h]
theorem zuO(hb:Byt b):10 ∉ zgy b:=by
 have h:=(zsh hb).2
 unfold zgy
 simp [h]
theorem zAP(h2:n<=200):10 ∉ zkK n:=by
 have h:=(zeK h2).2.1
 unfold zkK
 simp [h]
theorem zAQ(h2:n<=200):10 ∉ zeJ n:=by
 have h:=(zeK h2).2.1
 unfold zeJ
 simp [h]
theorem zA9(h2:n<=200)(hb:Byt b)(hc:Byt c):lnT (tx (tls (ln1 n b c)))=(ln1 n b c).map tx:=zfl (fun A hA=>by
 simp only [ln1,List.mem_cons,List.not_mem_nil,or_false] at hA
 rcases hA with rfl | rfl | rfl | rfl | rfl | rfl | rfl | rfl
 ·exact zwM h2
 ·decide
 ·exact zuO hb
 ·decide
 ·exact zuO hc
 ·decide
 ·decide
 ·exact zAP h2)
theorem zA8(h2:n<=200)(hk:k<=200)(hb:Byt b)(hc:Byt c):lnT (tx (tls (ln2 n k b c)))=(ln2 n k b c).map tx:=zfl (fun A hA=>by
 simp only [ln2,List.mem_cons,List.not_mem_nil,or_false] at hA
 rcases hA with rfl | rfl | rfl | rfl | rfl | rfl | rfl | rfl
 ·exact zwM h2
 ·exact zuO hb
 ·decide
 ·exact zuO hc
 ·exact zAQ hk
 ·decide
 ·decide
 ·exact zAP h2)
theorem zmP(l:List ByteArray):rnO 32 (crP 80 32) l=rnG 32 (crP 80 32,strL (tx [])) l:=rfl
theorem zyI(h1:1<=n)(h2:n<=200)(hb:Byt b)(hc:Byt c)(lb:b.length=n)(lc:c.length=n) :
  rnS ((((((((⟨#[110,101,119,32]⟩++tx (dgF 2 n))++⟨#[32,48,10,115,101,116,32,97,32,49,10,119,114,105,116,101,32,49,32,48,32]⟩)++tx (hxU b))++⟨#[10,99,111,109,109,105,116,10,119,114,105,116,101,32,49,32,48,32]⟩)++tx (hxU c))++⟨#[10,99,114,97,115,104,10,103,101,116,32,97,10,114,101,97,100,32,49,32,48,32]⟩)++tx (dgF 2 n))++⟨#[10]⟩) =
   (⟨#[49,10,110,101,119,10,111,107,10,111,107,10,111,107,10,111,107,10,49,10]⟩++tx (hxU b))++⟨#[10]⟩:=by
 show rnS ((((((((tx [110,101,119,32]++tx (dgF 2 n))++tx [32,48,10,115,101,116,32,97,32,49,10,119,114,105,116,101,32,49,32,48,32])++tx (hxU b))++tx [10,99,111,109,109,105,116,10,119,114,105,116,101,32,49,32,48,32])++tx (hxU c))++tx [10,99,114,97,115,104,10,103,101,116,32,97,10,114,101,97,100,32,49,32,48,32])++tx (dgF 2 n))++tx [10]) =
   (tx [49,10,110,101,119,10,111,107,10,111,107,10,111,107,10,111,107,10,49,10]++tx (hxU b))++tx [10]
 simp only [QU]
 have e:[110,101,119,32]++dgF 2 n++[32,48,10,115,101,116,32,97,32,49,10,119,114,105,116,101,32,49,32,48,32]++hxU b++[10,99,111,109,109,105,116,10,119,114,105,116,101,32,49,32,48,32]++hxU c++[10,99,114,97,115,104,10,103,101,116,32,97,10,114,101,97,100,32,49,32,48,32]++dgF 2 n++[10]=tls (ln1 n b c):=by
  simp [tls,ln1,zcN,zo3,zgy,zng,ztB,zo4,zkK]
 rw [e]
 unfold rnS
 rw [if_pos (by rw [qr];exact ztT h2 lb lc),zA9 h2 hb hc,zmP,zyf h1 h2 hb hc lb lc,strOf_strL]
 exact congrArg tx (by simp [tls,okL])
theorem zyH(h1:1<=n)(h2:n<=200)(hb:Byt b)(hc:Byt c)(lb:b.length=n)(lc:c.length=n)(hk:k<=200) :
  ∃ S R:ByteArray,rnS ((((((((((⟨#[110,101,119,32]⟩++tx (dgF 2 n))++⟨#[32,48,10,119,114,105,116,101,32,49,32,48,32]⟩)++tx (hxU b))++⟨#[10,99,111,109,109,105,116,10,119,114,105,116,101,32,49,32,48,32]⟩)++tx (hxU c))++⟨#[10,99,117,116,32]⟩)++tx (dgF 2 k))++⟨#[10,99,111,109,109,105,116,10,99,114,97,115,104,10,114,101,97,100,32,49,32,48,32]⟩)++tx (dgF 2 n))++⟨#[10]⟩)=S/\14<=S.size/\S.extract 0 14=⟨#[49,10,111,107,10,111,107,10,111,107,10,111,107,10]⟩/\S.extract 14 S.size=R /\
   (R=(⟨#[111,107,10,111,107,10]⟩++tx (hxU c))++⟨#[10]⟩\/R=(⟨#[69,114,114,76,111,115,116,10,111,107,10]⟩++tx (hxU b))++⟨#[10]⟩\/R=(⟨#[69,114,114,76,111,115,116,10,111,107,10]⟩++tx (hxU c))++⟨#[10]⟩):=by
 obtain⟨R,hR,h⟩:=zxu h1 h2 hb hc lb lc hk
 have e:((((((((tx [110,101,119,32]++tx (dgF 2 n))++tx [32,48,10,119,114,105,116,101,32,49,32,48,32])++tx (hxU b))++tx [10,99,111,109,109,105,116,10,119,114,105,116,101,32,49,32,48,32])++tx (hxU c))++tx [10,99,117,116,32])++tx (dgF 2 k))++tx [10,99,111,109,109,105,116,10,99,114,97,115,104,10,114,101,97,100,32,49,32,48,32])++tx (dgF 2 n)++tx [10]=tx (tls (ln2 n k b c)):=by
  simp only [QU]
  exact congrArg tx (by simp [tls,ln2,zcN,zgy,zng,ztB,zeJ,zkK])
 have hs:rnS (tx (tls (ln2 n k b c)))=tx (tls [[49],okL,okL,okL,okL]++R):=by
  unfold rnS
  rw [if_pos (by rw [qr];exact ztS h2 hk lb lc),zA8 h2 hk hb hc,zmP,h,strOf_strL]
 have hl:(tls [[49],okL,okL,okL,okL]).length=14:=rfl
 refine⟨tx (tls [[49],okL,okL,okL,okL]++R),tx R,?_,?_,?_,?_,?_⟩
 ·exact(congrArg rnS e).trans hs
 ·rw [qr,List.length_append,hl];omega
 ·have:=(zwl (tls [[49],okL,okL,okL,okL]) R).2
  rw [qr,hl] at this
  exact this
 ·rw [qr,zaX]
  refine congrArg tx ?_
  generalize tls [[49],okL,okL,okL,okL]=T at *
  rw [List.drop_append,List.length_append,hl,List.drop_eq_nil_of_le (by omega),Nat.sub_self,List.drop_zero,List.nil_append]
  exact List.take_of_length_le (by omega)
 ·rcases hR with rfl | rfl | rfl
  ·left
   show tx _=(tx [111,107,10,111,107,10]++tx (hxU c))++tx [10]
   simp only [QU]
   exact congrArg tx (by simp [tls,okL])
  ·right;left
   show tx _=(tx [69,114,114,76,111,115,116,10,111,107,10]++tx (hxU b))++tx [10]
   simp only [QU]
   exact congrArg tx (by simp [tls,okL,loL])
  ·right;right
   show tx _=(tx [69,114,114,76,111,115,116,10,111,107,10]++tx (hxU c))++tx [10]
   simp only [QU]
   exact congrArg tx (by simp [tls,okL,loL])
end
theorem zw6(W:World):∀ k:Nat,k<10->Sem.run Tryz.prog (Instr.slice 9 (.string { data:=#[48,49,50,51,52,53,54,55,56,57]}) (some (.int .i64 k)) (some (.int .i64 ((k:Int)+1))) none) W=.ok (.string (tx [UInt8.ofNat (48+k)])) W
 | 0,_=>by kernel_rfl
 | 1,_=>by kernel_rfl
 | 2,_=>by kernel_rfl
 | 3,_=>by kernel_rfl
 | 4,_=>by kernel_rfl
 | 5,_=>by kernel_rfl
 | 6,_=>by kernel_rfl
 | 7,_=>by kernel_rfl
 | 8,_=>by kernel_rfl
 | 9,_=>by kernel_rfl
 | k+10,h=>by omega
theorem zwR(W:World):∀ k:Nat,k<16->Sem.run Tryz.prog (Instr.slice 9 (.string { data:=#[48,49,50,51,52,53,54,55,56,57,97,98,99,100,101,102]}) (some (.int .i64 k)) (some (.int .i64 ((k:Int)+1))) none) W=.ok (.string (tx [zbQ.data.toList.getD k 0])) W
 | 0,_=>by kernel_rfl
 | 1,_=>by kernel_rfl
 | 2,_=>by kernel_rfl
 | 3,_=>by kernel_rfl
 | 4,_=>by kernel_rfl
 | 5,_=>by kernel_rfl
 | 6,_=>by kernel_rfl
 | 7,_=>by kernel_rfl
 | 8,_=>by kernel_rfl
 | 9,_=>by kernel_rfl
 | 10,_=>by kernel_rfl
 | 11,_=>by kernel_rfl
 | 12,_=>by kernel_rfl
 | 13,_=>by kernel_rfl
 | 14,_=>by kernel_rfl
 | 15,_=>by kernel_rfl
 | k+16,h=>by omega
set_option maxRecDepth 100000 in
set_option maxHeartbeats 1000000 in
theorem zhk(n:Nat)(hn:n<10)(w:World):Calls Tryz.prog 10 #[.int .i64 n] w fun e w'=>e=.returned (.string (tx [UInt8.ofNat (48+n)]))/\w=w':=by
 have hc:=zw6 w n hn
 have g0:¬ (n:Int)<0:=by omega
 have g1:(n:Int)<10:=by omega
 generalize tx [UInt8.ofNat (48+n)]=S at *
 go_enter Tryz.func10,Tryz.ntmps10
 go_wp2
 go_ret
 exact⟨rfl,rfl⟩
theorem ziw:∀ f n,(dgF f n).length<=f+1
 | 0,n=>Nat.le_refl _
 | f+1,n=>by
  show(if n<10 then [UInt8.ofNat (48+n)] else dgF f (n / 10)++[UInt8.ofNat (48+n % 10)]).length<=_
  have:=ziw f (n / 10)
  split
  ·simp
  ·rw [List.length_append,List.length_singleton];omega
set_option maxRecDepth 100000 in
set_option maxHeartbeats 1000000 in
theorem zhl:∀ (f n:Nat),f<=100->n<10 ^ (f+1)->n<=1000000->∀ w:World,Calls Tryz.prog 10 #[.int .i64 n] w fun e w'=>e=.returned (.string (tx (dgF f n)))/\w=w'
 | 0,n,_,h,_,w=>zhk n (by simpa using h) w
 | f+1,n,hf,h,h6,w=>by
  by_cases hn:n<10
  ·have e:dgF (f+1) n=[UInt8.ofNat (48+n)]:=by unfold dgF;rw [if_pos hn]
   rw [e]
   exact zhk n hn w
  ·have e:dgF (f+1) n=dgF f (n / 10)++[UInt8.ofNat (48+n % 10)]:=by
    show(if n<10 then _ else _)=_
    rw [if_neg hn]
   have h10:n / 10<10 ^ (f+1):=by
    rw [Nat.div_lt_iff_lt_mul (by decide),<- Nat.pow_succ]
    exact h
   have HD:=zb (zhl f (n / 10) (by omega) h10 (by omega) w)
   have hc:=zw6 w (n % 10) (by omega)
   rw [e,<- QU]
   have h1:(n:Int).tdiv 10=((n / 10:Nat):Int):=by rw [Int.tdiv_eq_ediv_of_nonneg (by omega)];omega
   have h2:(n:Int).tmod 10=((n % 10:Nat):Int):=by rw [Int.tmod_eq_emod_of_nonneg (by omega)];omega
   have hTS:¬ 9223372036854775807<(tx (dgF f (n / 10))).size+(tx [UInt8.ofNat (48+n % 10)]).size:=by
    have:=ziw f (n / 10)
    rw [qr,qr,List.length_singleton]
    omega
   have g0:¬ (n:Int)<0:=by omega
   have g1:¬ (n:Int)<10:=by omega
   have k0:((n % 10:Nat):Int)<10:=by omega
   have k1:0<=((n % 10:Nat):Int):=by omega
   have k2:((n / 10:Nat):Int)<=1000000:=by omega
   have k3:0<=((n / 10:Nat):Int):=by omega
   generalize n % 10=r at *
   generalize n / 10=q at *
   generalize tx [UInt8.ofNat (48+r)]=S at *
   generalize tx (dgF f q)=T at *
   clear e h h10
   go_enter Tryz.func10,Tryz.ntmps10
   go_wp2_with fail
   refine(za HD).mono ?_
   rintro e w1 ⟨rfl,rfl⟩
   go_wp2
   go_ret
   exact⟨rfl,rfl⟩
set_option maxRecDepth 100000 in
set_option maxHeartbeats 1000000 in
theorem zj8(a:Option Addr)(c:Nat)(l:List Int)(w:World)(hb:Bs w a c l)(hl:l.length<=200):Calls Tryz.prog 11 #[.slice a l.length c] w fun e w'=>e=.returned (.string (tx (hxU l)))/\Below w.heap.size w w':=by
 have HBS:=zb hb
 clear hb
 go_enter Tryz.func11,Tryz.ntmps11
 go_wp2_with fail
 go_loopw [3,4] (fun sv iv wr=>∃ i:Nat,i<=l.length/\iv=.int .i64 i/\sv=.string (tx (hxU (l.take i)))/\Below w.heap.size w wr) (fun _ iv _=>l.length-(intOf iv).toNat)
 case atStart=>exact⟨0,Nat.zero_le _,rfl,rfl,Below.refl _ _⟩
 case round =>
  obtain⟨i,hi,rfl,rfl,hbel⟩:=hrel
  by_cases hlt:i<l.length
  ·obtain⟨b0,o0,rfl,hcs⟩:=(za HBS).2.2.2.2 (by intro e;rw [e] at hlt;simp at hlt)
   have hc0:=hcs i hlt
   have hc1:=(hbel.cell (p:=⟨b0,o0+i,none⟩) (block_lt_of_cell hc0)).trans hc0
   have hx:=(za HBS).1 (l.getD i 0) (zdJ hlt)
   have hnx:tx (hxU (l.take (i+1)))=(tx (hxU (l.take i))++tx [zbQ.data.toList.getD (l.getD i 0 / 16).toNat 0])++tx [zbQ.data.toList.getD (l.getD i 0 % 16).toNat 0]:=by
    rw [QU,QU]
    congr 1
    unfold hxU
    rw [List.take_add_one,List.getElem?_eq_getElem hlt,List.flatMap_append]
    have e:l.getD i 0=l[i]:=by rw [List.getD_eq_getElem?_getD,List.getElem?_eq_getElem hlt];rfl
    rw [e]
    simp
   have HNX:=zb hnx
   clear hnx
   generalize l.getD i 0=x at *
   have h1:x.tdiv 16=((x / 16).toNat:Int):=by rw [Int.tdiv_eq_ediv_of_nonneg (by omega)];omega
   have h2:x.tmod 16=((x % 16).toNat:Int):=by rw [Int.tmod_eq_emod_of_nonneg (by omega)];omega
   have g1:=fun W=>zwR W (x / 16).toNat (by omega)
   have g2:=fun W=>zwR W (x % 16).toNat (by omega)
   have k0:(((x / 16).toNat:Nat):Int)<16:=by omega
   have k1:(((x % 16).toNat:Nat):Int)<16:=by omega
   have k2:0<=(((x / 16).toNat:Nat):Int):=by omega
   have k3:0<=(((x % 16).toNat:Nat):Int):=by omega
   have hs1:¬ 9223372036854775807<(tx (hxU (l.take i))).size+(tx [zbQ.data.toList.getD (x / 16).toNat 0]).size:=by
    rw [qr,qr,zaO,List.length_take,List.length_singleton]
    omega
   have hs2:¬ 9223372036854775807<(tx (hxU (l.take i))++tx [zbQ.data.toList.getD (x / 16).toNat 0]).size+(tx [zbQ.data.toList.getD (x % 16).toNat 0]).size:=by
    rw [QU,qr,qr,List.length_append,zaO,List.length_take,List.length_singleton,List.length_singleton]
    omega
   generalize (x / 16).toNat=q at *
   generalize (x % 16).toNat=r at *
   generalize tx [zbQ.data.toList.getD q 0]=S at *
   generalize tx [zbQ.data.toList.getD r 0]=T at *
   generalize tx (hxU (l.take i))=U at *
   have HBL:=zb hbel
   have t0:(i:Int)<(l.length:Int):=by omega
   clear hbel hcs hc0
   go_wp2_with fail
   go_quiet (fail)
   go_wp2
   go_roundw
   case rel=>exact⟨i+1,by omega,by go_num,by rw [za HNX],below_drewN (za HBL) _⟩
   case measure=>simp [intOf];omega
  ·obtain rfl:i=l.length:=by omega
   rw [List.take_length]
   have HBL:=zb hbel
   clear hbel
   go_wp2
   go_ret
   exact⟨rfl,za HBL⟩
end Go.Proofs.YtchmlnmhbfaclaaGreatDoor
