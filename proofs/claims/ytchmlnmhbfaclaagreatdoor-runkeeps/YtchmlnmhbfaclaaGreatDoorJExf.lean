/-
  What Frees and Fit answer, as plain lists. (Part of the proofs over packages extent and heap.)
-/
import Derived.Test.YtchmlnmhbfaclaaGreatDoorJChp
namespace Go.Proofs.YtchmlnmhbfaclaaGreatDoor
set_option linter.unusedVariables false
def srtL(l:List (Int×Int)):List (Int×Int):=l.mergeSort (fun a b=>decide (a.1<=b.1))
theorem Good.srt{n:Int}{l s:List (Int×Int)}(hg:Good n l)(hp:s.Perm l)(hs:s.Pairwise (fun a b=>a.1<=b.1)):Srt l s:=by
 refine⟨hp,?_⟩
 have hgs:=hg.perm hp
 refine(hs.and hgs.apart).imp_of_mem (fun {a b} ha hb ⟨h1,h2⟩=>?_)
 have:=zaK.1 h2
 have:=hgs.all a ha
 have:=hgs.all b hb
 omega
theorem Good.srtL{n:Int}{l:List (Int×Int)}(hg:Good n l):Srt l (srtL l):=by
 refine hg.srt (List.mergeSort_perm l _) ?_
 have:=List.pairwise_mergeSort (le:=fun a b:(Int×Int)=>decide (a.1<=b.1)) (fun a b c h1 h2=>by simp at *;omega) (fun a b=>by simp;omega) l
 exact this.imp (fun h=>by simpa using h)
theorem Good.srt_eq{n:Int}{l s:List (Int×Int)}(hg:Good n l)(hp:s.Perm l)(hs:s.Pairwise (fun a b=>a.1<=b.1)):s=YtchmlnmhbfaclaaGreatDoor.srtL l :=
 zd6 ((hg.srt hp hs).1.trans hg.srtL.1.symm) (hg.srt hp hs).2 hg.srtL.2
def zy(n:Int)(l:List (Int×Int)):List (Int×Int):=if chk n l=0 then qo n (srtL l) else []
def zc7(n:Int)(l:List (Int×Int))(size:Int):Int:=if chk n l≠0 then chk n l else if size<1\/6400<size then 1 else if (zaR size (zy n l)).2=0 then 4 else 0
def zau(n:Int)(l:List (Int×Int))(size:Int):Int:=if zc7 n l size=0 then (zaR size (zy n l)).1 else 0
theorem zeQ:∀ (f:Int) (s:List (Int×Int)),(zQ f s).length<=s.length
 | f,[]=>Nat.le_refl _
 | f,e :: r=>by
  have:=zeQ (e.1+e.2) r
  simp only [zQ,List.length_append,List.length_cons]
  by_cases h:f<e.1
  ·rw [if_pos h];simp;omega
  ·rw [if_neg h];simp;omega
theorem QK{n:Int}{l:List (Int×Int)}(hc:chk n l=0):(∀ x∈zy n l,0<=x.1/\1<=x.2/\x.1+x.2<=n)/\(zy n l).length<=201:=by
 obtain⟨h0,h1,h2,hg⟩:=zaa.1 hc
 unfold zy
 rw [if_pos hc]
 refine⟨fun x hx=>?_,?_⟩
 ·have:=hg.srtL.freeIn hg h0 x hx
  exact⟨this.1,this.2.1,this.2.2.1⟩
 ·refine Nat.le_trans (zeQ _ _) ?_
  rw [List.length_append,hg.srtL.1.length_eq]
  simp;omega
end Go.Proofs.YtchmlnmhbfaclaaGreatDoor
