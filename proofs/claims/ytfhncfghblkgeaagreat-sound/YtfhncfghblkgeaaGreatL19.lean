import Derived.Test.YtfhncfghblkgeaaGreatL03
import Derived.Test.YtfhncfghblkgeaaGreatL18
set_option maxRecDepth 100000
set_option maxHeartbeats 2000000
namespace Go.Proofs.YtfhncfghblkgeaaGreat
open Go.RowKit
section
def Sal.doS (S:Sal) (r:Req):Rep × Sal:=if r.kind=1 then S.ask r else if r.kind=2 then S.confirm r else S.cancel r
def Sal.used (S:Sal) (t:Int):Option Ans:=S.ansL.find? (fun a=>S.remem a && a.token==t)
def Sal.send (S:Sal) (bs:List Int) (r:Req) (err:Int):Rep × Sal :=
 if err≠0 then (⟨1,0,0,0⟩,S)
 else if r.kind=4 then (S.poll r,S)
 else match S.used r.token with
  | some a=>if a.frame=strOfNums bs then (a.rep,S) else (⟨10,0,0,0⟩,S)
  | none =>
    if (S.answers:Int)=S.C.tokens then (⟨11,0,0,0⟩,S)
    else ((S.doS r).1,{ (S.doS r).2 with ansL:=(S.doS r).2.ansL++[⟨strOfNums bs,r.token,(S.doS r).1,S.now⟩] })
theorem jhy:∀ (n:Nat) (S:Sal),(jam n S).C=S.C/\(jam n S).now=S.now/\(jam n S).ansL=S.ansL
 | 0,_=>⟨rfl,rfl,rfl⟩
 | n+1,S=>by
   unfold jam
   split
   ·exact ⟨rfl,rfl,rfl⟩
   ·split
    ·exact ⟨rfl,rfl,rfl⟩
    ·exact jhy n _
theorem je6 (S:Sal):S.promote.C=S.C/\S.promote.now=S.now/\S.promote.ansL=S.ansL:=jhy _ S
theorem jep:∀ (qs:List Nat) (S:Sal),(jcr S qs).C=S.C/\(jcr S qs).now=S.now/\(jcr S qs).ansL=S.ansL
 | [],_=>⟨rfl,rfl,rfl⟩
 | q :: qs,S=>by
   have e:jcr S (q :: qs)=jcr (if S.left<(S.os.getD q ja2).units then S.ends q 18 else S) qs:=rfl
   rw [e]
   split
   ·exact jep qs _
   ·exact jep qs _
theorem jzf (S:Sal) (r:Req):(S.ask r).2.C=S.C/\(S.ask r).2.now=S.now/\(S.ask r).2.ansL=S.ansL:=by
 unfold Sal.ask
 split
 ·exact ⟨rfl,rfl,rfl⟩
 split
 ·exact ⟨rfl,rfl,rfl⟩
 split
 ·exact ⟨rfl,rfl,rfl⟩
 split
 ·exact ⟨rfl,rfl,rfl⟩
 split<;>exact ⟨rfl,rfl,rfl⟩
theorem jr5 (S:Sal) (r:Req):(S.cancel r).2.C=S.C/\(S.cancel r).2.now=S.now/\(S.cancel r).2.ansL=S.ansL:=by
 unfold Sal.cancel
 split
 ·exact ⟨rfl,rfl,rfl⟩
 ·split
  ·exact ⟨rfl,rfl,rfl⟩
  ·exact je6 _
theorem jq1 (S:Sal) (r:Req):(S.confirm r).2.C=S.C/\(S.confirm r).2.now=S.now/\(S.confirm r).2.ansL=S.ansL:=by
 unfold Sal.confirm
 split
 ·exact ⟨rfl,rfl,rfl⟩
 ·next i _ =>
  split
  ·exact ⟨rfl,rfl,rfl⟩
  ·obtain ⟨a,b,c⟩:=je6 (jcr (S.ends i 14) (ja5 (S.ends i 14).os))
   obtain ⟨d,e,f⟩:=jep (ja5 (S.ends i 14).os) (S.ends i 14)
   exact ⟨a.trans d,b.trans e,c.trans f⟩
theorem jfq (S:Sal) (r:Req):(S.doS r).2.C=S.C/\(S.doS r).2.now=S.now/\(S.doS r).2.ansL=S.ansL:=by
 unfold Sal.doS
 split
 ·exact jzf S r
 split
 ·exact jq1 S r
 ·exact jr5 S r
section
variable {w w':World} {B R:Nat} {S:Sal} {ap:Option Addr} {lp cp:Nat} {vo va:Value}
end
end
section
theorem jp6 {S:Sal} {t:Int} {a:Ans} (h:S.used t=some a):∃ i,i<S.ansL.length/\S.ansL.getD i jem=a/\S.remem a=true/\a.token=t/\∀ j,j<i->¬ (S.remem (S.ansL.getD j jem)=true/\(S.ansL.getD j jem).token=t):=by
 unfold Sal.used at h
 obtain ⟨hp,i,hi,e,hf⟩:=List.find?_eq_some_iff_getElem.1 h
 simp only [Bool.and_eq_true,beq_iff_eq] at hp
 refine ⟨i,hi,by simp [List.getD,List.getElem?_eq_getElem hi,e],hp.1,hp.2,fun j hj=>?_⟩
 have:=hf j hj
 have hjl:j<S.ansL.length:=by omega
 simp only [List.getD,List.getElem?_eq_getElem hjl,Option.getD_some]
 simp only [Bool.not_eq_true',Bool.and_eq_false_iff,beq_eq_false_iff_ne] at this
 rintro ⟨a1,a2⟩
 rcases this with x|x
 ·rw [a1] at x;cases x
 ·exact x a2
theorem jy6 {k t c u o:Int} (h:isB k t c u o=true):(k=1/\1<=c/\1<=u/\u<=4294967296)\/((k=2\/k=3)/\1<=o/\o<=4294967296)\/(k=4/\1<=o/\o<=4294967296):=by
 unfold isB jby at h
 split at h
 ·next e=>simp at h;exact .inl ⟨e,by omega,by omega,by omega⟩
 split at h
 ·next e=>simp at h;exact .inr (.inl ⟨e,by omega,by omega⟩)
 split at h
 ·next e=>simp at h;exact .inr (.inr ⟨e,by omega,by omega⟩)
 ·cases h
section
variable {w w':World} {B R:Nat} {S:Sal} {ap:Option Addr} {lp cp:Nat} {vo va:Value}
end
end
section
def jqj (os:List Ord) (to:Int):Nat->Int
 | 0=>-1
 | k+1=>if ((os.getD k ja2).state=13\/(os.getD k ja2).state=12)/\(os.getD k ja2).upto<=to/\(jqj os to k<0\/(os.getD k ja2).upto<jqj os to k) then (os.getD k ja2).upto else jqj os to k
def Sal.due (S:Sal) (to:Int):Int:=jqj S.os to S.os.length
section
variable {w:World} {B R:Nat} {S:Sal} {ap:Option Addr} {lp cp:Nat} {vo va:Value}
end
end
section
def jbq (S:Sal) (st en:Int):Nat->Sal
 | 0=>S
 | k+1=>if ((jbq S st en k).os.getD k ja2).state=st/\((jbq S st en k).os.getD k ja2).upto=S.now then (jbq S st en k).ends k en else jbq S st en k
def Sal.past (S:Sal) (st en:Int):Sal:=(jbq S st en S.os.length).promote
theorem jc7 (S:Sal) (st en:Int):∀ k,(jbq S st en k).os.length=S.os.length
 | 0=>rfl
 | k+1=>by
   have ih:=jc7 S st en k
   unfold jbq
   split
   ·rw [jcx];exact ih
   ·exact ih
theorem jdw (S:Sal) (st en:Int):∀ k,(jbq S st en k).C=S.C/\(jbq S st en k).now=S.now/\(jbq S st en k).ansL=S.ansL
 | 0=>⟨rfl,rfl,rfl⟩
 | k+1=>by
   have ih:=jdw S st en k
   unfold jbq
   split
   ·exact ih
   ·exact ih
theorem jpy {S:Sal} (h:salI S) (st en:Int) (hen:en≠12/\en≠13/\en≠14):∀ k,k<=S.os.length->salI (jbq S st en k)
 | 0,_=>h
 | k+1,hk=>by
   have ih:=jpy h st en hen k (by omega)
   unfold jbq
   split
   ·exact jij ih (by rw [jc7];omega) en (.inr hen) (fun e=>absurd e hen.2.2)
   ·exact ih
section
variable {w:World} {B R:Nat} {S:Sal} {ap:Option Addr} {lp cp:Nat} {vo va:Value}
end
end
end Go.Proofs.YtfhncfghblkgeaaGreat
