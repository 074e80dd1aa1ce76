import Derived.Test.YtfhncfghblkgeaaGreatL03
import Derived.Test.YtfhncfghblkgeaaGreatL09
set_option maxRecDepth 100000
set_option maxHeartbeats 2000000
namespace Go.Proofs.YtfhncfghblkgeaaGreat
open Go.RowKit
section
def Sal.doS (S:Sal) (r:Req):Rep × Sal:=if r.kind=1 then S.ask r else if r.kind=2 then S.confirm r else S.cancel r
def Sal.used (S:Sal) (t:Int):Option Ans:=S.ansL.find? (fun a=>S.remem a && a.token==t)
def Sal.send (S:Sal) (bs:List Int) (r:Req) (err:Int):Rep × Sal :=
 if err≠0 then (⟨1,0,0,0⟩,S)
 else if r.kind=4 then (S.poll r,S)
 else match S.used r.token with
  | some a=>if a.frame=strOfNums bs then (a.rep,S) else (⟨10,0,0,0⟩,S)
  | none =>
    if (S.answers:Int)=S.C.tokens then (⟨11,0,0,0⟩,S)
    else ((S.doS r).1,{ (S.doS r).2 with ansL:=(S.doS r).2.ansL++[⟨strOfNums bs,r.token,(S.doS r).1,S.now⟩] })
theorem jif:∀ (n:Nat) (S:Sal),(jak n S).C=S.C/\(jak n S).now=S.now/\(jak n S).ansL=S.ansL
 | 0,_=>⟨rfl,rfl,rfl⟩
 | n+1,S=>by
   unfold jak
   split
   ·exact ⟨rfl,rfl,rfl⟩
   ·split
    ·exact ⟨rfl,rfl,rfl⟩
    ·exact jif n _
theorem jeo (S:Sal):S.promote.C=S.C/\S.promote.now=S.now/\S.promote.ansL=S.ansL:=jif _ S
theorem jfd:∀ (qs:List Nat) (S:Sal),(jd2 S qs).C=S.C/\(jd2 S qs).now=S.now/\(jd2 S qs).ansL=S.ansL
 | [],_=>⟨rfl,rfl,rfl⟩
 | q :: qs,S=>by
   have e:jd2 S (q :: qs)=jd2 (if S.left<(S.os.getD q ja3).units then S.ends q 18 else S) qs:=rfl
   rw [e]
   split
   ·exact jfd qs _
   ·exact jfd qs _
theorem qas (S:Sal) (r:Req):(S.ask r).2.C=S.C/\(S.ask r).2.now=S.now/\(S.ask r).2.ansL=S.ansL:=by
 unfold Sal.ask
 split
 ·exact ⟨rfl,rfl,rfl⟩
 split
 ·exact ⟨rfl,rfl,rfl⟩
 split
 ·exact ⟨rfl,rfl,rfl⟩
 split
 ·exact ⟨rfl,rfl,rfl⟩
 split<;>exact ⟨rfl,rfl,rfl⟩
theorem jtl (S:Sal) (r:Req):(S.cancel r).2.C=S.C/\(S.cancel r).2.now=S.now/\(S.cancel r).2.ansL=S.ansL:=by
 unfold Sal.cancel
 split
 ·exact ⟨rfl,rfl,rfl⟩
 ·split
  ·exact ⟨rfl,rfl,rfl⟩
  ·exact jeo _
theorem jpz (S:Sal) (r:Req):(S.confirm r).2.C=S.C/\(S.confirm r).2.now=S.now/\(S.confirm r).2.ansL=S.ansL:=by
 unfold Sal.confirm
 split
 ·exact ⟨rfl,rfl,rfl⟩
 ·next i _ =>
  split
  ·exact ⟨rfl,rfl,rfl⟩
  ·obtain ⟨a,b,c⟩:=jeo (jd2 (S.ends i 14) (ja5 (S.ends i 14).os))
   obtain ⟨d,e,f⟩:=jfd (ja5 (S.ends i 14).os) (S.ends i 14)
   exact ⟨a.trans d,b.trans e,c.trans f⟩
theorem jew (S:Sal) (r:Req):(S.doS r).2.C=S.C/\(S.doS r).2.now=S.now/\(S.doS r).2.ansL=S.ansL:=by
 unfold Sal.doS
 split
 ·exact qas S r
 split
 ·exact jpz S r
 ·exact jtl S r
section
variable {w w':World} {B R:Nat} {S:Sal} {ap:Option Addr} {lp cp:Nat} {vo va:Value}
end
end
section
theorem jqr {S:Sal} {t:Int} {a:Ans} (h:S.used t=some a):∃ i,i<S.ansL.length/\S.ansL.getD i jf6=a/\S.remem a=true/\a.token=t/\∀ j,j<i->¬ (S.remem (S.ansL.getD j jf6)=true/\(S.ansL.getD j jf6).token=t):=by
 unfold Sal.used at h
 obtain ⟨hp,i,hi,e,hf⟩:=List.find?_eq_some_iff_getElem.1 h
 simp only [Bool.and_eq_true,beq_iff_eq] at hp
 refine ⟨i,hi,by simp [List.getD,List.getElem?_eq_getElem hi,e],hp.1,hp.2,fun j hj=>?_⟩
 have:=hf j hj
 have hjl:j<S.ansL.length:=by omega
 simp only [List.getD,List.getElem?_eq_getElem hjl,Option.getD_some]
 simp only [Bool.not_eq_true',Bool.and_eq_false_iff,beq_eq_false_iff_ne] at this
 rintro ⟨a1,a2⟩
 rcases this with x|x
 ·rw [a1] at x;cases x
 ·exact x a2
theorem jwy {k t c u o:Int} (h:isB k t c u o=true):(k=1/\1<=c/\1<=u/\u<=4294967296)\/((k=2\/k=3)/\1<=o/\o<=4294967296)\/(k=4/\1<=o/\o<=4294967296):=by
 unfold isB jbn at h
 split at h
 ·next e=>simp at h;exact .inl ⟨e,by omega,by omega,by omega⟩
 split at h
 ·next e=>simp at h;exact .inr (.inl ⟨e,by omega,by omega⟩)
 split at h
 ·next e=>simp at h;exact .inr (.inr ⟨e,by omega,by omega⟩)
 ·cases h
section
variable {w w':World} {B R:Nat} {S:Sal} {ap:Option Addr} {lp cp:Nat} {vo va:Value}
end
end
section
def jp5 (os:List Ord) (to:Int):Nat->Int
 | 0=>-1
 | k+1=>if ((os.getD k ja3).state=13\/(os.getD k ja3).state=12)/\(os.getD k ja3).upto<=to/\(jp5 os to k<0\/(os.getD k ja3).upto<jp5 os to k) then (os.getD k ja3).upto else jp5 os to k
def Sal.due (S:Sal) (to:Int):Int:=jp5 S.os to S.os.length
section
variable {w:World} {B R:Nat} {S:Sal} {ap:Option Addr} {lp cp:Nat} {vo va:Value}
end
end
section
def jbq (S:Sal) (st en:Int):Nat->Sal
 | 0=>S
 | k+1=>if ((jbq S st en k).os.getD k ja3).state=st/\((jbq S st en k).os.getD k ja3).upto=S.now then (jbq S st en k).ends k en else jbq S st en k
def Sal.past (S:Sal) (st en:Int):Sal:=(jbq S st en S.os.length).promote
theorem jc5 (S:Sal) (st en:Int):∀ k,(jbq S st en k).os.length=S.os.length
 | 0=>rfl
 | k+1=>by
   have ih:=jc5 S st en k
   unfold jbq
   split
   ·rw [jd6];exact ih
   ·exact ih
theorem jdp (S:Sal) (st en:Int):∀ k,(jbq S st en k).C=S.C/\(jbq S st en k).now=S.now/\(jbq S st en k).ansL=S.ansL
 | 0=>⟨rfl,rfl,rfl⟩
 | k+1=>by
   have ih:=jdp S st en k
   unfold jbq
   split
   ·exact ih
   ·exact ih
theorem jql {S:Sal} (h:salI S) (st en:Int) (hen:en≠12/\en≠13/\en≠14):∀ k,k<=S.os.length->salI (jbq S st en k)
 | 0,_=>h
 | k+1,hk=>by
   have ih:=jql h st en hen k (by omega)
   unfold jbq
   split
   ·exact jim ih (by rw [jc5];omega) en (.inr hen) (fun e=>absurd e hen.2.2)
   ·exact ih
section
variable {w:World} {B R:Nat} {S:Sal} {ap:Option Addr} {lp cp:Nat} {vo va:Value}
end
end
end Go.Proofs.YtfhncfghblkgeaaGreat
