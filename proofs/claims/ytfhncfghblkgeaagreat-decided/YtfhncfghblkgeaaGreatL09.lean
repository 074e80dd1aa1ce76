import Derived.Test.YtfhncfghblkgeaaGreatL08
set_option maxRecDepth 100000
set_option maxHeartbeats 2000000
namespace Go.Proofs.YtfhncfghblkgeaaGreat
open Go.RowKit
section
def Sal.more (S:Sal) (o:Ord):Sal:={ S with os:=S.os++[o] }
def Sal.ask (S:Sal) (r:Req):Rep × Sal :=
 if S.C.cap<ja4 S.os 13 r.cust+ja4 S.os 14 r.cust+ja4 S.os 12 r.cust+r.units then (⟨4,0,0,0⟩,S)
 else if S.left<r.units then (⟨5,0,0,0⟩,S)
 else if 4294967296<=S.os.length then (⟨6,0,0,0⟩,S)
 else if ja5 S.os=[]/\r.units<=S.free then
  (⟨2,S.os.length+1,(((S.more ⟨r.cust,r.units,0,0,0,0⟩).holds S.os.length).os.getD S.os.length ja3).cents,S.now+S.C.lease⟩,(S.more ⟨r.cust,r.units,0,0,0,0⟩).holds S.os.length)
 else if ((ja5 S.os).length:Int)=S.C.queue then (⟨6,0,0,0⟩,S)
 else (⟨3,S.os.length+1,0,S.now+S.C.wait⟩,S.more ⟨r.cust,r.units,12,0,S.now+S.C.wait,0⟩)
section
variable {w w':World} {B R:Nat} {S:Sal} {ap:Option Addr} {lp cp:Nat} {vo va:Value}
end
theorem qa2 {S:Sal} (h:salI S) (c u:Int) (hu:1<=u/\u<=4294967296) (hc:ja4 S.os 12 c+u<=4294967296) (t:Int):salI (S.more ⟨c,u,12,0,t,0⟩):=by
 refine ⟨fun x hx=>?_,?_,fun d hd=>?_,h.cfg,h.now,fun x hx=>?_,h.prices⟩
 ·rcases List.mem_append.1 hx with hx|hx
  ·exact h.units x hx
  ·simp at hx;subst hx;exact hu
 ·show ja4 (S.os++[_]) 13 0+ja4 (S.os++[_]) 14 0<=S.C.stock
  rw [jca,jca]
  have:=h.stock
  simp [Ord.part,Ord.is]
  omega
 ·show ja4 (S.os++[_]) 12 d<=4294967296
  rw [jca,jli hd]
  have:=h.cap d hd
  split
  ·next e=>have e2:d=c:=e.2;subst e2;show ja4 S.os 12 d+u<=_;omega
  ·omega
 ·rcases List.mem_append.1 hx with hx|hx
  ·exact h.ords x hx
  ·simp at hx;subst hx;exact ⟨by simp,by simp⟩
theorem jvg {S:Sal} (h:salI S) (o:Ord) (hs:o.state=13) (hu:1<=o.units/\o.units<=4294967296) (hf:o.units<=S.free) (ho:(0<=o.cents/\o.cents<=1073741824)/\(0<=o.ended/\o.ended<=4611686018427387904)):salI (S.more o):=by
 refine ⟨fun x hx=>?_,?_,fun d hd=>?_,h.cfg,h.now,fun x hx=>?_,h.prices⟩
 ·rcases List.mem_append.1 hx with hx|hx
  ·exact h.units x hx
  ·simp at hx;subst hx;exact hu
 ·show ja4 (S.os++[_]) 13 0+ja4 (S.os++[_]) 14 0<=S.C.stock
  rw [jca,jca]
  unfold Sal.free Sal.left at hf
  simp [Ord.part,Ord.is,hs]
  omega
 ·show ja4 (S.os++[_]) 12 d<=4294967296
  rw [jca,jli hd]
  have:=h.cap d hd
  split
  ·next e=>have e1:=e.1;rw [hs] at e1;cases e1
  ·omega
 ·rcases List.mem_append.1 hx with hx|hx
  ·exact h.ords x hx
  ·simp at hx;subst hx;exact ho
theorem qc4 (os:List Ord) (o p:Ord):(os++[o]).set os.length p=os++[p]:=by
 rw [List.set_append_right (h:=Nat.le_refl _)]
 simp
theorem jcw (S:Sal) (c u:Int):(S.more ⟨c,u,0,0,0,0⟩).holds S.os.length=S.more ⟨c,u,13,(S.more ⟨c,u,13,0,0,0⟩).price,S.now+S.C.lease,0⟩/\(S.more ⟨c,u,13,0,0,0⟩).price=S.price:=by
 have g:(S.more ⟨c,u,0,0,0,0⟩).os.getD S.os.length ja3=⟨c,u,0,0,0,0⟩:=by
  show (S.os++[_]).getD S.os.length ja3=_
  rw [jaw (by omega),if_pos rfl]
 constructor
 ·unfold Sal.holds
  rw [g]
  unfold Sal.put
  simp only [Sal.more,qc4]
 ·unfold Sal.price
  show jc7 S.C.prices (ja4 (S.os++[_]) 14 0) _=_
  rw [jca]
  simp [Ord.part,Ord.is]
  rfl
section
variable {w w':World} {B R:Nat} {S:Sal} {ap:Option Addr} {lp cp:Nat} {vo va:Value}
end
end
section
def Ans.val (a:Ans):Value:=.agg #[.string a.frame,iv a.token,iv a.rep.kind,iv a.rep.order,iv a.rep.cents,iv a.rep.upto,iv a.at']
def Sal.remem (S:Sal) (a:Ans):Bool:=decide (S.now - a.at'<S.C.keep)
def Sal.answers (S:Sal):Nat:=(S.ansL.filter S.remem).length
section
variable {w:World} {B R:Nat} {S:Sal} {ap:Option Addr} {lp cp:Nat} {vo va:Value}
end
end
end Go.Proofs.YtfhncfghblkgeaaGreat
