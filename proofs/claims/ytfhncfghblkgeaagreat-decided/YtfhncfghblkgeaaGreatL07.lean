import Derived.Test.YtfhncfghblkgeaaGreatL06
set_option maxRecDepth 100000
set_option maxHeartbeats 2000000
namespace Go.Proofs.YtfhncfghblkgeaaGreat
open Go.RowKit
section
structure Req where
 kind:Int
 token:Int
 cust:Int
 units:Int
 order:Int
def Req.val (r:Req):Value:=.agg #[iv r.kind,iv r.token,iv r.cust,iv r.units,iv r.order]
def Rep.val (r:Rep):Value:=.agg #[iv r.kind,iv r.order,iv r.cents,iv r.upto]
def jfo (os:List Ord) (cust order:Int):Option Nat:=if order<=os.length/\(os.getD (order - 1).toNat ja3).cust=cust then some (order - 1).toNat else none
theorem ja9 {w:World} {R:Nat} {c0 c1 c2 c3:Value} {T:TypeId} (h:w.heap[R]?=some (.cells #[c0,c1,c2,c3] T (0,0))):w.cell? (aq R 0)=some c0/\w.cell? (aq R 1)=some c1/\w.cell? (aq R 2)=some c2/\w.cell? (aq R 3)=some c3 :=
 ⟨by rw [Joins.cell_of_block h];rfl,by rw [Joins.cell_of_block h];rfl,by rw [Joins.cell_of_block h];rfl,by rw [Joins.cell_of_block h];rfl⟩
theorem jcx {w w2:World} {B b:Nat} {v0 v1 v2 v3:Value} (h:Below B w w2) (hb:B<=b):Below B w ((((w2.setCell (aq b 0) v0).setCell (aq b 1) v1).setCell (aq b 2) v2).setCell (aq b 3) v3) :=
 (((h.setCell (p:=(aq b 0)) hb _).setCell (p:=(aq b 1)) hb _).setCell (p:=(aq b 2)) hb _).setCell (p:=(aq b 3)) hb _
def Sal.poll (S:Sal) (r:Req):Rep:=match jfo S.os r.cust r.order with
 | none=>{ jks with kind:=19 }
 | some i =>
   if (S.os.getD i ja3).state=12 then ⟨12,r.order,0,(S.os.getD i ja3).upto⟩
   else if (S.os.getD i ja3).state=13 then ⟨13,r.order,(S.os.getD i ja3).cents,(S.os.getD i ja3).upto⟩
   else if S.C.keep<=S.now - (S.os.getD i ja3).ended then { jks with kind:=19 }
   else if (S.os.getD i ja3).state=14 then ⟨14,r.order,(S.os.getD i ja3).units * (S.os.getD i ja3).cents,0⟩
   else ⟨(S.os.getD i ja3).state,r.order,0,0⟩
section
variable {w w':World} {B R:Nat} {S:Sal} {ap:Option Addr} {lp cp:Nat} {vo va:Value}
end
end
end Go.Proofs.YtfhncfghblkgeaaGreat
