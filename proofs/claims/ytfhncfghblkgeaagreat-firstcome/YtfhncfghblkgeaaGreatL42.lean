import Derived.Test.YtfhncfghblkgeaaGreatL26
set_option maxRecDepth 100000
set_option maxHeartbeats 2000000
namespace Go.Proofs.YtfhncfghblkgeaaGreat
open Go.RowKit
structure Kn where
 cust:Int
 units:Int
 paid:Bool
def kn0:Kn:=⟨0,0,false⟩
def Kn.vals (k:Kn):List Value:=[iv k.cust,iv k.units,.bool k.paid]
def jgk (kl:List Kn):List Value:=kl.flatMap Kn.vals
def jho (L:Nat) (kl:List Kn) (W:World) (o:Nat->Prop):Prop :=
 ∃ a c,W.heap[L]?=some (.cells #[.slice a kl.length c] 39 (0,0))/\W.ownsRow 0 85 3 (.slice a kl.length c) kl.length (jgk kl)/\(∀ k,o k↔k=L\/Value.ownBlock (.slice a kl.length c)=some k)
end Go.Proofs.YtfhncfghblkgeaaGreat
