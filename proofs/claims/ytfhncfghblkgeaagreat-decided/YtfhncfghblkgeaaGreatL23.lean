import Derived.Test.YtfhncfghblkgeaaGreatL00
set_option maxRecDepth 100000
set_option maxHeartbeats 2000000
namespace Go.Proofs.YtfhncfghblkgeaaGreat
open Go.RowKit
theorem jae {w:World} {R:Nat} {c0 c1 c2 c3 c4:Value} {T:TypeId} (h:w.heap[R]?=some (.cells #[c0,c1,c2,c3,c4] T (0,0))):w.cell? (aq R 0)=some c0/\w.cell? (aq R 1)=some c1/\w.cell? (aq R 2)=some c2/\w.cell? (aq R 3)=some c3/\w.cell? (aq R 4)=some c4 :=
 ⟨by rw [Joins.cell_of_block h];rfl,by rw [Joins.cell_of_block h];rfl,by rw [Joins.cell_of_block h];rfl,by rw [Joins.cell_of_block h];rfl,by rw [Joins.cell_of_block h];rfl⟩
end Go.Proofs.YtfhncfghblkgeaaGreat
