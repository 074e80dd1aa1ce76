import Derived.Test.YtfhncfghblkgeaaGreatL45
import Derived.Test.YtfhncfghblkgeaaGreatL47
set_option maxRecDepth 100000
set_option maxHeartbeats 2000000
namespace Go.Proofs.YtfhncfghblkgeaaGreat
open Go.RowKit
theorem ticks_holds:Rows.TicksSaid:=qbv qg2 qgb qg7 qg3
end Go.Proofs.YtfhncfghblkgeaaGreat
