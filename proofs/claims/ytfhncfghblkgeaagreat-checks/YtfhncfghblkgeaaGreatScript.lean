/-
  Scripts and configurations stay as they are where nothing old is written.
-/
import Derived.Test.YtfhncfghblkgeaaGreatOpenS
namespace Go.Proofs.YtfhncfghblkgeaaGreat
open Go.RowKit

theorem cfgsAt.below {w w' : World} {a : Option Addr} {len B : Nat} (h : cfgsAt w a len) (hb : Below B w w') (hB : w.heap.size ≤ B) : cfgsAt w' a len :=
  ⟨h.1, fun h0 => by
    obtain ⟨b, off, ha, hbw, hc⟩ := h.2 h0
    exact ⟨b, off, ha, Nat.lt_of_lt_of_le hbw hb.size, fun i hi => (hc i hi).below hb hB (Nat.lt_of_lt_of_le hbw hB)⟩⟩

theorem scriptAt.below {w w' : World} {a : Option Addr} {len B : Nat} {ops : List OpV} (h : scriptAt w a len ops) (hb : Below B w w') (hB : w.heap.size ≤ B) : scriptAt w' a len ops :=
  ⟨h.1, fun h0 => by
    obtain ⟨b, off, ha, hbw, hc⟩ := h.2 h0
    exact ⟨b, off, ha, Nat.lt_of_lt_of_le hbw hb.size, fun i hi => (hc i hi).below hb (Nat.lt_of_lt_of_le hbw hB)⟩⟩

end Go.Proofs.YtfhncfghblkgeaaGreat
