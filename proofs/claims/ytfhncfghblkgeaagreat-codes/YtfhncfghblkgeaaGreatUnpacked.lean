/-
  The walk: unpacked.
-/
import Derived.Test.YtfhncfghblkgeaaGreatLentB
import Derived.Test.YtfhncfghblkgeaaGreatRUnp
namespace Go.Proofs.YtfhncfghblkgeaaGreat
open Go.RowKit

/-- What a text turned into bytes reads as. -/
theorem conv_bytes {w : World} {s : ByteArray} (hs : s.size ≤ 140737488351232) :
    sliceOf (w.drew.alloc (.cells (bytesRow s (grownCap w s.size 0 5)) 5 ((bytesRow s (grownCap w s.size 0 5)).size, (bytesRow s (grownCap w s.size 0 5)).size + 1))) (some ⟨w.heap.size, 0, none⟩) s.size (grownCap w s.size 0 5) (bytesL s) := by
  refine ⟨bytesL_len s, grownCap_ge w _ _ _, grownCap_le_maxLen w _ _ _ (by unfold maxLen; omega), bytesL_byte s, fun _ => ⟨w.heap.size, 0, rfl, by simp, fun i hi => ?_⟩⟩
  have h1 := World.cell?_alloc_mark w.drew (bytesRow s (grownCap w s.size 0 5)) 5 ((bytesRow s (grownCap w s.size 0 5)).size, (bytesRow s (grownCap w s.size 0 5)).size + 1) (0 + i)
  refine h1.trans ?_
  have hi' : i < s.data.size := hi
  rw [Nat.zero_add, bytesRow_at s _ i hi']
  simp [bytesL, List.getD, Array.getElem?_eq_getElem hi']

set_option maxRecDepth 100000 in
set_option maxHeartbeats 2000000 in
theorem unpacked_any (s : ByteArray) (w : World) (hs : s.size ≤ 140737488351232) :
    Calls Tryz.prog 46 #[.string s] w fun e w' => e = .returned (.bool true) ∧ Below w.heap.size w w' := by
  have hcv := fun w' : World => run_bytes_of_string (P := Tryz.prog) w' 9 92 5 s Tryz.underlying9 Tryz.underlying92 Tryz.underlying5
  go_enter Tryz.func46, Tryz.ntmps46
  go_wp2_with fail
  refine (lentBytes_any s _ hs).mono ?_
  rintro e w1 ⟨g, rfl, hg, hrow, b1⟩
  have HROW : Hid (w1.heap[g]? = some (.cells ((lentB s).map (Value.int .u8)).toArray 5 (0, 0))) := hrow
  have hg1 : g < w1.heap.size := (Array.getElem?_eq_some_iff.1 hrow).1
  clear hrow
  go_wp2_with fail
  refine (unpack_any _ _ _ _ _ (lent_slice HROW.out hs)).mono ?_
  rintro e w2 ⟨k, t, c, u, o, err, rfl, hun, b2⟩
  have HUN : Hid (UN (bytesL s) k t c u o err) := hun
  have HROW2 : Hid (w2.heap[g]? = some (.cells ((lentB s).map (Value.int .u8)).toArray 5 (0, 0))) := (b2.block g hg1).trans HROW.out
  have hg2 : g < w2.heap.size := Nat.lt_of_lt_of_le hg1 b2.size
  have w02 : Below w.heap.size w w2 := b1.trans (b2.mono b1.size)
  clear hun
  go_wp2_with fail
  have hsl : Hid (sliceOf ((w2.alloc (.cells #[.int .i64 k, .int .i64 t, .int .i64 c, .int .i64 u, .int .i64 o] 46)).drew.alloc (.cells (bytesRow s (grownCap (w2.alloc (.cells #[.int .i64 k, .int .i64 t, .int .i64 c, .int .i64 u, .int .i64 o] 46)) s.size 0 5)) 5 ((bytesRow s (grownCap (w2.alloc (.cells #[.int .i64 k, .int .i64 t, .int .i64 c, .int .i64 u, .int .i64 o] 46)) s.size 0 5)).size, (bytesRow s (grownCap (w2.alloc (.cells #[.int .i64 k, .int .i64 t, .int .i64 c, .int .i64 u, .int .i64 o] 46)) s.size 0 5)).size + 1))) (some ⟨w2.heap.size + 1, 0, none⟩) s.size (grownCap (w2.alloc (.cells #[.int .i64 k, .int .i64 t, .int .i64 c, .int .i64 u, .int .i64 o] 46)) s.size 0 5) (bytesL s)) := by
    have h := conv_bytes (w := w2.alloc (.cells #[.int .i64 k, .int .i64 t, .int .i64 c, .int .i64 u, .int .i64 o] 46)) hs
    rw [show (w2.alloc (.cells #[.int .i64 k, .int .i64 t, .int .i64 c, .int .i64 u, .int .i64 o] 46)).heap.size = w2.heap.size + 1 from by simp] at h
    exact h
  refine (runpack_any _ _ _ _ _ hsl.out).mono ?_
  rintro e w3 ⟨k', t', c', u', o', err', rfl, hun', b3⟩
  obtain ⟨rfl, rfl, rfl, rfl, rfl, rfl⟩ := un_one HUN.out hun'
  have s3 : w2.heap.size + 1 < w3.heap.size := by have := b3.size; simp at this; omega
  have hR1 : Hid (w3.heap[w2.heap.size]? = some (.cells #[.int .i64 k, .int .i64 t, .int .i64 c, .int .i64 u, .int .i64 o] 46 (0, 0))) := (b3.block w2.heap.size (by simp; omega)).trans ((Below.heap_alloc _ _ _ (by simp)).trans (heap_alloc_new w2 _))
  have HROW3 : Hid (w3.heap[g]? = some (.cells ((lentB s).map (Value.int .u8)).toArray 5 (0, 0))) := (b3.block g (by simp; omega)).trans ((Below.heap_alloc _ _ _ (by simp; omega)).trans ((Below.heap_alloc _ _ _ hg2).trans HROW2.out))
  have w03 : Below w.heap.size w w3 := Below.trans ((w02.alloc w02.size _).drew.alloc (by have := w02.size; simp; omega) _) (b3.mono (by have := w02.size; simp; omega))
  clear hun' hsl b3 hcv
  go_wp2_with fail
  refine (wholeBytes_any g s _ hs ((Below.heap_alloc _ _ _ (by omega)).trans HROW3.out)).mono ?_
  rintro e w4 ⟨rfl, g4⟩
  obtain ⟨x0, x1, x2, x3, x4⟩ := world_cells ((g4.block w2.heap.size (by simp; omega) (by simp; omega)).trans ((Below.heap_alloc _ _ _ (by omega)).trans hR1.out))
  obtain ⟨y0, y1, y2, y3, y4⟩ := world_cells ((g4.block w3.heap.size (by simp) (by simp; omega)).trans (heap_alloc_new w3 _))
  have w04 : Below w.heap.size w w4 := (w03.alloc w03.size _).grown g4 (by have := w03.size; simp; omega) (fun j hj => by simp at hj; omega)
  clear g4
  go_wp2
  go_ret
  exact ⟨rfl, w04⟩

end Go.Proofs.YtfhncfghblkgeaaGreat
