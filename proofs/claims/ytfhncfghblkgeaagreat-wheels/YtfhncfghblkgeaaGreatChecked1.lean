/-
  The walk: checked.
-/
import Derived.Test.YtfhncfghblkgeaaGreatWhole
import Derived.Test.YtfhncfghblkgeaaGreatRCheck
namespace Go.Proofs.YtfhncfghblkgeaaGreat
open Go.RowKit

/-- What lent has laid, read as tiers. -/
theorem lent_tiers {w : World} {g len : Nat} {ts : List (Int × Int)} (h : w.heap[g]? = some (.cells (flatT (lentRow ts)).toArray 137 (0, 0))) (hl : ts.length = len) (hb : len * 16 ≤ 140737488351232) :
    tiersAt w (some ⟨g, 0, none⟩) len (len + 8) ts := by
  refine ⟨hl, by omega, by omega, fun e => by simp at e, fun _ => ⟨g, 0, rfl, (Array.getElem?_eq_some_iff.1 h).1, fun i hi => ?_⟩⟩
  have hf := flatT_at (lentRow ts) i (by rw [lentRow_len]; omega)
  rw [lentRow_in (by omega)] at hf
  constructor
  · rw [Joins.cell_of_block h]; simpa using hf.1
  · rw [Joins.cell_of_block h]; simpa using hf.2

set_option maxRecDepth 100000 in
set_option maxHeartbeats 2000000 in
theorem checked_nil (n0 n1 n2 n3 n4 n5 n6 : Int) (w : World) :
    Calls Tryz.prog 49 #[.agg #[.int .i64 n0, .int .i64 n1, .int .i64 n2, .int .i64 n3, .int .i64 n4, .int .i64 n5, .int .i64 n6, .slice none 0 0]] w fun e w' => e = .returned (.bool true) ∧ Below w.heap.size w w' := by
  have ht : ∀ w' : World, tiersAt w' none 0 0 [] := fun w' => ⟨rfl, Nat.le_refl _, by omega, fun _ => ⟨rfl, rfl⟩, fun h => absurd rfl h⟩
  have HT : Hid (∀ w' : World, tiersAt w' none 0 0 []) := ht
  clear ht
  go_enter Tryz.func49, Tryz.ntmps49
  go_wp2_with fail
  refine (lent_nil n0 n1 n2 n3 n4 n5 n6 _).mono ?_
  rintro e w1 ⟨rfl, b1⟩
  have hbox : Hid (w1.heap[w.heap.size]? = some (.cells #[.int .i64 n0, .int .i64 n1, .int .i64 n2, .int .i64 n3, .int .i64 n4, .int .i64 n5, .int .i64 n6, .slice none 0 0] 29 (0, 0))) := (b1.block w.heap.size (by simp)).trans (heap_alloc_new w _)
  have s1 : w.heap.size < w1.heap.size := by have := b1.size; simp at this; omega
  have w01 : Below w.heap.size w w1 := ((Below.refl _ _).alloc (Nat.le_refl _) _).trans (b1.mono (by simp))
  go_wp2_with fail
  refine (check_any n0 n1 n2 n3 n4 n5 n6 none 0 0 [] _ (HT.out _)).mono ?_
  rintro e w2 ⟨rfl, b2⟩
  have hbox2 : Hid (w2.heap[w.heap.size]? = some (.cells #[.int .i64 n0, .int .i64 n1, .int .i64 n2, .int .i64 n3, .int .i64 n4, .int .i64 n5, .int .i64 n6, .slice none 0 0] 29 (0, 0))) := (b2.block w.heap.size (by simp; omega)).trans ((Below.heap_alloc _ _ _ s1).trans hbox.out)
  have hl2 : Hid (w2.heap[w1.heap.size]? = some (.cells #[.int .i64 n0, .int .i64 n1, .int .i64 n2, .int .i64 n3, .int .i64 n4, .int .i64 n5, .int .i64 n6, .slice none 0 0] 29 (0, 0))) := (b2.block w1.heap.size (by simp)).trans (heap_alloc_new w1 _)
  have s2 : w1.heap.size < w2.heap.size := by have := b2.size; simp at this; omega
  have w02 : Below w.heap.size w w2 := (w01.alloc (Nat.le_of_lt s1) _).trans (b2.mono (by simp; omega))
  obtain ⟨k0, k1, k2, k3, k4, k5, k6, k7, kf⟩ := cells8 hbox2.out
  go_wp2_with fail
  refine (rcheck_any n0 n1 n2 n3 n4 n5 n6 none 0 0 [] _ (HT.out _)).mono ?_
  rintro e w3 ⟨rfl, b3⟩
  clear k0 k1 k2 k3 k4 k5 k6 k7 kf
  obtain ⟨k0, k1, k2, k3, k4, k5, k6, k7, kf⟩ := cells8 ((b3.block w.heap.size (by omega)).trans hbox2.out)
  obtain ⟨l0, l1, l2, l3, l4, l5, l6, l7, lf⟩ := cells8 ((b3.block w1.heap.size s2).trans hl2.out)
  have w03 : Below w.heap.size w w3 := w02.trans (b3.mono (by omega))
  go_wp2_with fail
  refine (whole_nil n0 n1 n2 n3 n4 n5 n6 n0 n1 n2 n3 n4 n5 n6 _ _).mono ?_
  rintro e w4 ⟨rfl, b4⟩
  clear k0 k1 k2 k3 k4 k5 k6 k7 kf l0 l1 l2 l3 l4 l5 l6 l7 lf
  go_wp2
  go_ret
  exact ⟨rfl, w03.trans (b4.mono (by have := b3.size; omega))⟩

set_option maxRecDepth 100000 in
set_option maxHeartbeats 2000000 in
theorem checked_some (n0 n1 n2 n3 n4 n5 n6 : Int) (x : Addr) (len cap : Nat) (ts : List (Int × Int)) (w : World) (h : tiersAt w (some x) len cap ts) (hb : len * 16 ≤ 140737488351232) :
    Calls Tryz.prog 49 #[.agg #[.int .i64 n0, .int .i64 n1, .int .i64 n2, .int .i64 n3, .int .i64 n4, .int .i64 n5, .int .i64 n6, .slice (some x) len cap]] w fun e w' => e = .returned (.bool true) ∧ Below w.heap.size w w' := by
  have HT : Hid (tiersAt w (some x) len cap ts) := h
  have hxw : ts ≠ [] → x.block < w.heap.size := fun hn => by
    obtain ⟨b, off, hx, hbw, _⟩ := h.2.2.2.2 hn
    have := Option.some.inj hx
    subst this
    exact hbw
  have HX : Hid (ts ≠ [] → x.block < w.heap.size) := hxw
  have hl : Hid (ts.length = len) := h.1
  clear h hxw
  go_enter Tryz.func49, Tryz.ntmps49
  go_wp2_with fail
  refine (lent_some n0 n1 n2 n3 n4 n5 n6 x len cap ts _ (HT.out.below ((Below.refl _ _).alloc (Nat.le_refl _) _) (Nat.le_refl _))).mono ?_
  rintro e w1 ⟨g, rfl, hg, hrow, b1⟩
  have hg' : w.heap.size < g := by simp at hg; omega
  have hbox : Hid (w1.heap[w.heap.size]? = some (.cells #[.int .i64 n0, .int .i64 n1, .int .i64 n2, .int .i64 n3, .int .i64 n4, .int .i64 n5, .int .i64 n6, .slice (some x) len cap] 29 (0, 0))) := (b1.block w.heap.size (by simp)).trans (heap_alloc_new w _)
  have hg1 : g < w1.heap.size := (Array.getElem?_eq_some_iff.1 hrow).1
  have s1 : w.heap.size < w1.heap.size := by omega
  have w01 : Below w.heap.size w w1 := ((Below.refl _ _).alloc (Nat.le_refl _) _).trans (b1.mono (by simp))
  have HROW : Hid (w1.heap[g]? = some (.cells (flatT (lentRow ts)).toArray 137 (0, 0))) := hrow
  clear hrow b1 hg
  go_wp2_with fail
  refine (check_any n0 n1 n2 n3 n4 n5 n6 (some ⟨g, 0, none⟩) len (len + 8) ts _ (lent_tiers ((Below.heap_alloc _ _ _ hg1).trans HROW.out) hl.out hb)).mono ?_
  rintro e w2 ⟨rfl, b2⟩
  have hbox2 : Hid (w2.heap[w.heap.size]? = some (.cells #[.int .i64 n0, .int .i64 n1, .int .i64 n2, .int .i64 n3, .int .i64 n4, .int .i64 n5, .int .i64 n6, .slice (some x) len cap] 29 (0, 0))) := (b2.block w.heap.size (by simp; omega)).trans ((Below.heap_alloc _ _ _ s1).trans hbox.out)
  have hl2 : Hid (w2.heap[w1.heap.size]? = some (.cells #[.int .i64 n0, .int .i64 n1, .int .i64 n2, .int .i64 n3, .int .i64 n4, .int .i64 n5, .int .i64 n6, .slice (some ⟨g, 0, none⟩) len (len + 8)] 29 (0, 0))) := (b2.block w1.heap.size (by simp)).trans (heap_alloc_new w1 _)
  have HROW2 : Hid (w2.heap[g]? = some (.cells (flatT (lentRow ts)).toArray 137 (0, 0))) := (b2.block g (by simp; omega)).trans ((Below.heap_alloc _ _ _ hg1).trans HROW.out)
  have s2 : w1.heap.size < w2.heap.size := by have := b2.size; simp at this; omega
  have w02 : Below w.heap.size w w2 := (w01.alloc (Nat.le_of_lt s1) _).trans (b2.mono (by simp; omega))
  obtain ⟨k0, k1, k2, k3, k4, k5, k6, k7, kf⟩ := cells8 hbox2.out
  go_wp2_with fail
  refine (rcheck_any n0 n1 n2 n3 n4 n5 n6 (some x) len cap ts _ (HT.out.below w02 (Nat.le_refl _))).mono ?_
  rintro e w3 ⟨rfl, b3⟩
  clear k0 k1 k2 k3 k4 k5 k6 k7 kf
  obtain ⟨k0, k1, k2, k3, k4, k5, k6, k7, kf⟩ := cells8 ((b3.block w.heap.size (by omega)).trans hbox2.out)
  obtain ⟨l0, l1, l2, l3, l4, l5, l6, l7, lf⟩ := cells8 ((b3.block w1.heap.size s2).trans hl2.out)
  have w03 : Below w.heap.size w w3 := w02.trans (b3.mono (by omega))
  go_wp2_with fail
  refine (whole_some n0 n1 n2 n3 n4 n5 n6 n0 n1 n2 n3 n4 n5 n6 x g len cap ts _ (HT.out.below w03 (Nat.le_refl _)) (fun hn => by have := HX.out hn; omega) ((b3.block g (by omega)).trans HROW2.out)).mono ?_
  rintro e w4 ⟨rfl, g4⟩
  clear k0 k1 k2 k3 k4 k5 k6 k7 kf l0 l1 l2 l3 l4 l5 l6 l7 lf
  go_wp2
  go_ret
  exact ⟨rfl, w03.grown g4 (by have := b3.size; omega) (fun k hk => by simp at hk; omega)⟩

theorem checked_any (n0 n1 n2 n3 n4 n5 n6 : Int) (a : Option Addr) (len cap : Nat) (ts : List (Int × Int)) (w : World) (h : tiersAt w a len cap ts) (hb : len * 16 ≤ 140737488351232) :
    Calls Tryz.prog 49 #[.agg #[.int .i64 n0, .int .i64 n1, .int .i64 n2, .int .i64 n3, .int .i64 n4, .int .i64 n5, .int .i64 n6, .slice a len cap]] w fun e w' => e = .returned (.bool true) ∧ Below w.heap.size w w' := by
  cases a with
  | none =>
    obtain ⟨rfl, rfl⟩ := h.2.2.2.1 rfl
    exact checked_nil n0 n1 n2 n3 n4 n5 n6 w
  | some x => exact checked_some n0 n1 n2 n3 n4 n5 n6 x len cap ts w h hb

end Go.Proofs.YtfhncfghblkgeaaGreat
