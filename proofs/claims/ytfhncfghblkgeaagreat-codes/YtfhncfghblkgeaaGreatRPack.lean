/-
  The walk: saleref.Pack.
-/
import Derived.Test.YtfhncfghblkgeaaGreatRFrame
import Derived.Test.YtfhncfghblkgeaaGreatRIs
import Derived.Test.YtfhncfghblkgeaaGreatPackAll
namespace Go.Proofs.YtfhncfghblkgeaaGreat
open Go.RowKit

set_option maxRecDepth 100000 in
set_option maxHeartbeats 1000000 in
theorem rpack_1 (t c u : Int) (w : World) (hn : [t, c, u].all numB = true) (hi : isB 1 t c u 0 = true) :
    Calls Tryz.prog 71 #[.agg #[.int .i64 1, .int .i64 t, .int .i64 c, .int .i64 u, .int .i64 0]] w fun e w' => ∃ v, e = .returned (.tuple #[v, .int .i64 0]) ∧ bytesAt w' w.heap.size v (frameB 1 [t, c, u]) ∧ Below w.heap.size w w' := by
  have HN : Hid ([t, c, u].all numB = true) := hn
  have HI : Hid (isB 1 t c u 0 = true) := hi
  clear hn hi
  go_enter Tryz.func71, Tryz.ntmps71
  go_wp2_with fail
  refine (ris_any 1 t c u 0 _).mono ?_
  rintro e w1 ⟨rfl, b1⟩
  rw [HI.out]
  have s1 : w.heap.size < w1.heap.size := by have := b1.size; simp at this; omega
  have k0 : w1.cell? ⟨w.heap.size, 0, none⟩ = some (.int .i64 1) := (b1.cell (p := ⟨w.heap.size, 0, none⟩) (by simp)).trans (by simp [go_sem])
  have k1 : w1.cell? ⟨w.heap.size, 1, none⟩ = some (.int .i64 t) := (b1.cell (p := ⟨w.heap.size, 1, none⟩) (by simp)).trans (by simp [go_sem])
  have k2 : w1.cell? ⟨w.heap.size, 2, none⟩ = some (.int .i64 c) := (b1.cell (p := ⟨w.heap.size, 2, none⟩) (by simp)).trans (by simp [go_sem])
  have k3 : w1.cell? ⟨w.heap.size, 3, none⟩ = some (.int .i64 u) := (b1.cell (p := ⟨w.heap.size, 3, none⟩) (by simp)).trans (by simp [go_sem])
  have k4 : w1.cell? ⟨w.heap.size, 4, none⟩ = some (.int .i64 0) := (b1.cell (p := ⟨w.heap.size, 4, none⟩) (by simp)).trans (by simp [go_sem])
  go_wp2_with fail
  refine (rframe_any 1 (by omega) (by omega) [t, c, u] w1.heap.size 3 _ (by simp) (by simp) (numsAt_3 HN.out (by simp [go_sem]) (by simp [go_sem]) (by simp [go_sem]))).mono ?_
  rintro e w2 ⟨v, rfl, hown, b2⟩
  have w02 : Below w.heap.size w w2 := ((((Below.refl _ _).alloc (Nat.le_refl _) _).trans (b1.mono (by simp))).alloc (Nat.le_of_lt s1) _).trans (b2.mono (by simp; omega))
  have hby : bytesAt w2 w.heap.size v (frameB 1 [t, c, u]) := bytesAt_of (ownsRow_mono hown (by simp; omega)) (frameB_pos _ _)
  have HBY : Hid (bytesAt w2 w.heap.size v (frameB 1 [t, c, u])) := hby
  clear hby hown k0 k1 k2 k3 k4
  go_wp2
  go_ret2
  exact ⟨_, rfl, HBY.out, w02⟩

set_option maxRecDepth 100000 in
set_option maxHeartbeats 1000000 in
theorem rpack_2 (t c o : Int) (w : World) (hn : [t, c, o].all numB = true) (hi : isB 2 t c 0 o = true) :
    Calls Tryz.prog 71 #[.agg #[.int .i64 2, .int .i64 t, .int .i64 c, .int .i64 0, .int .i64 o]] w fun e w' => ∃ v, e = .returned (.tuple #[v, .int .i64 0]) ∧ bytesAt w' w.heap.size v (frameB 2 [t, c, o]) ∧ Below w.heap.size w w' := by
  have HN : Hid ([t, c, o].all numB = true) := hn
  have HI : Hid (isB 2 t c 0 o = true) := hi
  clear hn hi
  go_enter Tryz.func71, Tryz.ntmps71
  go_wp2_with fail
  refine (ris_any 2 t c 0 o _).mono ?_
  rintro e w1 ⟨rfl, b1⟩
  rw [HI.out]
  have s1 : w.heap.size < w1.heap.size := by have := b1.size; simp at this; omega
  have k0 : w1.cell? ⟨w.heap.size, 0, none⟩ = some (.int .i64 2) := (b1.cell (p := ⟨w.heap.size, 0, none⟩) (by simp)).trans (by simp [go_sem])
  have k1 : w1.cell? ⟨w.heap.size, 1, none⟩ = some (.int .i64 t) := (b1.cell (p := ⟨w.heap.size, 1, none⟩) (by simp)).trans (by simp [go_sem])
  have k2 : w1.cell? ⟨w.heap.size, 2, none⟩ = some (.int .i64 c) := (b1.cell (p := ⟨w.heap.size, 2, none⟩) (by simp)).trans (by simp [go_sem])
  have k3 : w1.cell? ⟨w.heap.size, 3, none⟩ = some (.int .i64 0) := (b1.cell (p := ⟨w.heap.size, 3, none⟩) (by simp)).trans (by simp [go_sem])
  have k4 : w1.cell? ⟨w.heap.size, 4, none⟩ = some (.int .i64 o) := (b1.cell (p := ⟨w.heap.size, 4, none⟩) (by simp)).trans (by simp [go_sem])
  go_wp2_with fail
  refine (rframe_any 2 (by omega) (by omega) [t, c, o] w1.heap.size 3 _ (by simp) (by simp) (numsAt_3 HN.out (by simp [go_sem]) (by simp [go_sem]) (by simp [go_sem]))).mono ?_
  rintro e w2 ⟨v, rfl, hown, b2⟩
  have w02 : Below w.heap.size w w2 := ((((Below.refl _ _).alloc (Nat.le_refl _) _).trans (b1.mono (by simp))).alloc (Nat.le_of_lt s1) _).trans (b2.mono (by simp; omega))
  have hby : bytesAt w2 w.heap.size v (frameB 2 [t, c, o]) := bytesAt_of (ownsRow_mono hown (by simp; omega)) (frameB_pos _ _)
  have HBY : Hid (bytesAt w2 w.heap.size v (frameB 2 [t, c, o])) := hby
  clear hby hown k0 k1 k2 k3 k4
  go_wp2
  go_ret2
  exact ⟨_, rfl, HBY.out, w02⟩

set_option maxRecDepth 100000 in
set_option maxHeartbeats 1000000 in
theorem rpack_3 (t c o : Int) (w : World) (hn : [t, c, o].all numB = true) (hi : isB 3 t c 0 o = true) :
    Calls Tryz.prog 71 #[.agg #[.int .i64 3, .int .i64 t, .int .i64 c, .int .i64 0, .int .i64 o]] w fun e w' => ∃ v, e = .returned (.tuple #[v, .int .i64 0]) ∧ bytesAt w' w.heap.size v (frameB 3 [t, c, o]) ∧ Below w.heap.size w w' := by
  have HN : Hid ([t, c, o].all numB = true) := hn
  have HI : Hid (isB 3 t c 0 o = true) := hi
  clear hn hi
  go_enter Tryz.func71, Tryz.ntmps71
  go_wp2_with fail
  refine (ris_any 3 t c 0 o _).mono ?_
  rintro e w1 ⟨rfl, b1⟩
  rw [HI.out]
  have s1 : w.heap.size < w1.heap.size := by have := b1.size; simp at this; omega
  have k0 : w1.cell? ⟨w.heap.size, 0, none⟩ = some (.int .i64 3) := (b1.cell (p := ⟨w.heap.size, 0, none⟩) (by simp)).trans (by simp [go_sem])
  have k1 : w1.cell? ⟨w.heap.size, 1, none⟩ = some (.int .i64 t) := (b1.cell (p := ⟨w.heap.size, 1, none⟩) (by simp)).trans (by simp [go_sem])
  have k2 : w1.cell? ⟨w.heap.size, 2, none⟩ = some (.int .i64 c) := (b1.cell (p := ⟨w.heap.size, 2, none⟩) (by simp)).trans (by simp [go_sem])
  have k3 : w1.cell? ⟨w.heap.size, 3, none⟩ = some (.int .i64 0) := (b1.cell (p := ⟨w.heap.size, 3, none⟩) (by simp)).trans (by simp [go_sem])
  have k4 : w1.cell? ⟨w.heap.size, 4, none⟩ = some (.int .i64 o) := (b1.cell (p := ⟨w.heap.size, 4, none⟩) (by simp)).trans (by simp [go_sem])
  go_wp2_with fail
  refine (rframe_any 3 (by omega) (by omega) [t, c, o] w1.heap.size 3 _ (by simp) (by simp) (numsAt_3 HN.out (by simp [go_sem]) (by simp [go_sem]) (by simp [go_sem]))).mono ?_
  rintro e w2 ⟨v, rfl, hown, b2⟩
  have w02 : Below w.heap.size w w2 := ((((Below.refl _ _).alloc (Nat.le_refl _) _).trans (b1.mono (by simp))).alloc (Nat.le_of_lt s1) _).trans (b2.mono (by simp; omega))
  have hby : bytesAt w2 w.heap.size v (frameB 3 [t, c, o]) := bytesAt_of (ownsRow_mono hown (by simp; omega)) (frameB_pos _ _)
  have HBY : Hid (bytesAt w2 w.heap.size v (frameB 3 [t, c, o])) := hby
  clear hby hown k0 k1 k2 k3 k4
  go_wp2
  go_ret2
  exact ⟨_, rfl, HBY.out, w02⟩

set_option maxRecDepth 100000 in
set_option maxHeartbeats 1000000 in
theorem rpack_4 (c o : Int) (w : World) (hn : [c, o].all numB = true) (hi : isB 4 0 c 0 o = true) :
    Calls Tryz.prog 71 #[.agg #[.int .i64 4, .int .i64 0, .int .i64 c, .int .i64 0, .int .i64 o]] w fun e w' => ∃ v, e = .returned (.tuple #[v, .int .i64 0]) ∧ bytesAt w' w.heap.size v (frameB 4 [c, o]) ∧ Below w.heap.size w w' := by
  have HN : Hid ([c, o].all numB = true) := hn
  have HI : Hid (isB 4 0 c 0 o = true) := hi
  clear hn hi
  go_enter Tryz.func71, Tryz.ntmps71
  go_wp2_with fail
  refine (ris_any 4 0 c 0 o _).mono ?_
  rintro e w1 ⟨rfl, b1⟩
  rw [HI.out]
  have s1 : w.heap.size < w1.heap.size := by have := b1.size; simp at this; omega
  have k0 : w1.cell? ⟨w.heap.size, 0, none⟩ = some (.int .i64 4) := (b1.cell (p := ⟨w.heap.size, 0, none⟩) (by simp)).trans (by simp [go_sem])
  have k1 : w1.cell? ⟨w.heap.size, 1, none⟩ = some (.int .i64 0) := (b1.cell (p := ⟨w.heap.size, 1, none⟩) (by simp)).trans (by simp [go_sem])
  have k2 : w1.cell? ⟨w.heap.size, 2, none⟩ = some (.int .i64 c) := (b1.cell (p := ⟨w.heap.size, 2, none⟩) (by simp)).trans (by simp [go_sem])
  have k3 : w1.cell? ⟨w.heap.size, 3, none⟩ = some (.int .i64 0) := (b1.cell (p := ⟨w.heap.size, 3, none⟩) (by simp)).trans (by simp [go_sem])
  have k4 : w1.cell? ⟨w.heap.size, 4, none⟩ = some (.int .i64 o) := (b1.cell (p := ⟨w.heap.size, 4, none⟩) (by simp)).trans (by simp [go_sem])
  go_wp2_with fail
  refine (rframe_any 4 (by omega) (by omega) [c, o] w1.heap.size 2 _ (by simp) (by simp) (numsAt_2 HN.out (by simp [go_sem]) (by simp [go_sem]))).mono ?_
  rintro e w2 ⟨v, rfl, hown, b2⟩
  have w02 : Below w.heap.size w w2 := ((((Below.refl _ _).alloc (Nat.le_refl _) _).trans (b1.mono (by simp))).alloc (Nat.le_of_lt s1) _).trans (b2.mono (by simp; omega))
  have hby : bytesAt w2 w.heap.size v (frameB 4 [c, o]) := bytesAt_of (ownsRow_mono hown (by simp; omega)) (frameB_pos _ _)
  have HBY : Hid (bytesAt w2 w.heap.size v (frameB 4 [c, o])) := hby
  clear hby hown k0 k1 k2 k3 k4
  go_wp2
  go_ret2
  exact ⟨_, rfl, HBY.out, w02⟩

set_option maxHeartbeats 400000 in
theorem rpack_no (k t c u o : Int) (w : World) (h : isB k t c u o = false) :
    Calls Tryz.prog 71 #[.agg #[.int .i64 k, .int .i64 t, .int .i64 c, .int .i64 u, .int .i64 o]] w fun e w' => e = .returned (.tuple #[.slice none 0 0, .int .i64 2]) ∧ Below w.heap.size w w' := by
  have HI : Hid (isB k t c u o = false) := h
  clear h
  go_enter Tryz.func71, Tryz.ntmps71
  go_wp2_with fail
  refine (ris_any k t c u o _).mono ?_
  rintro e w1 ⟨rfl, b1⟩
  rw [HI.out]
  go_wp2
  go_ret2
  exact ⟨rfl, ((Below.refl _ _).alloc (Nat.le_refl _) _).trans (b1.mono (by simp))⟩

theorem rpack_yes (k t c u o : Int) (w : World) (h : isB k t c u o = true) :
    Calls Tryz.prog 71 #[.agg #[.int .i64 k, .int .i64 t, .int .i64 c, .int .i64 u, .int .i64 o]] w fun e w' => ∃ v, e = .returned (.tuple #[v, .int .i64 0]) ∧ bytesAt w' w.heap.size v (frameB k (numsOf k t c u o)) ∧ Below w.heap.size w w' := by
  have hi := h
  by_cases h1 : k = 1
  · subst h1
    simp [isB] at h
    obtain ⟨h, rfl⟩ := h
    exact rpack_1 t c u w (by simp [h]) hi
  by_cases h2 : k = 2
  · subst h2
    simp [isB] at h
    obtain ⟨h, rfl⟩ := h
    exact rpack_2 t c o w (by simp [h]) hi
  by_cases h3 : k = 3
  · subst h3
    simp [isB] at h
    obtain ⟨h, rfl⟩ := h
    exact rpack_3 t c o w (by simp [h]) hi
  by_cases h4 : k = 4
  · subst h4
    simp [isB] at h
    obtain ⟨⟨h, rfl⟩, rfl⟩ := h
    exact rpack_4 c o w (by simp [h]) hi
  · simp [isB, h1, h2, h3, h4] at h

end Go.Proofs.YtfhncfghblkgeaaGreat
