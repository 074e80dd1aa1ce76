/-
  The walk: Unpack, of the kind 1.
-/
import Derived.Test.YtfhncfghblkgeaaGreatUnpBase
namespace Go.Proofs.YtfhncfghblkgeaaGreat
open Go.RowKit

set_option maxRecDepth 100000 in
set_option maxHeartbeats 1000000 in
theorem unpack_1_long (b off len cap : Nat) (tl : List Int) (w : World) (hc1 : ¬ cap = 1) (h : sliceOf w (some ⟨b, off, none⟩) len cap (1 :: tl)) :
    Calls Tryz.prog 62 #[.slice (some ⟨b, off, none⟩) len cap] w fun e w' => ∃ k t c u o err, e = .returned (.tuple #[.agg #[.int .i64 k, .int .i64 t, .int .i64 c, .int .i64 u, .int .i64 o], .int .i64 err]) ∧ UN (1 :: tl) k t c u o err ∧ Below w.heap.size w w' := by
  obtain ⟨hl, hlc, hcap, hc0, HT⟩ := unp_open h
  have hbw : b < w.heap.size := World.block_lt_of_cell? w _ hc0
  have hne : ((len : Int) == 0) = false := by simp; omega
  have hpos : (0 : Int) < (len : Int) := by omega
  have hpos1 : (1 : Int) ≤ (len : Int) := by omega
  rw [if_neg hc1] at HT
  have HT' : Hid (sliceOf w (some ⟨b, off + 1, none⟩) (len - 1) (cap - 1) tl) := HT
  clear HT h
  go_enter Tryz.func62, Tryz.ntmps62
  go_wp2_with (go_at_call 96; refine (numbersOf_1 0 0 0 0 _).mono ?_; rintro e w1 ⟨rfl, rfl⟩)
  refine (readNumbers_3 _ _ _ tl _ (sliceOf_below HT'.out (by repeat (first | exact Below.refl _ _ | refine Below.drew ?_ | refine Below.alloc ?_ (by first | exact Nat.le_refl _ | (simp <;> omega)) _)))).mono ?_
  rintro e w2 ⟨v, ok, rfl, hans, b2⟩
  have bw : Below w.heap.size w w2 := Below.trans (by repeat (first | exact Below.refl _ _ | refine Below.drew ?_ | refine Below.alloc ?_ (by first | exact Nat.le_refl _ | (simp <;> omega)) _)) (b2.mono (by simp <;> omega))
  have s2 : w.heap.size + 2 < w2.heap.size := by have := b2.size; simp at this; omega
  have q0 : ∀ i, i < 5 → w2.frozen? ⟨w.heap.size, i, none⟩ = false := fun i hi => (b2.frozen (p := ⟨w.heap.size, i, none⟩) (by simp <;> omega)).trans (by simp [go_sem])
  have q1 : ∀ i, i < 5 → w2.cell? ⟨w.heap.size, i, none⟩ = some (.int .i64 0) := fun i hi => (b2.cell (p := ⟨w.heap.size, i, none⟩) (by simp <;> omega)).trans (by match i, hi with
    | 0, _ => simp [go_sem]
    | 1, _ => simp [go_sem]
    | 2, _ => simp [go_sem]
    | 3, _ => simp [go_sem]
    | 4, _ => simp [go_sem])
  cases ok with
  | false =>
    have HU : Hid (UN (1 :: tl) 0 0 0 0 0 2) := un_no rfl (hans.2 rfl)
    clear hans b2
    go_wp2
    refine bodyPost_ret (v := .tuple #[.agg #[.int .i64 0, .int .i64 0, .int .i64 0, .int .i64 0, .int .i64 0], .int .i64 2]) (by simp [results, Tryz.results62, go_sem, q1]) rfl ⟨0, 0, 0, 0, 0, 2, rfl, HU.out, ?_⟩
    exact below_set5 bw (Nat.le_refl _)
  | true =>
    obtain ⟨x, y, z, g, cap2, htl, rfl, hg0, hg1, c0, c1, c2⟩ := read_3 hans
    by_cases hall : [(x : Int), (y : Int), (z : Int)].all numB = true
    · have HU : Hid (UN (1 :: tl) 1 x y z 0 0) := un_yes_1 htl hall
      have HA : Hid ([(x : Int), (y : Int), (z : Int)].all numB = true) := hall
      clear hans b2 htl hall
      go_wp2_with (first
        | (go_at_call 90; refine (areNumbers_3c g cap2 x y z _ c0 c1 c2).mono ?_; rintro e w3 ⟨rfl, rfl⟩; rw [HA.out])
        | (go_at_call 98; refine (requestOf_1 g 0 cap2 x y z _ c0 c1 c2).mono ?_; rintro e w4 ⟨rfl, b4⟩; have r0 : ∀ i, i < 5 → w4.frozen? ⟨w.heap.size, i, none⟩ = false := (fun i hi => (b4.frozen (p := ⟨w.heap.size, i, none⟩) (show w.heap.size < w2.heap.size by omega)).trans (q0 i hi)); have r1 : ∀ i, i < 5 → w4.cell? ⟨w.heap.size, i, none⟩ = some (.int .i64 0) := (fun i hi => (b4.cell (p := ⟨w.heap.size, i, none⟩) (show w.heap.size < w2.heap.size by omega)).trans (q1 i hi))))
      have bw4 : Below w.heap.size w w4 := bw.trans (b4.mono (by omega))
      refine bodyPost_ret (v := .tuple #[.agg #[.int .i64 1, .int .i64 x, .int .i64 y, .int .i64 z, .int .i64 0], .int .i64 0]) (by simp [results, Tryz.results62, go_sem, r1]) rfl ⟨1, x, y, z, 0, 0, rfl, HU.out, ?_⟩
      exact below_set5 bw4 (Nat.le_refl _)
    · have HU : Hid (UN (1 :: tl) 0 0 0 0 0 2) := un_bad (ms := [x, y, z]) rfl htl (by simpa using hall)
      have HA : Hid ([(x : Int), (y : Int), (z : Int)].all numB = false) := by unfold Hid; simpa using hall
      clear hans b2 htl hall
      go_wp2_with (go_at_call 90; refine (areNumbers_3c g cap2 x y z _ c0 c1 c2).mono ?_; rintro e w3 ⟨rfl, rfl⟩; rw [HA.out])
      refine bodyPost_ret (v := .tuple #[.agg #[.int .i64 0, .int .i64 0, .int .i64 0, .int .i64 0, .int .i64 0], .int .i64 2]) (by simp [results, Tryz.results62, go_sem, q1]) rfl ⟨0, 0, 0, 0, 0, 2, rfl, HU.out, ?_⟩
      exact below_set5 bw (Nat.le_refl _)

set_option maxRecDepth 100000 in
set_option maxHeartbeats 1000000 in
theorem unpack_1_short (b off : Nat) (w : World) (h : sliceOf w (some ⟨b, off, none⟩) 1 1 [1]) :
    Calls Tryz.prog 62 #[.slice (some ⟨b, off, none⟩) 1 1] w fun e w' => ∃ k t c u o err, e = .returned (.tuple #[.agg #[.int .i64 k, .int .i64 t, .int .i64 c, .int .i64 u, .int .i64 o], .int .i64 err]) ∧ UN (1 :: []) k t c u o err ∧ Below w.heap.size w w' := by
  obtain ⟨_, _, _, hc0, HT⟩ := unp_open h
  have hbw : b < w.heap.size := World.block_lt_of_cell? w _ hc0
  have HT' : Hid (sliceOf w (some ⟨b, off, none⟩) 0 0 []) := HT
  clear HT h
  go_enter Tryz.func62, Tryz.ntmps62
  go_wp2_with (go_at_call 96; refine (numbersOf_1 0 0 0 0 _).mono ?_; rintro e w1 ⟨rfl, rfl⟩)
  refine (readNumbers_3 _ _ _ [] _ (sliceOf_below HT'.out (by repeat (first | exact Below.refl _ _ | refine Below.drew ?_ | refine Below.alloc ?_ (by first | exact Nat.le_refl _ | (simp <;> omega)) _)))).mono ?_
  rintro e w2 ⟨v, ok, rfl, hans, b2⟩
  have bw : Below w.heap.size w w2 := Below.trans (by repeat (first | exact Below.refl _ _ | refine Below.drew ?_ | refine Below.alloc ?_ (by first | exact Nat.le_refl _ | (simp <;> omega)) _)) (b2.mono (by simp <;> omega))
  have s2 : w.heap.size + 2 < w2.heap.size := by have := b2.size; simp at this; omega
  have q0 : ∀ i, i < 5 → w2.frozen? ⟨w.heap.size, i, none⟩ = false := fun i hi => (b2.frozen (p := ⟨w.heap.size, i, none⟩) (by simp <;> omega)).trans (by simp [go_sem])
  have q1 : ∀ i, i < 5 → w2.cell? ⟨w.heap.size, i, none⟩ = some (.int .i64 0) := fun i hi => (b2.cell (p := ⟨w.heap.size, i, none⟩) (by simp <;> omega)).trans (by match i, hi with
    | 0, _ => simp [go_sem]
    | 1, _ => simp [go_sem]
    | 2, _ => simp [go_sem]
    | 3, _ => simp [go_sem]
    | 4, _ => simp [go_sem])
  cases ok with
  | false =>
    have HU : Hid (UN (1 :: []) 0 0 0 0 0 2) := un_no rfl (hans.2 rfl)
    clear hans b2
    go_wp2
    refine bodyPost_ret (v := .tuple #[.agg #[.int .i64 0, .int .i64 0, .int .i64 0, .int .i64 0, .int .i64 0], .int .i64 2]) (by simp [results, Tryz.results62, go_sem, q1]) rfl ⟨0, 0, 0, 0, 0, 2, rfl, HU.out, ?_⟩
    exact below_set5 bw (Nat.le_refl _)
  | true =>
    obtain ⟨x, y, z, g, cap2, htl, _⟩ := read_3 hans
    have := code_pos x
    have := congrArg List.length htl
    simp [codes] at this
    omega

theorem unpack_1 (b off len cap : Nat) (tl : List Int) (w : World) (h : sliceOf w (some ⟨b, off, none⟩) len cap (1 :: tl)) :
    Calls Tryz.prog 62 #[.slice (some ⟨b, off, none⟩) len cap] w fun e w' => ∃ k t c u o err, e = .returned (.tuple #[.agg #[.int .i64 k, .int .i64 t, .int .i64 c, .int .i64 u, .int .i64 o], .int .i64 err]) ∧ UN (1 :: tl) k t c u o err ∧ Below w.heap.size w w' := by
  by_cases hc1 : cap = 1
  · subst hc1
    have h1 := h.1
    have h2 := h.2.1
    simp at h1
    have hl : len = 1 := by omega
    subst hl
    have ht : tl = [] := List.eq_nil_of_length_eq_zero (by omega)
    subst ht
    exact unpack_1_short b off w h
  · exact unpack_1_long b off len cap tl w hc1 h

end Go.Proofs.YtfhncfghblkgeaaGreat
