/-
  salekeep: number, groups, is.
-/
import Derived.Test.YtfhncfghblkgeaaLeaf
namespace Go.Proofs.Ytfhncfghblkgeaa
open Go.RowKit

set_option maxHeartbeats 400000 in
theorem number_any (n : Int) (w : World) :
    Calls Try.prog 17 #[.int .i64 n] w fun e w' => e = .returned (.bool (numB n)) ∧ w = w' := by
  by_cases h : 1 ≤ n
  · go_enter Try.func17, Try.ntmps17
    go_wp2
    go_ret
    exact ⟨by simp [numB, h], rfl⟩
  · have hd : decide (1 ≤ n) = false := by simpa using h
    go_enter Try.func17, Try.ntmps17
    go_wp2
    go_ret
    exact ⟨by simp [numB, hd], rfl⟩

set_option maxRecDepth 100000 in
set_option maxHeartbeats 400000 in
theorem groups_any (n : Nat) (w : World) (hn : n < 9223372036854775808) :
    Calls Try.prog 29 #[.int .i64 n] w fun e w' => e = .returned (.int .i64 (code n).length) ∧ w = w' := by
  have hl := code_len9 hn
  go_enter Try.func29, Try.ntmps29
  go_wp2
  go_loop [0, 3] (fun x k => ∃ m j : Nat, m ≤ n ∧ j ≤ 9 ∧ x = .int .i64 m ∧ k = .int .i64 j ∧ Hid ((code n).length + 1 = j + (code m).length)) (fun x _ => (intOf x).toNat)
  case atStart => exact ⟨n, 1, Nat.le_refl _, by omega, rfl, rfl, by unfold Hid; omega⟩
  case round =>
    obtain ⟨m, j, hm, hj, rfl, rfl, hc⟩ := hrel
    by_cases hlt : m < 128
    · go_wp2
      go_ret
      exact ⟨ret_int (by rw [groups_end hlt hc]), rfl⟩
    · have hs := groups_step hlt hc
      have hp := code_pos (m / 128)
      have hj' : j + 1 ≤ 9 := by omega
      have HS : Hid ((code n).length + 1 = j + 1 + (code (m / 128)).length) := hs
      clear hs hp
      go_wp2
      go_round
      case rel => exact ⟨m / 128, j + 1, by omega, by omega, by go_num, by go_num, HS⟩
      case measure => simp [intOf]; omega

set_option maxHeartbeats 400000 in
theorem is_any (k t c u o : Int) (w : World) :
    Calls Try.prog 7 #[.agg #[.int .i64 k, .int .i64 t, .int .i64 c, .int .i64 u, .int .i64 o]] w fun e w' => e = .returned (.bool (isB k t c u o)) ∧ Below w.heap.size w w' := by
  by_cases h1 : k = 1
  · subst h1
    go_enter Try.func7, Try.ntmps7
    go_wp2_with (go_at_call 17; refine (number_any _ _).mono ?_; rintro e w' ⟨rfl, rfl⟩)
    all_goals
      go_ret
      refine ⟨?_, (Below.refl _ _).alloc (Nat.le_refl _) _⟩
      simp [isB, *]
  by_cases h2 : k = 2
  · subst h2
    go_enter Try.func7, Try.ntmps7
    go_wp2_with (go_at_call 17; refine (number_any _ _).mono ?_; rintro e w' ⟨rfl, rfl⟩)
    all_goals
      go_ret
      refine ⟨?_, (Below.refl _ _).alloc (Nat.le_refl _) _⟩
      simp [isB, *]
  by_cases h3 : k = 3
  · subst h3
    go_enter Try.func7, Try.ntmps7
    go_wp2_with (go_at_call 17; refine (number_any _ _).mono ?_; rintro e w' ⟨rfl, rfl⟩)
    all_goals
      go_ret
      refine ⟨?_, (Below.refl _ _).alloc (Nat.le_refl _) _⟩
      simp [isB, *]
  by_cases h4 : k = 4
  · subst h4
    go_enter Try.func7, Try.ntmps7
    go_wp2_with (go_at_call 17; refine (number_any _ _).mono ?_; rintro e w' ⟨rfl, rfl⟩)
    all_goals
      go_ret
      refine ⟨?_, (Below.refl _ _).alloc (Nat.le_refl _) _⟩
      simp [isB, *]
  have e1 : (k == 1) = false := by simpa using h1
  have e2 : (k == 2) = false := by simpa using h2
  have e3 : (k == 3) = false := by simpa using h3
  have e4 : (k == 4) = false := by simpa using h4
  have hb : isB k t c u o = false := by simp [isB, h1, h2, h3, h4]
  go_enter Try.func7, Try.ntmps7
  go_wp2_with (go_at_call 17; refine (number_any _ _).mono ?_; rintro e w' ⟨rfl, rfl⟩)
  go_ret
  exact ⟨by rw [hb]; rfl, (Below.refl _ _).alloc (Nat.le_refl _) _⟩

end Go.Proofs.Ytfhncfghblkgeaa
