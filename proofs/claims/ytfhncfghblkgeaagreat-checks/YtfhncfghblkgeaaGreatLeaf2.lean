/-
  Walks: numbersOf, areNumbers, requestOf.
-/
import Derived.Test.YtfhncfghblkgeaaGreatLeaf
namespace Go.Proofs.YtfhncfghblkgeaaGreat
open Go.RowKit

set_option maxHeartbeats 400000 in
theorem numbersOf_1 (t c u o : Int) (w : World) :
    Calls Tryz.prog 96 #[.agg #[.int .i64 1, .int .i64 t, .int .i64 c, .int .i64 u, .int .i64 o]] w fun e w' => e = .returned (.slice (some ⟨w.heap.size + 1, 0, none⟩) 3 3) ∧
      w' = (w.alloc (.cells #[.int .i64 1, .int .i64 t, .int .i64 c, .int .i64 u, .int .i64 o] 46)).alloc (.cells #[.int .i64 t, .int .i64 c, .int .i64 u] 3) := by
  go_enter Tryz.func96, Tryz.ntmps96
  go_wp2
  go_ret
  exact ⟨rfl, rfl⟩

set_option maxHeartbeats 400000 in
theorem numbersOf_2 (t c u o : Int) (w : World) :
    Calls Tryz.prog 96 #[.agg #[.int .i64 2, .int .i64 t, .int .i64 c, .int .i64 u, .int .i64 o]] w fun e w' => e = .returned (.slice (some ⟨w.heap.size + 1, 0, none⟩) 3 3) ∧
      w' = (w.alloc (.cells #[.int .i64 2, .int .i64 t, .int .i64 c, .int .i64 u, .int .i64 o] 46)).alloc (.cells #[.int .i64 t, .int .i64 c, .int .i64 o] 3) := by
  go_enter Tryz.func96, Tryz.ntmps96
  go_wp2
  go_ret
  exact ⟨rfl, rfl⟩

set_option maxHeartbeats 400000 in
theorem numbersOf_3 (t c u o : Int) (w : World) :
    Calls Tryz.prog 96 #[.agg #[.int .i64 3, .int .i64 t, .int .i64 c, .int .i64 u, .int .i64 o]] w fun e w' => e = .returned (.slice (some ⟨w.heap.size + 1, 0, none⟩) 3 3) ∧
      w' = (w.alloc (.cells #[.int .i64 3, .int .i64 t, .int .i64 c, .int .i64 u, .int .i64 o] 46)).alloc (.cells #[.int .i64 t, .int .i64 c, .int .i64 o] 3) := by
  go_enter Tryz.func96, Tryz.ntmps96
  go_wp2
  go_ret
  exact ⟨rfl, rfl⟩

set_option maxHeartbeats 400000 in
theorem numbersOf_4 (t c u o : Int) (w : World) :
    Calls Tryz.prog 96 #[.agg #[.int .i64 4, .int .i64 t, .int .i64 c, .int .i64 u, .int .i64 o]] w fun e w' => e = .returned (.slice (some ⟨w.heap.size + 1, 0, none⟩) 2 2) ∧
      w' = (w.alloc (.cells #[.int .i64 4, .int .i64 t, .int .i64 c, .int .i64 u, .int .i64 o] 46)).alloc (.cells #[.int .i64 c, .int .i64 o] 3) := by
  go_enter Tryz.func96, Tryz.ntmps96
  go_wp2
  go_ret
  exact ⟨rfl, rfl⟩

set_option maxHeartbeats 400000 in
theorem numbersOf_no (k t c u o : Int) (w : World) (h1 : ¬ k = 1) (h2 : ¬ k = 2) (h3 : ¬ k = 3) (h4 : ¬ k = 4) :
    Calls Tryz.prog 96 #[.agg #[.int .i64 k, .int .i64 t, .int .i64 c, .int .i64 u, .int .i64 o]] w fun e w' => e = .returned (.slice none 0 0) ∧
      w' = w.alloc (.cells #[.int .i64 k, .int .i64 t, .int .i64 c, .int .i64 u, .int .i64 o] 46) := by
  have e1 : (k == 1) = false := by simpa using h1
  have e2 : (k == 2) = false := by simpa using h2
  have e3 : (k == 3) = false := by simpa using h3
  have e4 : (k == 4) = false := by simpa using h4
  go_enter Tryz.func96, Tryz.ntmps96
  go_wp2
  go_ret
  exact ⟨rfl, rfl⟩

theorem all_snoc (ns : List Int) (k : Nat) (h : k < ns.length) {x : Int} (hx : ns.getD k 0 = x) : (ns.take (k + 1)).all numB = ((ns.take k).all numB && numB x) := by
  rw [List.take_succ_eq_append_getElem h, List.all_append]
  simp [List.getD, List.getElem?_eq_getElem h] at hx
  simp [hx]
theorem all_not (ns : List Int) (k : Nat) (h : k < ns.length) {x : Int} (hx : ns.getD k 0 = x) (hn : numB x = false) : ns.all numB = false := by
  rw [List.all_eq_false]
  simp [List.getD, List.getElem?_eq_getElem h] at hx
  exact ⟨ns[k], List.getElem_mem h, by rw [hx, hn]; simp⟩

set_option maxHeartbeats 400000 in
theorem areNumbers_any (b off cap : Nat) (ns : List Int) (w : World) (hl : ns.length ≤ 100) (hcell : ∀ i, i < ns.length → w.cell? ⟨b, off + i, none⟩ = some (.int .i64 (ns.getD i 0))) :
    Calls Tryz.prog 90 #[.slice (some ⟨b, off, none⟩) ns.length cap] w fun e w' => e = .returned (.bool (ns.all numB)) ∧ w = w' := by
  go_enter Tryz.func90, Tryz.ntmps90
  go_wp2
  go_loop [3] (fun i => ∃ k : Nat, k ≤ ns.length ∧ i = .int .i64 k ∧ Hid ((ns.take k).all numB = true)) (fun i => ns.length - (intOf i).toNat)
  case atStart => exact ⟨0, Nat.zero_le _, rfl, by simp [Hid]⟩
  case round =>
    obtain ⟨k, hk, rfl, hall⟩ := hrel
    by_cases hlt : k < ns.length
    · have hc := hcell k hlt
      have hx : ∃ x, ns.getD k 0 = x := ⟨_, rfl⟩
      obtain ⟨x, hx⟩ := hx
      rw [hx] at hc
      have HX : Hid (ns.getD k 0 = x) := hx
      clear hx
      clear hcell
      by_cases h1 : 1 ≤ x
      · by_cases h2 : x ≤ 4294967296
        · go_wp2
          go_round
          case rel => exact ⟨k + 1, by omega, by go_num, by unfold Hid; rw [all_snoc ns k hlt HX.out, hall.out]; simp [numB, h1, h2]⟩
          case measure => simp [intOf]; omega
        · have HN : Hid (ns.all numB = false) := all_not ns k hlt HX.out (by simp [numB]; omega)
          go_wp2
          go_ret
          exact ⟨by rw [HN.out]; rfl, rfl⟩
      · have HN : Hid (ns.all numB = false) := all_not ns k hlt HX.out (by simp [numB]; omega)
        go_wp2
        go_ret
        exact ⟨by rw [HN.out]; rfl, rfl⟩
    · have HN : Hid (ns.all numB = true) := by have := hall.out; rwa [List.take_of_length_le (by omega)] at this
      go_wp2
      go_ret
      exact ⟨by rw [HN.out]; rfl, rfl⟩

end Go.Proofs.YtfhncfghblkgeaaGreat
