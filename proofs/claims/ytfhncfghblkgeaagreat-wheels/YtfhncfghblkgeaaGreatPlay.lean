/-
  The walks that every script shares: pick, among, plays.
-/
import Derived.Test.YtfhncfghblkgeaaGreatLeaf2
namespace Go.Proofs.YtfhncfghblkgeaaGreat
open Go.RowKit

/-- Which of n things the number c speaks of. -/
def pickN (c : Int) (n : Nat) : Nat := if c < 0 then (-(c + 1)).toNat % n else c.toNat % n
theorem pickN_lt (c : Int) {n : Nat} (h : 0 < n) : pickN c n < n := by
  unfold pickN
  split <;> exact Nat.mod_lt _ h

set_option maxRecDepth 100000 in
set_option maxHeartbeats 400000 in
theorem pick_any (c : Int) (n : Nat) (w : World) (hb : -9223372036854775808 ≤ c ∧ c ≤ 9223372036854775807) (hn : 0 < n) (hn' : n < 4611686018427387904) :
    Calls Tryz.prog 48 #[.int .i64 c, .int .i64 n] w fun e w' => e = .returned (.int .i64 (pickN c n)) ∧ w = w' := by
  obtain ⟨hb1, hb2⟩ := hb
  by_cases h0 : c < 0
  · have hne : ((n : Int) == 0) = false := by simp; omega
    go_enter Tryz.func48, Tryz.ntmps48
    go_wp2
    go_ret
    refine ⟨ret_int ?_, rfl⟩
    unfold pickN
    rw [if_pos h0]
    rw [← Int.neg_tmod]
    generalize hd : -(c + 1) = d
    obtain ⟨m, rfl⟩ := Int.eq_ofNat_of_zero_le (show 0 ≤ d by omega)
    rw [Int.toNat_natCast]
    exact Int.ofNat_tmod m n
  · have hne : ((n : Int) == 0) = false := by simp; omega
    obtain ⟨m, rfl⟩ := Int.eq_ofNat_of_zero_le (show 0 ≤ c by omega)
    go_enter Tryz.func48, Tryz.ntmps48
    go_wp2
    go_ret
    refine ⟨ret_int ?_, rfl⟩
    unfold pickN
    rw [if_neg (by omega), Int.toNat_natCast]
    first | exact Int.ofNat_tmod m n | exact (Int.natCast_emod m n).symm

set_option maxHeartbeats 400000 in
theorem among_any (b off cap : Nat) (ns : List Int) (k : Int) (w : World) (hl : ns.length ≤ 100) (hcell : ∀ i, i < ns.length → w.cell? ⟨b, off + i, none⟩ = some (.int .i64 (ns.getD i 0))) :
    Calls Tryz.prog 23 #[.slice (some ⟨b, off, none⟩) ns.length cap, .int .i64 k] w fun e w' => e = .returned (.bool (ns.any (· == k))) ∧ w = w' := by
  go_enter Tryz.func23, Tryz.ntmps23
  go_wp2
  go_loop [5] (fun i => ∃ j : Nat, j ≤ ns.length ∧ i = .int .i64 j ∧ Hid ((ns.take j).any (· == k) = false)) (fun i => ns.length - (intOf i).toNat)
  case atStart => exact ⟨0, Nat.zero_le _, rfl, by simp [Hid]⟩
  case round =>
    obtain ⟨j, hj, rfl, hall⟩ := hrel
    by_cases hlt : j < ns.length
    · have hc := hcell j hlt
      generalize hx : ns.getD j 0 = x at hc
      have hxe : ns[j] = x := by simpa [List.getD, List.getElem?_eq_getElem hlt] using hx
      have HX : Hid (ns[j] = x) := hxe
      clear hx hcell hxe
      by_cases h1 : x = k
      · subst h1
        have HN : Hid (ns.any (· == x) = true) := by
          unfold Hid
          rw [List.any_eq_true]
          exact ⟨ns[j], List.getElem_mem hlt, by rw [HX.out]; simp⟩
        go_wp2
        go_ret
        exact ⟨by rw [HN.out]; rfl, rfl⟩
      · have h1' : (x == k) = false := by simpa using h1
        go_wp2
        go_round
        case rel => exact ⟨j + 1, by omega, by go_num, by unfold Hid; rw [List.take_succ_eq_append_getElem hlt, List.any_append, hall.out]; simp [HX.out, h1]⟩
        case measure => simp [intOf]; omega
    · have HN : Hid (ns.any (· == k) = false) := by have := hall.out; rwa [List.take_of_length_le (by omega)] at this
      go_wp2
      go_ret
      exact ⟨by rw [HN.out]; rfl, rfl⟩

end Go.Proofs.YtfhncfghblkgeaaGreat
