/-
  The walks: saleref.tier, saleref.Check.
-/
import Derived.Test.YtfhncfghblkgeaaGreatCheck
namespace Go.Proofs.YtfhncfghblkgeaaGreat
open Go.RowKit

set_option maxRecDepth 100000 in
set_option maxHeartbeats 1000000 in
theorem rtier_any (b off len cap k : Nat) (ts : List (Int × Int)) (w : World) (hlt : k < len) (h4 : len ≤ 4)
    (hcell : ∀ i, i < len → w.cell? ⟨b, off + i * 2, none⟩ = some (.int .i64 (ts.getD i (0, 0)).1) ∧ w.cell? ⟨b, off + i * 2 + 1, none⟩ = some (.int .i64 (ts.getD i (0, 0)).2)) :
    Calls Tryz.prog 93 #[.slice (some ⟨b, off, none⟩) len cap, .int .i64 k] w fun e w' => e = .returned (.bool (tierB ts k)) ∧ Below w.heap.size w w' := by
  have hcf := (hcell k hlt).1
  have hcc := (hcell k hlt).2
  have hbw : b < w.heap.size := World.block_lt_of_cell? w _ hcf
  generalize hf : (ts.getD k (0, 0)).1 = f at hcf
  generalize hc : (ts.getD k (0, 0)).2 = c at hcc
  have HF : Hid ((ts.getD k (0, 0)).1 = f) := hf
  have HC : Hid ((ts.getD k (0, 0)).2 = c) := hc
  clear hf hc
  by_cases b1 : 1 ≤ c
  · have d1 : decide (c < 1) = false := by simp; omega
    by_cases b2 : c ≤ 1073741824
    · have d2 : decide (1073741824 < c) = false := by simp; omega
      by_cases b3 : f ≤ 4294967296
      · have d3 : decide (4294967296 < f) = false := by simp; omega
        by_cases hk0 : k = 0
        · subst hk0
          have HT : Hid (tierB ts 0 = (f == 0)) := tierB_zero HF.out HC.out b1 b2 b3
          simp only [Nat.zero_mul, Nat.add_zero] at hcf hcc
          have hpos : (0 : Int) < (len : Int) := by omega
          clear hcell
          go_enter Tryz.func93, Tryz.ntmps93
          go_wp2
          go_ret
          exact ⟨by rw [HT.out]; rfl, by repeat (first | exact Below.refl _ _ | refine Below.drew ?_ | refine Below.alloc ?_ (by first | exact Nat.le_refl _ | (simp <;> omega)) _)⟩
        · obtain ⟨m, rfl⟩ : ∃ m, k = m + 1 := ⟨k - 1, by omega⟩
          have hcq := (hcell m (by omega)).1
          generalize hq : (ts.getD m (0, 0)).1 = q at hcq
          have HT : Hid (tierB ts (m + 1) = decide (q < f)) := tierB_succ hk0 HF.out HC.out hq b1 b2 b3
          have hkp : (((m : Int) + 1) == 0) = false := by simp; omega
          clear hq hcell
          go_enter Tryz.func93, Tryz.ntmps93
          go_wp2
          go_quiet (fail)
          go_wp2
          go_ret
          exact ⟨by rw [HT.out]; rfl, below_drewN ((Below.refl _ _).alloc (Nat.le_refl _) _)⟩
      · have d3 : decide (4294967296 < f) = true := by simp; omega
        have HT : Hid (tierB ts k = false) := tierB_no HF.out HC.out (.inr (.inr (by omega)))
        clear hcell
        go_enter Tryz.func93, Tryz.ntmps93
        go_wp2
        go_ret
        exact ⟨by rw [HT.out]; rfl, by repeat (first | exact Below.refl _ _ | refine Below.drew ?_ | refine Below.alloc ?_ (by first | exact Nat.le_refl _ | (simp <;> omega)) _)⟩
    · have d2 : decide (1073741824 < c) = true := by simp; omega
      have HT : Hid (tierB ts k = false) := tierB_no HF.out HC.out (.inr (.inl (by omega)))
      clear hcell
      go_enter Tryz.func93, Tryz.ntmps93
      go_wp2
      go_ret
      exact ⟨by rw [HT.out]; rfl, by repeat (first | exact Below.refl _ _ | refine Below.drew ?_ | refine Below.alloc ?_ (by first | exact Nat.le_refl _ | (simp <;> omega)) _)⟩
  · have d1 : decide (c < 1) = true := by simp; omega
    have HT : Hid (tierB ts k = false) := tierB_no HF.out HC.out (.inl (by omega))
    clear hcell
    go_enter Tryz.func93, Tryz.ntmps93
    go_wp2
    go_ret
    exact ⟨by rw [HT.out]; rfl, by repeat (first | exact Below.refl _ _ | refine Below.drew ?_ | refine Below.alloc ?_ (by first | exact Nat.le_refl _ | (simp <;> omega)) _)⟩

end Go.Proofs.YtfhncfghblkgeaaGreat
