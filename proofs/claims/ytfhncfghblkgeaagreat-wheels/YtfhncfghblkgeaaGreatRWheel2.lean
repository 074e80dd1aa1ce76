/-
  The reference's timers: least.
-/
import Derived.Test.YtfhncfghblkgeaaGreatRWheel1
import Derived.Deep.RegionHeld3
import Derived.Test.YtfhncfghblkgeaaGreatWBase
namespace Go.Proofs.YtfhncfghblkgeaaGreat
open Go.RowKit
set_option maxRecDepth 100000 in
set_option maxHeartbeats 2000000 in
theorem rleast_any (R : Nat) (v : Value) (L : List (Int × Int)) (w : World) (h1 : w.cell? ⟨R, 1, none⟩ = some v) (hd : duesAt w v L) (hl : L.length * 16 ≤ 140737488351232) :
    Calls Tryz.prog 118 #[.pointer (some ⟨R, 0, none⟩)] w fun e w' => e = .returned (.int .i64 (leastTo L L.length)) ∧ Below w.heap.size w w' := by
  obtain ⟨a, c, rfl, hc⟩ := hd
  have hRw : R < w.heap.size := World.block_lt_of_cell? w _ h1
  have HC : Hid (0 < L.length → ∃ g, a = some ⟨g, 0, none⟩ ∧ g < w.heap.size ∧ ∀ i, i < L.length → w.cell? ⟨g, i * 2, none⟩ = some (.int .i64 (L.getD i (0, 0)).1) ∧ w.cell? ⟨g, i * 2 + 1, none⟩ = some (.int .i64 (L.getD i (0, 0)).2)) := hc
  have H1 : Hid (w.cell? ⟨R, 1, none⟩ = some (.slice a L.length c)) := h1
  clear hc h1
  go_enter Tryz.func118, Tryz.ntmps118
  go_wp2_with fail
  go_loopw [3, 4] (fun k i wr => ∃ j : Nat, j ≤ L.length ∧ i = .int .i64 j ∧ k = .int .i64 (leastTo L j) ∧ Below w.heap.size w wr) (fun _ i _ => L.length - (intOf i).toNat)
  case atStart => exact ⟨0, Nat.zero_le _, rfl, rfl, Below.refl _ _⟩
  case round =>
    obtain ⟨j, hj, rfl, rfl, hbel⟩ := hrel
    have k1 : wr.cell? ⟨R, 1, none⟩ = some (.slice a L.length c) := (hbel.cell (p := ⟨R, 1, none⟩) hRw).trans H1.out
    have hlb := leastTo_lt L j
    by_cases hlt : j < L.length
    · obtain ⟨g, rfl, hgw, hcell⟩ := HC.out (by omega)
      have hgwr : g < wr.heap.size := Nat.lt_of_lt_of_le hgw hbel.size
      have hRwr : R < wr.heap.size := Nat.lt_of_lt_of_le hRw hbel.size
      by_cases hneg : leastTo L j < 0
      · have HL : Hid (leastTo L (j + 1) = j) := by unfold Hid; rw [leastTo, if_pos hneg]
        have hm1 : leastTo L j = -1 := by omega
        rw [hm1]
        clear hcell hneg hm1 hlb
        go_wp2
        go_quiet (fail)
        go_wp2
        go_roundw
        case rel => exact ⟨j + 1, by omega, by go_num, by rw [HL.out], below_drewN hbel⟩
        case measure => simp [intOf]; omega
      · obtain ⟨q, hq⟩ := Int.eq_ofNat_of_zero_le (show 0 ≤ leastTo L j by omega)
        have hql : q < L.length := by omega
        have HL : Hid (leastTo L (j + 1) = if aheadB (L.getD j (0, 0)) (L.getD q (0, 0)) then (j : Int) else (q : Int)) := by unfold Hid; rw [leastTo, if_neg hneg, hq, Int.toNat_natCast]
        have c0 := (hbel.cell (p := ⟨g, j * 2, none⟩) hgw).trans (hcell j hlt).1
        have c1 := (hbel.cell (p := ⟨g, j * 2 + 1, none⟩) hgw).trans (hcell j hlt).2
        have d0 := (hbel.cell (p := ⟨g, q * 2, none⟩) hgw).trans (hcell q hql).1
        have d1 := (hbel.cell (p := ⟨g, q * 2 + 1, none⟩) hgw).trans (hcell q hql).2
        rw [hq]
        clear hcell hneg hlb hq
        generalize L.getD j (0, 0) = x at c0 c1 HL
        generalize L.getD q (0, 0) = y at d0 d1 HL
        obtain ⟨x0, x1⟩ := x
        obtain ⟨y0, y1⟩ := y
        simp only at c0 c1 d0 d1
        have hqi : (q : Int) < (L.length : Int) := by omega
        have hqn : decide ((q : Int) < 0) = false := by simp
        have HA : Hid (∀ w' : World, Calls Tryz.prog 145 #[.agg #[.int .i64 x0, .int .i64 x1], .agg #[.int .i64 y0, .int .i64 y1]] w' fun e w2 => e = .returned (.bool (aheadB (x0, x1) (y0, y1))) ∧ Below w'.heap.size w' w2) := fun w' => rahead_any (x0, x1) (y0, y1) w'
        generalize aheadB (x0, x1) (y0, y1) = ah at HL HA
        go_wp2
        go_region_held3 (fun w' => w'.cell? ⟨R, 1, none⟩ = some (.slice (some ⟨g, 0, none⟩) L.length c) ∧ w'.cell? ⟨g, j * 2, none⟩ = some (.int .i64 x0) ∧ w'.cell? ⟨g, j * 2 + 1, none⟩ = some (.int .i64 x1) ∧ w'.cell? ⟨g, q * 2, none⟩ = some (.int .i64 y0) ∧ w'.cell? ⟨g, q * 2 + 1, none⟩ = some (.int .i64 y1)) (simp [go_sem, *])
          (first
            | (go_at_call 145; refine (HA.out _).mono ?_; rintro e w2 ⟨rfl, b2⟩
               have e0 := (b2.cell (p := ⟨R, 1, none⟩) (by simp; omega)).trans (by simp [go_sem, *] : _ = some (.slice (some ⟨g, 0, none⟩) L.length c))
               have e1 := (b2.cell (p := ⟨g, j * 2, none⟩) (by simp; omega)).trans (by simp [go_sem, *] : _ = some (.int .i64 x0))
               have e2 := (b2.cell (p := ⟨g, j * 2 + 1, none⟩) (by simp; omega)).trans (by simp [go_sem, *] : _ = some (.int .i64 x1))
               have e3 := (b2.cell (p := ⟨g, q * 2, none⟩) (by simp; omega)).trans (by simp [go_sem, *] : _ = some (.int .i64 y0))
               have e4 := (b2.cell (p := ⟨g, q * 2 + 1, none⟩) (by simp; omega)).trans (by simp [go_sem, *] : _ = some (.int .i64 y1))))
        have hbel2 : Below w.heap.size w w2 := Below.trans hbel.drew (b2.mono (by simp; exact hbel.size))
        clear e0 e1 e2 e3 e4 c0 c1 d0 d1 b2
        cases ah
        · go_wp2
          go_roundw
          case rel => exact ⟨j + 1, by omega, by go_num, by rw [HL.out]; rfl, hbel2⟩
          case measure => simp [intOf]; omega
        · go_wp2
          go_roundw
          case rel => exact ⟨j + 1, by omega, by go_num, by rw [HL.out]; rfl, hbel2⟩
          case measure => simp [intOf]; omega
    · have hje : j = L.length := by omega
      subst hje
      go_wp2
      go_ret
      exact ⟨rfl, hbel⟩

end Go.Proofs.YtfhncfghblkgeaaGreat
