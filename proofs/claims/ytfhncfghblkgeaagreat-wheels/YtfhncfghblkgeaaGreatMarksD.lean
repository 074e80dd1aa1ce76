/-
  The walks: markDue, looks where timers came out.
-/
import Derived.Test.YtfhncfghblkgeaaGreatStepC
import Derived.Test.YtfhncfghblkgeaaGreatRWheel1
import Derived.Deep.RegionHeld3
namespace Go.Proofs.YtfhncfghblkgeaaGreat
open Go.RowKit

/-- The mark in the n-th list of timers. -/
def mkD (n : Nat) : Int := -1000 - (n : Int)

set_option maxHeartbeats 400000 in
theorem markDue_any (n : Nat) (w : World) (hn : n < 4611686018427387904) :
    Calls Tryz.prog 53 #[.int .i64 n] w fun e w' => e = .returned (.agg #[.int .i64 (mkD n), .int .i64 (mkD n)]) ∧ Below w.heap.size w w' := by
  go_enter Tryz.func53, Tryz.ntmps53
  go_wp2
  exact bodyPost_ret (v := .agg #[.int .i64 (mkD n), .int .i64 (mkD n)]) (by simp [results, Tryz.results53, go_sem, mkD]) rfl ⟨rfl, (Below.refl _ _).alloc (Nat.le_refl _) _⟩

/-- A list of timers that came out, into which the caller has written its mark. -/
def markedD (w : World) (P i : Nat) (v : Value) : Prop :=
  v = .slice none 0 0 ∨ ∃ g n, v = .slice (some ⟨g, 0, none⟩) n n ∧ n ≤ maxLen ∧ P < g ∧ w.heap[g]? = some (.cells (flatT (List.replicate n (mkD i, mkD i))).toArray 131 (0, 0))

theorem markedD_cell {w : World} {g n i q : Nat} (h : w.heap[g]? = some (.cells (flatT (List.replicate n (mkD i, mkD i))).toArray 131 (0, 0))) (hq : q < n) :
    w.cell? ⟨g, q * 2, none⟩ = some (.int .i64 (mkD i)) ∧ w.cell? ⟨g, q * 2 + 1, none⟩ = some (.int .i64 (mkD i)) := by
  have hf := flatT_at (List.replicate n (mkD i, mkD i)) q (by simpa using hq)
  have hg : (List.replicate n (mkD i, mkD i)).getD q (0, 0) = (mkD i, mkD i) := by simp [List.getD, hq]
  rw [hg] at hf
  exact ⟨by rw [Joins.cell_of_block h, List.getElem?_toArray]; exact hf.1, by rw [Joins.cell_of_block h, List.getElem?_toArray]; exact hf.2⟩

set_option maxRecDepth 100000 in
set_option maxHeartbeats 2000000 in
theorem looks_dues (P rb n cap : Nat) (L : List Value) (w : World) (h3 : w.cell? ⟨P, 3, none⟩ = some (.slice none 0 0)) (h4 : w.cell? ⟨P, 4, none⟩ = some (.slice (some ⟨rb, 0, none⟩) n cap)) (hn : n < 4611686018427387904)
    (hc : ∀ i, i < n → w.cell? ⟨rb, i, none⟩ = some (L.getD i undef)) (hm : ∀ i, i < n → markedD w P i (L.getD i undef)) :
    Calls Tryz.prog 25 #[.pointer (some ⟨P, 0, none⟩)] w fun e w' => e = .returned (.bool true) ∧ Below w.heap.size w w' := by
  have hPw : P < w.heap.size := World.block_lt_of_cell? w _ h3
  have HC : Hid (∀ i, i < n → w.cell? ⟨rb, i, none⟩ = some (L.getD i undef)) := hc
  have HM : Hid (∀ i, i < n → markedD w P i (L.getD i undef)) := hm
  have HH : Hid (w.cell? ⟨P, 3, none⟩ = some (.slice none 0 0) ∧ w.cell? ⟨P, 4, none⟩ = some (.slice (some ⟨rb, 0, none⟩) n cap)) := ⟨h3, h4⟩
  clear hc hm h3 h4
  go_enter Tryz.func25, Tryz.ntmps25
  go_wp2_with fail
  go_loopw [3] (fun i wr => i = .int .i64 0 ∧ Below w.heap.size w wr) (fun _ _ => 0)
  case atStart => exact ⟨rfl, Below.refl _ _⟩
  case round =>
    obtain ⟨rfl, hbel0⟩ := hrel
    have l3 : wr.cell? ⟨P, 3, none⟩ = some (.slice none 0 0) := (hbel0.cell (p := ⟨P, 3, none⟩) hPw).trans HH.out.1
    go_wp2_with fail
    clear l3
    go_loopw [5] (fun i wr => ∃ j : Nat, j ≤ n ∧ i = .int .i64 j ∧ Below w.heap.size w wr) (fun i _ => n - (intOf i).toNat)
    case atStart => exact ⟨0, Nat.zero_le _, rfl, hbel0⟩
    case round =>
      obtain ⟨j, hj, rfl, hbel⟩ := hrel
      have k4 : wr.cell? ⟨P, 4, none⟩ = some (.slice (some ⟨rb, 0, none⟩) n cap) := (hbel.cell (p := ⟨P, 4, none⟩) hPw).trans HH.out.2
      by_cases hlt : j < n
      · have hrw : rb < w.heap.size := World.block_lt_of_cell? w _ (HC.out j hlt)
        have kr : wr.cell? ⟨rb, j, none⟩ = some (L.getD j undef) := (hbel.cell (p := ⟨rb, j, none⟩) hrw).trans (HC.out j hlt)
        rcases HM.out j hlt with hv | ⟨g, m, hv, hmm, hPg, hg⟩
        · rw [hv] at kr
          go_wp2_with fail
          go_loopw [6] (fun i w2 => i = .int .i64 0 ∧ Below w.heap.size w w2) (fun _ _ => 0)
          case atStart => exact ⟨rfl, hbel⟩
          case round =>
            obtain ⟨rfl, hbel2⟩ := hrel
            have l3 : wr.cell? ⟨P, 4, none⟩ = some (.slice (some ⟨rb, 0, none⟩) n cap) := (hbel2.cell (p := ⟨P, 4, none⟩) hPw).trans HH.out.2
            have lr : wr.cell? ⟨rb, j, none⟩ = some (.slice none 0 0) := by rw [hbel2.cell (p := ⟨rb, j, none⟩) hrw, HC.out j hlt, hv]
            go_wp2
            go_roundw
            case rel => exact ⟨j + 1, by omega, by go_num, hbel2⟩
            case measure => simp [intOf]; omega
        · rw [hv] at kr
          have HG : Hid (w.heap[g]? = some (.cells (flatT (List.replicate m (mkD j, mkD j))).toArray 131 (0, 0))) := hg
          have hgw : g < w.heap.size := (Array.getElem?_eq_some_iff.1 hg).1
          clear hg
          unfold maxLen at hmm
          go_wp2_with fail
          go_loopw [6] (fun i w2 => ∃ q : Nat, q ≤ m ∧ i = .int .i64 q ∧ Below w.heap.size w w2) (fun i _ => m - (intOf i).toNat)
          case atStart => exact ⟨0, Nat.zero_le _, rfl, hbel⟩
          case round =>
            obtain ⟨q, hq, rfl, hbel2⟩ := hrel
            have l3 : wr.cell? ⟨P, 4, none⟩ = some (.slice (some ⟨rb, 0, none⟩) n cap) := (hbel2.cell (p := ⟨P, 4, none⟩) hPw).trans HH.out.2
            have lr : wr.cell? ⟨rb, j, none⟩ = some (.slice (some ⟨g, 0, none⟩) m m) := by rw [hbel2.cell (p := ⟨rb, j, none⟩) hrw, HC.out j hlt, hv]
            have hPr : P < wr.heap.size := Nat.lt_of_lt_of_le hPw hbel2.size
            have hrr : rb < wr.heap.size := Nat.lt_of_lt_of_le hrw hbel2.size
            have hgr : g < wr.heap.size := Nat.lt_of_lt_of_le hgw hbel2.size
            by_cases hqm : q < m
            · have lg0 : wr.cell? ⟨g, q * 2, none⟩ = some (.int .i64 (mkD j)) := (hbel2.cell (p := ⟨g, q * 2, none⟩) hgw).trans (markedD_cell HG.out hqm).1
              have lg1 : wr.cell? ⟨g, q * 2 + 1, none⟩ = some (.int .i64 (mkD j)) := (hbel2.cell (p := ⟨g, q * 2 + 1, none⟩) hgw).trans (markedD_cell HG.out hqm).2
              have HMK : Hid (∀ w' : World, Calls Tryz.prog 53 #[.int .i64 j] w' fun e w2 => e = .returned (.agg #[.int .i64 (mkD j), .int .i64 (mkD j)]) ∧ Below w'.heap.size w' w2) := fun w' => markDue_any j w' (by omega)
              generalize mkD j = mk at lg0 lg1 HMK
              go_wp2_with fail
              go_region_held3 (fun w' => w'.cell? ⟨P, 4, none⟩ = some (.slice (some ⟨rb, 0, none⟩) n cap) ∧ w'.cell? ⟨rb, j, none⟩ = some (.slice (some ⟨g, 0, none⟩) m m) ∧ w'.cell? ⟨g, q * 2, none⟩ = some (.int .i64 mk) ∧ w'.cell? ⟨g, q * 2 + 1, none⟩ = some (.int .i64 mk)) (simp [go_sem, *])
                (first
                  | (go_at_call 53; refine (HMK.out _).mono ?_; rintro e w2 ⟨rfl, b2⟩
                     have e0 := (b2.cell (p := ⟨P, 4, none⟩) (by simp; omega)).trans (by simp [go_sem, *] : _ = some (.slice (some ⟨rb, 0, none⟩) n cap))
                     have e1 := (b2.cell (p := ⟨rb, j, none⟩) (by simp; omega)).trans (by simp [go_sem, *] : _ = some (.slice (some ⟨g, 0, none⟩) m m))
                     have e3 := (b2.cell (p := ⟨g, q * 2, none⟩) (by simp; omega)).trans (by simp [go_sem, *] : _ = some (.int .i64 mk))
                     have e4 := (b2.cell (p := ⟨g, q * 2 + 1, none⟩) (by simp; omega)).trans (by simp [go_sem, *] : _ = some (.int .i64 mk))))
              have hbel3 : Below w.heap.size w w2 := Below.trans hbel2.drew (b2.mono (by simp; exact hbel2.size))
              clear e0 e1 e3 e4 lg0 lg1 b2
              go_wp2
              go_roundw
              case rel => exact ⟨q + 1, by omega, by go_num, hbel3⟩
              case measure => simp [intOf]; omega
            · have hqe : q = m := by omega
              subst hqe
              go_wp2
              go_roundw
              case rel => exact ⟨j + 1, by omega, by go_num, hbel2⟩
              case measure => simp [intOf]; omega
      · have hje : j = n := by omega
        subst hje
        go_wp2
        go_ret
        exact ⟨rfl, hbel⟩

end Go.Proofs.YtfhncfghblkgeaaGreat
