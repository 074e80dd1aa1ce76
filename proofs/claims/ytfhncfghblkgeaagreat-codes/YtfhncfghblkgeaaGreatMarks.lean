/-
  The walks: markByte, looks where bytes came out.
-/
import Derived.Test.YtfhncfghblkgeaaGreatStepC
namespace Go.Proofs.YtfhncfghblkgeaaGreat
open Go.RowKit

/-- The mark in the n-th list of bytes. -/
def mkB (n : Nat) : Int := 200 + (n : Int) % 50

set_option maxHeartbeats 400000 in
theorem markByte_any (n : Nat) (w : World) (hn : n < 4611686018427387904) :
    Calls Tryz.prog 52 #[.int .i64 n] w fun e w' => e = .returned (.int .u8 (mkB n)) ∧ w = w' := by
  go_enter Tryz.func52, Tryz.ntmps52
  go_wp2
  go_ret
  exact ⟨rfl, rfl⟩

/-- A list of bytes that came out, into which the caller has written its mark. -/
def marked (w : World) (P i : Nat) (v : Value) : Prop :=
  v = .slice none 0 0 ∨ ∃ g n, v = .slice (some ⟨g, 0, none⟩) n n ∧ n ≤ maxLen ∧ P < g ∧ w.heap[g]? = some (.cells (List.replicate n (.int .u8 (mkB i))).toArray 5 (0, 0))

set_option maxRecDepth 100000 in
set_option maxHeartbeats 2000000 in
theorem looks_bytes (P rb n cap : Nat) (L : List Value) (w : World) (h3 : w.cell? ⟨P, 3, none⟩ = some (.slice (some ⟨rb, 0, none⟩) n cap)) (h4 : w.cell? ⟨P, 4, none⟩ = some (.slice none 0 0)) (hL : L.length = n) (hn : n < 4611686018427387904)
    (hc : ∀ i, i < n → w.cell? ⟨rb, i, none⟩ = some (L.getD i undef)) (hm : ∀ i, i < n → marked w P i (L.getD i undef)) :
    Calls Tryz.prog 25 #[.pointer (some ⟨P, 0, none⟩)] w fun e w' => e = .returned (.bool true) ∧ Below w.heap.size w w' := by
  have hPw : P < w.heap.size := World.block_lt_of_cell? w _ h3
  have HC : Hid (∀ i, i < n → w.cell? ⟨rb, i, none⟩ = some (L.getD i undef)) := hc
  have HM : Hid (∀ i, i < n → marked w P i (L.getD i undef)) := hm
  have HH : Hid (w.cell? ⟨P, 3, none⟩ = some (.slice (some ⟨rb, 0, none⟩) n cap) ∧ w.cell? ⟨P, 4, none⟩ = some (.slice none 0 0)) := ⟨h3, h4⟩
  clear hc hm h3 h4
  go_enter Tryz.func25, Tryz.ntmps25
  go_wp2_with fail
  go_loopw [3] (fun i wr => ∃ j : Nat, j ≤ n ∧ i = .int .i64 j ∧ Below w.heap.size w wr) (fun i _ => n - (intOf i).toNat)
  case atStart => exact ⟨0, Nat.zero_le _, rfl, Below.refl _ _⟩
  case round =>
    obtain ⟨j, hj, rfl, hbel⟩ := hrel
    have k3 : wr.cell? ⟨P, 3, none⟩ = some (.slice (some ⟨rb, 0, none⟩) n cap) := (hbel.cell (p := ⟨P, 3, none⟩) hPw).trans HH.out.1
    have k4 : wr.cell? ⟨P, 4, none⟩ = some (.slice none 0 0) := (hbel.cell (p := ⟨P, 4, none⟩) hPw).trans HH.out.2
    by_cases hlt : j < n
    · have hrw : rb < w.heap.size := World.block_lt_of_cell? w _ (HC.out j hlt)
      have kr : wr.cell? ⟨rb, j, none⟩ = some (L.getD j undef) := (hbel.cell (p := ⟨rb, j, none⟩) hrw).trans (HC.out j hlt)
      rcases HM.out j hlt with hv | ⟨g, m, hv, hmm, hPg, hg⟩
      · rw [hv] at kr
        go_wp2_with fail
        go_loopw [4] (fun i w2 => i = .int .i64 0 ∧ Below w.heap.size w w2) (fun _ _ => 0)
        case atStart => exact ⟨rfl, hbel⟩
        case round =>
          obtain ⟨rfl, hbel2⟩ := hrel
          have l3 : wr.cell? ⟨P, 3, none⟩ = some (.slice (some ⟨rb, 0, none⟩) n cap) := (hbel2.cell (p := ⟨P, 3, none⟩) hPw).trans HH.out.1
          have lr : wr.cell? ⟨rb, j, none⟩ = some (.slice none 0 0) := by rw [hbel2.cell (p := ⟨rb, j, none⟩) hrw, HC.out j hlt, hv]
          go_wp2
          go_roundw
          case rel => exact ⟨j + 1, by omega, by go_num, hbel2⟩
          case measure => simp [intOf]; omega
      · rw [hv] at kr
        have HG : Hid (w.heap[g]? = some (.cells (List.replicate m (.int .u8 (mkB j))).toArray 5 (0, 0))) := hg
        have hgw : g < w.heap.size := (Array.getElem?_eq_some_iff.1 hg).1
        clear hg
        unfold maxLen at hmm
        go_wp2_with fail
        go_loopw [4] (fun i w2 => ∃ q : Nat, q ≤ m ∧ i = .int .i64 q ∧ Below w.heap.size w w2) (fun i _ => m - (intOf i).toNat)
        case atStart => exact ⟨0, Nat.zero_le _, rfl, hbel⟩
        case round =>
          obtain ⟨q, hq, rfl, hbel2⟩ := hrel
          have l3 : wr.cell? ⟨P, 3, none⟩ = some (.slice (some ⟨rb, 0, none⟩) n cap) := (hbel2.cell (p := ⟨P, 3, none⟩) hPw).trans HH.out.1
          have lr : wr.cell? ⟨rb, j, none⟩ = some (.slice (some ⟨g, 0, none⟩) m m) := by rw [hbel2.cell (p := ⟨rb, j, none⟩) hrw, HC.out j hlt, hv]
          by_cases hqm : q < m
          · have lg : wr.cell? ⟨g, q, none⟩ = some (.int .u8 (mkB j)) := by
              rw [hbel2.cell (p := ⟨g, q, none⟩) hgw, Joins.cell_of_block HG.out, List.getElem?_toArray, List.getElem?_replicate, if_pos hqm]
            have HMK : Hid (∀ w' : World, Calls Tryz.prog 52 #[.int .i64 j] w' fun e w2 => e = .returned (.int .u8 (mkB j)) ∧ w2 = w') := fun w' => (markByte_any j w' (by omega)).mono (by rintro e w2 ⟨rfl, rfl⟩; exact ⟨rfl, rfl⟩)
            generalize mkB j = mk at lg HMK
            go_wp2_with fail
            go_quiet ((go_at_call 52; exact Calls.quiet_of_same (HMK.out _)))
            go_wp2
            go_roundw
            case rel => exact ⟨q + 1, by omega, by go_num, below_drewN hbel2⟩
            case measure => simp [intOf]; omega
          · have hqe : q = m := by omega
            subst hqe
            go_wp2
            go_roundw
            case rel => exact ⟨j + 1, by omega, by go_num, hbel2⟩
            case measure => simp [intOf]; omega
    · have hje : j = n := by omega
      subst hje
      go_wp2_with fail
      go_loopw [5] (fun i w2 => i = .int .i64 0 ∧ Below w.heap.size w w2) (fun _ _ => 0)
      case atStart => exact ⟨rfl, hbel⟩
      case round =>
        obtain ⟨rfl, hbel2⟩ := hrel
        have l4 : wr.cell? ⟨P, 4, none⟩ = some (.slice none 0 0) := (hbel2.cell (p := ⟨P, 4, none⟩) hPw).trans HH.out.2
        go_wp2
        go_ret
        exact ⟨rfl, hbel2⟩

end Go.Proofs.YtfhncfghblkgeaaGreat
