/-
  salekeep's look at First and Size. (Written by ringgen5.py.)
-/
import Derived.Test.YtfhncfghblkgeaaRing4
namespace Go.Proofs.Ytfhncfghblkgeaa
open Go.RowKit

set_option maxRecDepth 100000 in
set_option maxHeartbeats 4000000 in
theorem pfirst_nil (B R x : Nat) (own : Nat → Prop) (v : Value) (now : Int) (w : World) (h : ringSt w B R x own v now []) :
    Calls Try.prog 12 #[.pointer (some ⟨R, 0, none⟩), .pointer (some ⟨x, 0, none⟩)] w fun e w' => e = .returned (.bool true) ∧ Below w.heap.size w w' := by
  have HF : Hid (∀ W, Below w.heap.size w W → Calls Try.prog 26 #[.pointer (some ⟨x, 0, none⟩)] W fun e w' => e = .returned (.tuple #[.agg #[.int .i64 0, .int .i64 0], .bool false]) ∧ Below W.heap.size W w') := by
    intro W hW
    have := wfirst_any (pw_below h.pw hW)
    rw [first_nil.1, first_nil.2] at this
    exact this
  have HZ : Hid (∀ W, Below w.heap.size w W → Calls Try.prog 27 #[.pointer (some ⟨x, 0, none⟩)] W fun e w' => e = .returned (.int .i64 0) ∧ Below W.heap.size W w') := by
    intro W hW
    obtain ⟨ti, tt, h1, _⟩ := pw_below h.pw hW
    have hxw : x < W.heap.size := (Array.getElem?_eq_some_iff.1 h1).1
    exact wsize_walk x 0 W (fun W' hb => size_any x 1 0 W' (by rw [Joins.cell_of_block ((hb.block x hxw).trans h1)]; rfl))
  obtain ⟨r0, r1⟩ := rw_cells h.pend.1
  have hRw : R < w.heap.size := (Array.getElem?_eq_some_iff.1 h.pend.1).1
  obtain ⟨va, vc, rfl⟩ := pend_slice h.pend
  clear h
  go_enter Try.func12, Try.ntmps12
  go_wp2_with fail
  refine (HF.out _ (by repeat (first | exact Below.refl _ _ | assumption | refine Below.drew ?_ | refine below_drawn ?_ _ | refine Below.alloc ?_ (by first | exact Nat.le_refl _ | omega | (simp <;> omega)) _))).mono ?_
  rintro e w1 ⟨rfl, b1⟩
  have z1 := b1.size
  go_wp2_with fail
  refine (HZ.out _ (by repeat (first | exact Below.refl _ _ | assumption | refine Below.drew ?_ | refine below_drawn ?_ _ | refine Below.alloc ?_ (by first | exact Nat.le_refl _ | omega | (simp <;> omega)) _))).mono ?_
  rintro e w2 ⟨rfl, b2⟩
  have hb2 : Below w.heap.size w w2 := Below.trans (show Below w.heap.size w _ from (by repeat (first | exact Below.refl _ _ | assumption | refine Below.drew ?_ | refine below_drawn ?_ _ | refine Below.alloc ?_ (by first | exact Nat.le_refl _ | omega | (simp <;> omega)) _))) (b2.mono (by have := b1.size; simp <;> omega))
  have c1 := (hb2.cell (p := ⟨R, 1, none⟩) hRw).trans r1
  have hd2 : w2.heap[w1.heap.size]? = some (.cells #[.int .i64 0, .int .i64 0] 62 (0, 0)) := (b2.block _ (by simp)).trans (heap_alloc_new _ _)
  obtain ⟨d0, d1⟩ := rw_cells hd2
  clear b1 b2 r0 r1
  go_wp2
  go_ret
  exact ⟨rfl, (by repeat (first | exact Below.refl _ _ | assumption | refine Below.drew ?_ | refine below_drawn ?_ _ | refine Below.alloc ?_ (by first | exact Nat.le_refl _ | omega | (simp <;> omega)) _))⟩

set_option maxRecDepth 100000 in
set_option maxHeartbeats 4000000 in
theorem pfirst_some (B R x : Nat) (own : Nat → Prop) (v : Value) (now : Int) (L : List (Int × Int)) (w : World) (h : ringSt w B R x own v now L) (hne : L ≠ []) (hl : L.length * 16 + 16 ≤ 140737488351232) :
    Calls Try.prog 12 #[.pointer (some ⟨R, 0, none⟩), .pointer (some ⟨x, 0, none⟩)] w fun e w' => e = .returned (.bool true) ∧ Below w.heap.size w w' := by
  obtain ⟨hfb, hfm, hfa⟩ := first_some hne
  have ho : onceT L := by obtain ⟨_, _, _, _, _, _, h, _⟩ := h.pw; exact h
  obtain ⟨q, hq, hql, hqg, -⟩ := idx_get ho hfm
  have hlen : 0 < L.length := List.length_pos_iff.2 hne
  have HF : Hid (∀ W, Below w.heap.size w W → Calls Try.prog 26 #[.pointer (some ⟨x, 0, none⟩)] W fun e w' => e = .returned (.tuple #[.agg #[.int .i64 (firstT L).1, .int .i64 (firstT L).2], .bool true]) ∧ Below W.heap.size W w') := by
    intro W hW
    have := wfirst_any (pw_below h.pw hW)
    rw [hfb] at this
    exact this
  have HZ : Hid (∀ W, Below w.heap.size w W → Calls Try.prog 27 #[.pointer (some ⟨x, 0, none⟩)] W fun e w' => e = .returned (.int .i64 L.length) ∧ Below W.heap.size W w') := by
    intro W hW
    obtain ⟨ti, tt, h1, _⟩ := pw_below h.pw hW
    have hxw : x < W.heap.size := (Array.getElem?_eq_some_iff.1 h1).1
    exact wsize_walk x L.length W (fun W' hb => size_any x 1 L.length W' (by rw [Joins.cell_of_block ((hb.block x hxw).trans h1)]; rfl))
  have HFI : Hid (∀ W, Below w.heap.size w W → Calls Try.prog 20 #[.pointer (some ⟨R, 0, none⟩), .int .i64 (firstT L).2] W fun e w' => e = .returned (.int .i64 q) ∧ W = w') := by
    intro W hW
    have := find_any R v L (firstT L).2 W (rw_cells (pend_below h.pend hW).1).2 (duesAt_of (pend_below h.pend hW).2) (by omega)
    rw [hq] at this
    exact this
  have HC : Hid (∃ g c, v = .slice (some ⟨g, 0, none⟩) L.length c ∧ g < w.heap.size ∧ ∀ i, i < L.length → w.cell? ⟨g, i * 2, none⟩ = some (.int .i64 (L.getD i (0, 0)).1) ∧ w.cell? ⟨g, i * 2 + 1, none⟩ = some (.int .i64 (L.getD i (0, 0)).2)) := by
    obtain ⟨va, vc, rfl, hvc⟩ := duesAt_of h.pend.2
    obtain ⟨g, rfl, hg, hc⟩ := hvc hlen
    exact ⟨g, vc, rfl, hg, hc⟩
  have HA : Hid (∀ i, i < L.length → ¬ aheadB (L.getD i (0, 0)) (firstT L) = true) := fun i hi => hfa _ (getD_mem hi)
  obtain ⟨r0, r1⟩ := rw_cells h.pend.1
  have hRw : R < w.heap.size := (Array.getElem?_eq_some_iff.1 h.pend.1).1
  clear h hfb hfm hfa hne ho hq
  obtain ⟨g, vc, rfl, hgw, hcell⟩ := HC.out
  clear HC
  have h1R : Hid (w.cell? ⟨R, 1, none⟩ = some (.slice (some ⟨g, 0, none⟩) L.length vc)) := r1
  generalize firstT L = P at HF HFI HA hqg
  have HCL : Hid (∀ i, i < L.length → w.cell? ⟨g, i * 2, none⟩ = some (.int .i64 (L.getD i (0, 0)).1) ∧ w.cell? ⟨g, i * 2 + 1, none⟩ = some (.int .i64 (L.getD i (0, 0)).2)) := hcell
  obtain ⟨t0, t1⟩ := hcell q hql
  rw [hqg] at t0 t1
  obtain ⟨p0, p1⟩ := P
  simp only at t0 t1 HF HFI
  clear hcell hqg
  have b0 : (0 : Int) ≤ (q : Int) := by omega
  have b1' : (q : Int) < (L.length : Int) := by omega
  have b2' : decide ((q : Int) < 0) = false := by simp
  have b3 : decide ((0 : Int) < (L.length : Int)) = true := by simp; omega
  go_enter Try.func12, Try.ntmps12
  go_wp2_with fail
  refine (HF.out _ (by repeat (first | exact Below.refl _ _ | assumption | refine Below.drew ?_ | refine below_drawn ?_ _ | refine Below.alloc ?_ (by first | exact Nat.le_refl _ | omega | (simp <;> omega)) _))).mono ?_
  rintro e w1 ⟨rfl, b1⟩
  have z1 := b1.size
  go_wp2_with fail
  refine (HZ.out _ (by repeat (first | exact Below.refl _ _ | assumption | refine Below.drew ?_ | refine below_drawn ?_ _ | refine Below.alloc ?_ (by first | exact Nat.le_refl _ | omega | (simp <;> omega)) _))).mono ?_
  rintro e w2 ⟨rfl, b2⟩
  have hb2 : Below w.heap.size w w2 := Below.trans (show Below w.heap.size w _ from (by repeat (first | exact Below.refl _ _ | assumption | refine Below.drew ?_ | refine below_drawn ?_ _ | refine Below.alloc ?_ (by first | exact Nat.le_refl _ | omega | (simp <;> omega)) _))) (b2.mono (by have := b1.size; simp <;> omega))
  have z2 := hb2.size
  have c1 := (hb2.cell (p := ⟨R, 1, none⟩) hRw).trans r1
  have u0 := (hb2.cell (p := ⟨g, q * 2, none⟩) hgw).trans t0
  have u1 := (hb2.cell (p := ⟨g, q * 2 + 1, none⟩) hgw).trans t1
  have hd2 : w2.heap[w1.heap.size]? = some (.cells #[.int .i64 p0, .int .i64 p1] 62 (0, 0)) := (b2.block _ (by simp)).trans (heap_alloc_new _ _)
  obtain ⟨d0, d1⟩ := rw_cells hd2
  have hDw : w1.heap.size < w2.heap.size := (Array.getElem?_eq_some_iff.1 hd2).1
  clear b1 b2 r0 r1 t0 t1 HF HZ
  go_wp2_with (go_at_call 20; refine (HFI.out _ (by repeat (first | exact Below.refl _ _ | assumption | refine Below.drew ?_ | refine below_drawn ?_ _ | refine Below.alloc ?_ (by first | exact Nat.le_refl _ | omega | (simp <;> omega)) _))).mono ?_; rintro e w3 ⟨rfl, rfl⟩)
  go_quiet (fail)
  go_wp2_with fail
  clear c1 u0 u1 d0 d1
  go_loopw [9] (fun i wr => ∃ k : Nat, k ≤ L.length ∧ i = .int .i64 k ∧ Below w2.heap.size w2 wr) (fun i _ => L.length - (intOf i).toNat)
  case atStart => exact ⟨0, Nat.zero_le _, rfl, (by repeat (first | exact Below.refl _ _ | assumption | refine Below.drew ?_ | refine below_drawn ?_ _ | refine Below.alloc ?_ (by first | exact Nat.le_refl _ | omega | (simp <;> omega)) _))⟩
  case round =>
    obtain ⟨k, hk, rfl, hbr⟩ := hrel
    have hbw : Below w.heap.size w wr := Below.trans hb2 (hbr.mono z2)
    have c1 := (hbw.cell (p := ⟨R, 1, none⟩) hRw).trans h1R.out
    have hdr : wr.heap[w1.heap.size]? = some (.cells #[.int .i64 p0, .int .i64 p1] 62 (0, 0)) := (hbr.block _ hDw).trans hd2
    obtain ⟨d0, d1⟩ := rw_cells hdr
    by_cases hlt : k < L.length
    · obtain ⟨k0, k1⟩ := HCL.out k hlt
      have e0 := (hbw.cell (p := ⟨g, k * 2, none⟩) hgw).trans k0
      have e1 := (hbw.cell (p := ⟨g, k * 2 + 1, none⟩) hgw).trans k1
      have hna := HA.out k hlt
      rw [not_ahead] at hna
      clear k0 k1
      generalize L.getD k (0, 0) = X at e0 e1 hna
      obtain ⟨x0, x1⟩ := X
      simp only at e0 e1 hna
      have b4 : (0 : Int) ≤ (k : Int) := by omega
      have b5 : (k : Int) < (L.length : Int) := by omega
      rcases hna with hna | ⟨rfl, hna⟩
      · have n1 : decide (x0 < p0) = false := by simp; omega
        have n2 : (x0 == p0) = false := by simp; omega
        go_wp2_with fail
        go_quiet (fail)
        go_wp2
        go_roundw
        case rel => exact ⟨k + 1, by omega, by go_num, (by repeat (first | exact Below.refl _ _ | assumption | refine Below.drew ?_ | refine below_drawn ?_ _ | refine Below.alloc ?_ (by first | exact Nat.le_refl _ | omega | (simp <;> omega)) _))⟩
        case measure => simp [intOf]; omega
      · have n1 : decide (x1 < p1) = false := by simp; omega
        go_wp2_with fail
        go_quiet (fail)
        go_wp2
        go_roundw
        case rel => exact ⟨k + 1, by omega, by go_num, (by repeat (first | exact Below.refl _ _ | assumption | refine Below.drew ?_ | refine below_drawn ?_ _ | refine Below.alloc ?_ (by first | exact Nat.le_refl _ | omega | (simp <;> omega)) _))⟩
        case measure => simp [intOf]; omega
    · go_wp2
      go_ret
      exact ⟨rfl, (by repeat (first | exact Below.refl _ _ | assumption | refine Below.drew ?_ | refine below_drawn ?_ _ | refine Below.alloc ?_ (by first | exact Nat.le_refl _ | omega | (simp <;> omega)) _))⟩

end Go.Proofs.Ytfhncfghblkgeaa
