/-
  The reference's timers: ahead, index, without, least.
-/
import Derived.Test.YtfhncfghblkgeaaGreatRows2
import Derived.Test.YtfhncfghblkgeaaGreatWBase
namespace Go.Proofs.YtfhncfghblkgeaaGreat
open Go.RowKit
set_option maxHeartbeats 400000 in
theorem rahead_any (a b : Int × Int) (w : World) :
    Calls Tryz.prog 145 #[.agg #[.int .i64 a.1, .int .i64 a.2], .agg #[.int .i64 b.1, .int .i64 b.2]] w fun e w' => e = .returned (.bool (aheadB a b)) ∧ Below w.heap.size w w' := by
  obtain ⟨a1, a2⟩ := a
  obtain ⟨b1, b2⟩ := b
  simp only
  by_cases h1 : a1 < b1
  · go_enter Tryz.func145, Tryz.ntmps145
    go_wp2
    go_ret
    exact ⟨by simp [aheadB, h1], by repeat (first | exact Below.refl _ _ | refine Below.alloc ?_ (by first | exact Nat.le_refl _ | (simp <;> omega)) _)⟩
  · have d1 : decide (a1 < b1) = false := by simpa using h1
    by_cases h2 : a1 = b1
    · subst h2
      go_enter Tryz.func145, Tryz.ntmps145
      go_wp2
      go_ret
      exact ⟨by simp [aheadB], by repeat (first | exact Below.refl _ _ | refine Below.alloc ?_ (by first | exact Nat.le_refl _ | (simp <;> omega)) _)⟩
    · have d2 : (a1 == b1) = false := by simpa using h2
      go_enter Tryz.func145, Tryz.ntmps145
      go_wp2
      go_ret
      exact ⟨by simp [aheadB, d1, d2], by repeat (first | exact Below.refl _ _ | refine Below.alloc ?_ (by first | exact Nat.le_refl _ | (simp <;> omega)) _)⟩

set_option maxRecDepth 100000 in
set_option maxHeartbeats 1000000 in
theorem rindex_any (R : Nat) (v : Value) (L : List (Int × Int)) (id : Int) (w : World) (h1 : w.cell? ⟨R, 1, none⟩ = some v) (hd : duesAt w v L) (hl : L.length * 16 ≤ 140737488355328) :
    Calls Tryz.prog 114 #[.pointer (some ⟨R, 0, none⟩), .int .i64 id] w fun e w' => e = .returned (.int .i64 (idxT L id)) ∧ w = w' := by
  obtain ⟨a, c, rfl, hc⟩ := hd
  have HC : Hid (0 < L.length → ∃ g, a = some ⟨g, 0, none⟩ ∧ g < w.heap.size ∧ ∀ i, i < L.length → w.cell? ⟨g, i * 2, none⟩ = some (.int .i64 (L.getD i (0, 0)).1) ∧ w.cell? ⟨g, i * 2 + 1, none⟩ = some (.int .i64 (L.getD i (0, 0)).2)) := hc
  clear hc
  go_enter Tryz.func114, Tryz.ntmps114
  go_wp2
  go_loop [5] (fun i => ∃ k : Nat, k ≤ L.length ∧ i = .int .i64 k ∧ Hid (∀ i, i < k → (L.getD i (0, 0)).2 ≠ id)) (fun i => L.length - (intOf i).toNat)
  case atStart => exact ⟨0, Nat.zero_le _, rfl, fun _ h => by omega⟩
  case round =>
    obtain ⟨k, hk, rfl, hall⟩ := hrel
    by_cases hlt : k < L.length
    · obtain ⟨g, rfl, _, hcell⟩ := HC.out (by omega)
      have hcx := (hcell k hlt).2
      generalize hx : (L.getD k (0, 0)).2 = x at hcx
      have HX : Hid ((L.getD k (0, 0)).2 = x) := hx
      clear hx hcell
      by_cases he : x = id
      · have HI : Hid (idxT L id = k) := idxT_some hlt hall.out (HX.out.trans he)
        subst he
        go_wp2
        go_ret
        exact ⟨by rw [HI.out]; rfl, rfl⟩
      · have he' : (x == id) = false := by simpa using he
        go_wp2
        go_round
        case rel => exact ⟨k + 1, by omega, by go_num, all_succP hall.out (by rw [HX.out]; exact he)⟩
        case measure => simp [intOf]; omega
    · have HI : Hid (idxT L id = -1) := idxT_none (fun i hi => hall.out i (by omega))
      go_wp2
      go_ret
      exact ⟨by rw [HI.out]; rfl, rfl⟩

/-- The timers but that with index k, of the first j. -/
def wout (L : List (Int × Int)) (k j : Nat) : List (Int × Int) := (L.take j).eraseIdx k

theorem wout_same {L : List (Int × Int)} {k j : Nat} (h : j < L.length) (e : j = k) : wout L k (j + 1) = wout L k j := by
  subst e
  unfold wout
  have hl : (L.take j).length = j := by simp; omega
  rw [take_get L h, List.eraseIdx_append_of_length_le (by omega), hl, Nat.sub_self]
  simp [List.eraseIdx_of_length_le (show (L.take j).length ≤ j by omega)]
theorem wout_more {L : List (Int × Int)} {k j : Nat} (h : j < L.length) (e : j ≠ k) : wout L k (j + 1) = wout L k j ++ [L.getD j (0, 0)] := by
  unfold wout
  have hl : (L.take j).length = j := by simp; omega
  rw [take_get L h]
  by_cases hk : k < j
  · rw [List.eraseIdx_append_of_lt_length (by omega)]
  · rw [List.eraseIdx_of_length_le (by simp; omega), List.eraseIdx_of_length_le (by omega)]
theorem wout_len (L : List (Int × Int)) (k j : Nat) : (wout L k j).length ≤ L.length := by
  unfold wout
  have := List.length_eraseIdx_le (L.take j) k
  simp at this
  omega

set_option maxRecDepth 100000 in
set_option maxHeartbeats 1000000 in
theorem rwithout_any (R : Nat) (v : Value) (L : List (Int × Int)) (k : Nat) (w : World) (h1 : w.cell? ⟨R, 1, none⟩ = some v) (hd : duesAt w v L) (hl : L.length * 16 ≤ 140737488351232) :
    Calls Tryz.prog 116 #[.pointer (some ⟨R, 0, none⟩), .int .i64 k] w fun e w' => ∃ v', e = .returned v' ∧ w'.ownsRow w.heap.size 131 2 v' (L.eraseIdx k).length (flatT (L.eraseIdx k)) ∧ Below w.heap.size w w' := by
  obtain ⟨i0, hi, hz0, hz1, hz2⟩ := info_parts Tryz.infoDue
  obtain ⟨a, c, rfl, hc⟩ := hd
  have hRw : R < w.heap.size := World.block_lt_of_cell? w _ h1
  have HC : Hid (0 < L.length → ∃ g, a = some ⟨g, 0, none⟩ ∧ g < w.heap.size ∧ ∀ i, i < L.length → w.cell? ⟨g, i * 2, none⟩ = some (.int .i64 (L.getD i (0, 0)).1) ∧ w.cell? ⟨g, i * 2 + 1, none⟩ = some (.int .i64 (L.getD i (0, 0)).2)) := hc
  have H1 : Hid (w.cell? ⟨R, 1, none⟩ = some (.slice a L.length c)) := h1
  clear hc h1
  generalize hB : w.heap.size = B at *
  have HB : Hid (w.heap.size = B) := hB
  go_enter Tryz.func116, Tryz.ntmps116
  go_wp2_with fail
  clear hB
  go_loopw [5, 6] (fun l i wr => ∃ j : Nat, j ≤ L.length ∧ i = .int .i64 j ∧ wr.ownsRow B 131 2 l (wout L k j).length (flatT (wout L k j)) ∧ Below B w wr) (fun _ i _ => L.length - (intOf i).toNat)
  case atStart => exact ⟨0, Nat.zero_le _, rfl, World.ownsRow_nil _ _ _ _, Below.refl _ _⟩
  case round =>
    obtain ⟨j, hj, rfl, hown, hbel⟩ := hrel
    have hBr : B ≤ wr.heap.size := by have := hbel.size; rw [HB.out] at this; exact this
    have k1 : wr.cell? ⟨R, 1, none⟩ = some (.slice a L.length c) := (hbel.cell (p := ⟨R, 1, none⟩) hRw).trans H1.out
    have hwl := wout_len L k j
    by_cases hlt : j < L.length
    · obtain ⟨g, rfl, hgw, hcell⟩ := HC.out (by omega)
      have c0 := (hbel.cell (p := ⟨g, j * 2, none⟩) hgw).trans (hcell j hlt).1
      have c1 := (hbel.cell (p := ⟨g, j * 2 + 1, none⟩) hgw).trans (hcell j hlt).2
      by_cases he : j = k
      · subst he
        have HW : Hid (wout L j (j + 1) = wout L j j) := wout_same hlt rfl
        clear hcell c0 c1
        go_wp2
        go_roundw
        case rel => exact ⟨j + 1, by omega, by go_num, by rw [HW.out]; exact hown, hbel⟩
        case measure => simp [intOf]; omega
      · have HW : Hid (wout L k (j + 1) = wout L k j ++ [L.getD j (0, 0)]) := wout_more hlt he
        have hne : ((j : Int) != (k : Int)) = true := by simp; omega
        generalize L.getD j (0, 0) = p at c0 c1 HW
        obtain ⟨p0, p1⟩ := p
        simp only at c0 c1
        have HO : Hid (∀ k, u5.ownBlock = some k → B ≤ k ∧ k < wr.heap.size) := World.ownsRow.lt hown
        generalize wout L k j = X at hown HW hwl
        clear hcell
        go_wp2_with (at_builtin; refine wpList_append_own _ rfl _ _ 129 rfl B 131 i0 (.agg #[.int .i64 0, .int .i64 0]) 2 16 Tryz.underlying129 hi hz0 hz1 hz2 rfl (by decide) _ _ _ rfl (hown.alloc _) ⟨wr.heap.size, 0, none⟩ 1 1 [.int .i64 p0, .int .i64 p1] rfl rfl ?c1 ?c2 ?c3 ?c4 ?c5 ?_)
        case c1 => exact two_new
        case c2 => intro u hu; simp at hu; rcases hu with rfl | rfl <;> rfl
        case c3 => unfold maxLen; omega
        case c4 => omega
        case c5 => simp; omega
        intro v' w1 hown' hgrow _
        clear hown
        go_wp2
        go_roundw
        case rel =>
          refine ⟨j + 1, by omega, by go_num, ?_, (hbel.alloc hBr _).grown hgrow (by simp; omega) (fun k hk => (HO.out k hk).1)⟩
          rw [HW.out, flatT_snoc]; simpa using hown'
        case measure => simp [intOf]; omega
    · have HE : Hid (wout L k j = L.eraseIdx k) := by unfold Hid wout; rw [List.take_of_length_le (by omega)]
      rw [HE.out] at hown
      go_wp2
      go_ret
      exact ⟨_, rfl, hown, hbel⟩

end Go.Proofs.YtfhncfghblkgeaaGreat
