/-
  salekeep's list of timers: find, by, drop.
-/
import Derived.Test.YtfhncfghblkgeaaWheel4
namespace Go.Proofs.Ytfhncfghblkgeaa
open Go.RowKit

set_option maxRecDepth 100000 in
set_option maxHeartbeats 1000000 in
theorem find_any (R : Nat) (v : Value) (L : List (Int × Int)) (id : Int) (w : World) (h1 : w.cell? ⟨R, 1, none⟩ = some v) (hd : duesAt w v L) (hl : L.length * 16 ≤ 140737488355328) :
    Calls Try.prog 20 #[.pointer (some ⟨R, 0, none⟩), .int .i64 id] w fun e w' => e = .returned (.int .i64 (idxT L id)) ∧ w = w' := by
  obtain ⟨a, c, rfl, hc⟩ := hd
  have HC : Hid (0 < L.length → ∃ g, a = some ⟨g, 0, none⟩ ∧ g < w.heap.size ∧ ∀ i, i < L.length → w.cell? ⟨g, i * 2, none⟩ = some (.int .i64 (L.getD i (0, 0)).1) ∧ w.cell? ⟨g, i * 2 + 1, none⟩ = some (.int .i64 (L.getD i (0, 0)).2)) := hc
  clear hc
  go_enter Try.func20, Try.ntmps20
  go_wp2
  go_loop [5] (fun i => ∃ k : Nat, k ≤ L.length ∧ i = .int .i64 k ∧ Hid (∀ i, i < k → (L.getD i (0, 0)).2 ≠ id)) (fun i => L.length - (intOf i).toNat)
  case atStart => exact ⟨0, Nat.zero_le _, rfl, fun _ h => by omega⟩
  case round =>
    obtain ⟨k, hk, rfl, hall⟩ := hrel
    by_cases hlt : k < L.length
    · obtain ⟨g, rfl, _, hcell⟩ := HC.out (by omega)
      have hcx := (hcell k hlt).2
      generalize hx : (L.getD k (0, 0)).2 = x at hcx
      have HX : Hid ((L.getD k (0, 0)).2 = x) := hx
      clear hx hcell
      by_cases he : x = id
      · have HI : Hid (idxT L id = k) := idxT_some hlt hall.out (HX.out.trans he)
        subst he
        go_wp2
        go_ret
        exact ⟨by rw [HI.out]; rfl, rfl⟩
      · have he' : (x == id) = false := by simpa using he
        go_wp2
        go_round
        case rel => exact ⟨k + 1, by omega, by go_num, all_succP hall.out (by rw [HX.out]; exact he)⟩
        case measure => simp [intOf]; omega
    · have HI : Hid (idxT L id = -1) := idxT_none (fun i hi => hall.out i (by omega))
      go_wp2
      go_ret
      exact ⟨by rw [HI.out]; rfl, rfl⟩

/-- How many go off up to a time. -/
def countT (to : Int) (L : List (Int × Int)) : Nat := (L.filter (fun p => decide (p.1 ≤ to))).length

theorem count_take (to : Int) (L : List (Int × Int)) {k : Nat} (h : k < L.length) : countT to (L.take (k + 1)) = countT to (L.take k) + if (L.getD k (0, 0)).1 ≤ to then 1 else 0 := by
  unfold countT
  rw [take_get L h, List.filter_append, List.length_append]
  by_cases e : (L.getD k (0, 0)).1 ≤ to
  · rw [if_pos e, List.filter_cons_of_pos (by simpa using e)]; rfl
  · rw [if_neg e, List.filter_cons_of_neg (by simpa using e)]; rfl

theorem count_le (to : Int) (L : List (Int × Int)) (k : Nat) : countT to (L.take k) ≤ k := by
  unfold countT
  exact Nat.le_trans (List.length_filter_le _ _) (by simp; omega)

set_option maxRecDepth 100000 in
set_option maxHeartbeats 1000000 in
theorem by_any (R : Nat) (v : Value) (L : List (Int × Int)) (to : Int) (w : World) (h1 : w.cell? ⟨R, 1, none⟩ = some v) (hd : duesAt w v L) (hl : L.length * 16 ≤ 140737488355328) :
    Calls Try.prog 35 #[.pointer (some ⟨R, 0, none⟩), .int .i64 to] w fun e w' => e = .returned (.int .i64 (countT to L)) ∧ w = w' := by
  obtain ⟨a, c, rfl, hc⟩ := hd
  have HC : Hid (0 < L.length → ∃ g, a = some ⟨g, 0, none⟩ ∧ g < w.heap.size ∧ ∀ i, i < L.length → w.cell? ⟨g, i * 2, none⟩ = some (.int .i64 (L.getD i (0, 0)).1) ∧ w.cell? ⟨g, i * 2 + 1, none⟩ = some (.int .i64 (L.getD i (0, 0)).2)) := hc
  clear hc
  go_enter Try.func35, Try.ntmps35
  go_wp2
  go_loop [5, 6] (fun n i => ∃ k : Nat, k ≤ L.length ∧ i = .int .i64 k ∧ n = .int .i64 (countT to (L.take k))) (fun _ i => L.length - (intOf i).toNat)
  case atStart => exact ⟨0, Nat.zero_le _, rfl, rfl⟩
  case round =>
    obtain ⟨k, hk, rfl, rfl⟩ := hrel
    have hcl := count_le to L k
    by_cases hlt : k < L.length
    · obtain ⟨g, rfl, _, hcell⟩ := HC.out (by omega)
      have hcx := (hcell k hlt).1
      have HN : Hid (countT to (L.take (k + 1)) = countT to (L.take k) + if (L.getD k (0, 0)).1 ≤ to then 1 else 0) := count_take to L hlt
      generalize (L.getD k (0, 0)).1 = x at hcx HN
      generalize countT to (L.take k) = n at HN hcl
      clear hcell
      by_cases he : x ≤ to
      · go_wp2
        go_round
        case rel => exact ⟨k + 1, by omega, by go_num, by rw [HN.out, if_pos he]; go_num⟩
        case measure => simp [intOf]; omega
      · have he' : decide (x ≤ to) = false := by simpa using he
        go_wp2
        go_round
        case rel => exact ⟨k + 1, by omega, by go_num, by rw [HN.out, if_neg he]; rfl⟩
        case measure => simp [intOf]; omega
    · have HN : Hid (countT to (L.take k) = countT to L) := by unfold Hid; rw [List.take_of_length_le (by omega)]
      go_wp2
      go_ret
      exact ⟨by rw [← HN.out]; rfl, rfl⟩

/-- Salekeep's timers: the time, and the timers in the order in which they were set. -/
def pendAt (w : World) (B R : Nat) (now : Int) (v : Value) (L : List (Int × Int)) : Prop :=
  w.heap[R]? = some (.cells #[.int .i64 now, v] 39 (0, 0)) ∧ w.ownsRow B 62 2 v L.length (flatT L)

/-- In drop's loop: those behind i, up to k, have moved up. -/
def shiftL (L : List (Int × Int)) (i k : Nat) : List (Int × Int) := (L.eraseIdx i).take k ++ L.drop k

theorem shift_first {L : List (Int × Int)} {i : Nat} (h : i < L.length) : shiftL L i i = L := by
  unfold shiftL
  rw [List.eraseIdx_eq_take_drop_succ, List.take_append_of_le_length (by simp; omega), List.take_take, Nat.min_self, List.take_append_drop]

theorem shift_last {L : List (Int × Int)} {i k : Nat} (h : i < L.length) (hk : k + 1 = L.length) : (shiftL L i k).take k = L.eraseIdx i := by
  have hle : (L.eraseIdx i).length = k := by rw [List.length_eraseIdx_of_lt h]; omega
  unfold shiftL
  rw [List.take_of_length_le (by omega : (L.eraseIdx i).length ≤ k), List.take_append_of_le_length (by omega), List.take_of_length_le (by omega)]

theorem shift_len {L : List (Int × Int)} {i k : Nat} (h : i < L.length) (hk : k < L.length) : (shiftL L i k).length = L.length := by
  unfold shiftL
  have hle : (L.eraseIdx i).length = L.length - 1 := List.length_eraseIdx_of_lt h
  simp [hle]; omega

theorem shift_step {L : List (Int × Int)} {i k : Nat} (h : i < L.length) (hik : i ≤ k) (hk : k + 1 < L.length) : ∃ A p q rest, A.length = k ∧ shiftL L i k = A ++ p :: q :: rest ∧ shiftL L i (k + 1) = A ++ q :: q :: rest := by
  have hle : (L.eraseIdx i).length = L.length - 1 := List.length_eraseIdx_of_lt h
  have hg : (L.eraseIdx i)[k]'(by omega) = L[k + 1] := by rw [List.getElem_eraseIdx_of_ge (by omega) hik]
  refine ⟨(L.eraseIdx i).take k, L[k], L[k + 1], L.drop (k + 2), by simp; omega, ?_, ?_⟩
  · unfold shiftL
    rw [List.drop_eq_getElem_cons (by omega : k < L.length), List.drop_eq_getElem_cons hk]
  · unfold shiftL
    rw [List.take_succ_eq_append_getElem (by omega : k < (L.eraseIdx i).length), hg, List.drop_eq_getElem_cons hk]
    simp

theorem flat_cells {A rest : List (Int × Int)} {p q : Int × Int} {Z : List Value} : flatT (A ++ p :: q :: rest) ++ Z = flatT A ++ .int .i64 p.1 :: .int .i64 p.2 :: (.int .i64 q.1 :: .int .i64 q.2 :: (flatT rest ++ Z)) := by
  rw [flatT_app, flatT_cons, flatT_cons]; simp

theorem flat_take {l : List (Int × Int)} {Z : List Value} {k : Nat} (h : k ≤ l.length) : (flatT l ++ Z).take (k * 2) = flatT (l.take k) := by
  have e : flatT l = flatT (l.take k) ++ flatT (l.drop k) := by rw [← flatT_app, List.take_append_drop]
  have hl : (flatT (l.take k)).length = k * 2 := by rw [flatT_len, List.length_take, Nat.min_eq_left h]
  rw [e, List.append_assoc, ← hl, List.take_left']
  rfl

theorem pend_block {w : World} {B : Nat} {g n cap : Nat} {L : List (Int × Int)} (h : w.ownsRow B 62 2 (.slice (some ⟨g, 0, none⟩) n cap) n (flatT L)) : ∃ Z, w.heap[g]? = some (.cells (flatT L ++ Z).toArray 62 (0, 0)) ∧ B ≤ g ∧ n ≤ cap ∧ cap ≤ maxLen ∧ (flatT L ++ Z).length = cap * 2 ∧ (flatT L).length = n * 2 := by
  obtain ⟨hx, h⟩ := h
  rcases h with ⟨h, _⟩ | ⟨g', cap', cur, h, hB, hh, h1, h2, h3, h4⟩
  · simp at h
  · simp only [Value.slice.injEq, Option.some.injEq, Addr.mk.injEq, and_true, true_and] at h
    obtain ⟨rfl, rfl⟩ := h
    refine ⟨cur.toList.drop (n * 2), ?_, hB, h1, h2, ?_, hx⟩
    · rw [← h4, List.take_append_drop]; simpa using hh
    · rw [← h4, List.take_append_drop]; simpa using h3

set_option maxRecDepth 100000 in
set_option maxHeartbeats 2000000 in
theorem pdrop_any (B R : Nat) (now : Int) (g cap : Nat) (L : List (Int × Int)) (i : Nat) (w : World) (h : pendAt w B R now (.slice (some ⟨g, 0, none⟩) L.length cap) L) (hi : i < L.length) (hl : L.length * 16 ≤ 140737488355328) :
    Calls Try.prog 23 #[.pointer (some ⟨R, 0, none⟩), .int .i64 i] w fun e w' => e = .returned (.tuple #[]) ∧ pendAt w' B R now (.slice (some ⟨g, 0, none⟩) (L.length - 1) cap) (L.eraseIdx i) ∧ Same (fun b => b = R ∨ b = g) w w' := by
  obtain ⟨hR, hown⟩ := h
  obtain ⟨Z, hg, hBg, hnc, hcm, hZ, hfl⟩ := pend_block hown
  have hRw : R < w.heap.size := (Array.getElem?_eq_some_iff.1 hR).1
  have hgw : g < w.heap.size := (Array.getElem?_eq_some_iff.1 hg).1
  have hRg : R ≠ g := fun e => by rw [e, hg] at hR; simp at hR
  have HI : Hid (Same (fun b => b = g) w w ∧ w.heap[g]? = some (.cells (flatT (shiftL L i i) ++ Z).toArray 62 (0, 0))) := ⟨⟨rfl, rfl, rfl, Nat.le_refl _, fun _ _ _ => rfl⟩, by rw [shift_first hi]; exact hg⟩
  have HR : Hid (w.heap[R]? = some (.cells #[.int .i64 now, .slice (some ⟨g, 0, none⟩) L.length cap] 39 (0, 0))) := hR
  clear hR hown hg
  go_enter Try.func23, Try.ntmps23
  go_wp2_with fail
  go_loopw [4] (fun K wr => ∃ k : Nat, i ≤ k ∧ k < L.length ∧ K = .int .i64 ((k : Int) + 1) ∧ Hid (Same (fun b => b = g) w wr ∧ wr.heap[g]? = some (.cells (flatT (shiftL L i k) ++ Z).toArray 62 (0, 0)))) (fun K _ => L.length - (intOf K).toNat)
  case atStart => exact ⟨i, Nat.le_refl _, hi, by go_num, HI⟩
  case round =>
    obtain ⟨k, hik, hk, rfl, HK⟩ := hrel
    have hRr : wr.heap[R]? = some (.cells #[.int .i64 now, .slice (some ⟨g, 0, none⟩) L.length cap] 39 (0, 0)) := (HK.out.1.block R hRw hRg).trans HR.out
    obtain ⟨c0, c1⟩ := rw_cells hRr
    have cf := row_free hRr 1
    by_cases hlt : k + 1 < L.length
    · obtain ⟨A, p, q, rest, hA, e1, e2⟩ := shift_step hi hik hlt
      have hblk : wr.heap[g]? = some (.cells (flatT A ++ .int .i64 p.1 :: .int .i64 p.2 :: (.int .i64 q.1 :: .int .i64 q.2 :: (flatT rest ++ Z))).toArray 62 (0, 0)) := by rw [HK.out.2, e1, flat_cells]
      have hAl : (flatT A).length = k * 2 := by rw [flatT_len, hA]
      have q0 : wr.cell? ⟨g, (k + 1) * 2, none⟩ = some (.int .i64 q.1) := row_cell (A := flatT A ++ [.int .i64 p.1, .int .i64 p.2]) (Z := .int .i64 q.2 :: (flatT rest ++ Z)) (by simpa using hblk) (by simp [hAl]; omega)
      have q1 : wr.cell? ⟨g, (k + 1) * 2 + 1, none⟩ = some (.int .i64 q.2) := row_cell (A := flatT A ++ [.int .i64 p.1, .int .i64 p.2, .int .i64 q.1]) (Z := flatT rest ++ Z) (by simpa using hblk) (by simp [hAl]; omega)
      have p0 : wr.cell? ⟨g, k * 2, none⟩ = some (.int .i64 p.1) := row_cell (A := flatT A) hblk hAl
      have p1 : wr.cell? ⟨g, k * 2 + 1, none⟩ = some (.int .i64 p.2) := row_cell (A := flatT A ++ [.int .i64 p.1]) (Z := .int .i64 q.1 :: .int .i64 q.2 :: (flatT rest ++ Z)) (by simpa using hblk) (by simp [hAl])
      have f0 := row_free hblk (k * 2)
      have f1 := row_free hblk (k * 2 + 1)
      have HN : Hid (Same (fun b => b = g) w ((wr.setCell ⟨g, k * 2, none⟩ (.int .i64 q.1)).setCell ⟨g, k * 2 + 1, none⟩ (.int .i64 q.2)) ∧ ((wr.setCell ⟨g, k * 2, none⟩ (.int .i64 q.1)).setCell ⟨g, k * 2 + 1, none⟩ (.int .i64 q.2)).heap[g]? = some (.cells (flatT (shiftL L i (k + 1)) ++ Z).toArray 62 (0, 0))) := by
        refine ⟨⟨HK.out.1.os, HK.out.1.tape, HK.out.1.output, by simpa [World.setCell] using HK.out.1.size, fun b hb hne => ?_⟩, ?_⟩
        · rw [Below.heap_setCell _ ⟨g, k * 2 + 1, none⟩ _ _ hne, Below.heap_setCell _ ⟨g, k * 2, none⟩ _ _ hne]
          exact HK.out.1.block b hb hne
        · rw [row_store2 hblk hAl, e2, flat_cells]
      obtain ⟨q1', q2'⟩ := q
      obtain ⟨p1', p2'⟩ := p
      simp only at q0 q1 p0 p1 HN
      have b0 : (0 : Int) ≤ (k : Int) := by omega
      have b1 : (k : Int) < (L.length : Int) := by omega
      have b2 : (0 : Int) ≤ (k : Int) + 1 := by omega
      have b3 : (k : Int) + 1 < (L.length : Int) := by omega
      clear hblk HK e1 e2
      go_wp2_with fail
      go_region
      go_wp2
      go_roundw
      case rel => exact ⟨k + 1, by omega, by omega, by go_num, ⟨HN.out.1.os, HN.out.1.tape, HN.out.1.output, HN.out.1.size, HN.out.1.block⟩, HN.out.2⟩
      case measure => simp [intOf]; omega
    · go_wp2_with fail
      go_region
      go_end0
      have hkl : k + 1 = L.length := by omega
      obtain ⟨hs, hgr⟩ := HK.out
      have hel : (L.eraseIdx i).length = L.length - 1 := List.length_eraseIdx_of_lt hi
      have hRx : R < wr.heap.size := (Array.getElem?_eq_some_iff.1 hRr).1
      refine ⟨rfl, ⟨?_, ?_, .inr ⟨g, cap, (flatT (shiftL L i k) ++ Z).toArray, by rw [hel], hBg, ?_, by omega, hcm, ?_, ?_⟩⟩, ⟨hs.os, hs.tape, hs.output, ?_, fun b hb hn => ?_⟩⟩
      · exact (Joins.block_setCell hRr _).trans rfl
      · rw [flatT_len]
      · exact (Below.heap_setCell _ ⟨R, 1, none⟩ _ _ (Ne.symm hRg)).trans hgr
      · rw [List.size_toArray, ← hZ, List.length_append, List.length_append, flatT_len, flatT_len, shift_len hi (by omega)]
      · show ((flatT (shiftL L i k) ++ Z).take ((L.eraseIdx i).length * 2)) = _
        rw [hel, show L.length - 1 = k by omega, flat_take (by rw [shift_len hi (by omega)]; omega), shift_last hi hkl]
      · have := hs.size
        simpa [World.setCell] using this
      · exact (Below.heap_setCell _ ⟨R, 1, none⟩ _ _ (fun e => hn (.inl e))).trans (hs.block b hb (fun e => hn (.inr e)))

end Go.Proofs.Ytfhncfghblkgeaa
