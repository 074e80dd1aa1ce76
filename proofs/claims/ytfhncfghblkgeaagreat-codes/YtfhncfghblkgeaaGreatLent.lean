/-
  The walk: lent.
-/
import Derived.Test.YtfhncfghblkgeaaGreatRows2
namespace Go.Proofs.YtfhncfghblkgeaaGreat
open Go.RowKit

theorem Tryz.infoTier : (Tryz.prog.info? 137).map (fun i => (i.zero, i.size, i.bytes)) = some (some (.agg #[.int .i64 0, .int .i64 0]), 2, 16) := by kernel_rfl
theorem Tryz.sizeTier : (Tryz.prog.info? 137).map (·.size) = some 2 := by kernel_rfl

set_option maxHeartbeats 400000 in
theorem lent_nil (n0 n1 n2 n3 n4 n5 n6 : Int) (w : World) :
    Calls Tryz.prog 83 #[.agg #[.int .i64 n0, .int .i64 n1, .int .i64 n2, .int .i64 n3, .int .i64 n4, .int .i64 n5, .int .i64 n6, .slice none 0 0]] w fun e w' => e = .returned (.agg #[.int .i64 n0, .int .i64 n1, .int .i64 n2, .int .i64 n3, .int .i64 n4, .int .i64 n5, .int .i64 n6, .slice none 0 0]) ∧ Below w.heap.size w w' := by
  have hq : ∀ w', (binOp .eql 27 (.slice none 0 0) (.slice none 0 0)).run Tryz.prog w' = .ok (.bool true) w' := fun w' => Lib.run_eql_slice_nil w' 27 137 none 0 0 0 0 Tryz.underlying27
  go_enter Tryz.func83, Tryz.ntmps83
  go_wp2
  exact bodyPost_ret (v := .agg #[.int .i64 n0, .int .i64 n1, .int .i64 n2, .int .i64 n3, .int .i64 n4, .int .i64 n5, .int .i64 n6, .slice none 0 0]) (by simp [results, Tryz.results83, go_sem]) rfl ⟨rfl, by repeat (first | exact Below.refl _ _ | refine Below.drew ?_ | refine Below.alloc ?_ (by first | exact Nat.le_refl _ | (simp <;> omega)) _)⟩

/-- The cells of what lent hands out: the tiers, and eight more in the room behind. -/
def lentRow (ts : List (Int × Int)) : List (Int × Int) := ts ++ List.replicate 8 (77, 77)

set_option maxRecDepth 100000 in
set_option maxHeartbeats 2000000 in
theorem lent_some (n0 n1 n2 n3 n4 n5 n6 : Int) (x : Addr) (len cap : Nat) (ts : List (Int × Int)) (w : World) (h : tiersAt w (some x) len cap ts) :
    Calls Tryz.prog 83 #[.agg #[.int .i64 n0, .int .i64 n1, .int .i64 n2, .int .i64 n3, .int .i64 n4, .int .i64 n5, .int .i64 n6, .slice (some x) len cap]] w fun e w' => ∃ g, e = .returned (.agg #[.int .i64 n0, .int .i64 n1, .int .i64 n2, .int .i64 n3, .int .i64 n4, .int .i64 n5, .int .i64 n6, .slice (some ⟨g, 0, none⟩) len (len + 8)]) ∧ w.heap.size ≤ g ∧ w'.heap[g]? = some (.cells (flatT (lentRow ts)).toArray 137 (0, 0)) ∧ Below w.heap.size w w' := by
  have hq : ∀ w', (binOp .eql 27 (.slice (some x) len cap) (.slice none 0 0)).run Tryz.prog w' = .ok (.bool false) w' := fun w' => Lib.run_eql_slice_nil w' 27 137 (some x) len cap 0 0 Tryz.underlying27
  obtain ⟨i0, hi, hz0, hz1, hz2⟩ := info_parts Tryz.infoTier
  have HT : Hid (tiersAt w (some x) len cap ts) := h
  have hlen : len * 16 ≤ 140737488355328 := by have := h.2.1; have := h.2.2.1; omega
  have hts : Hid (ts.length = len) := h.1
  clear h
  go_enter Tryz.func83, Tryz.ntmps83
  go_wp2_with (at_make; refine wpList_make_full _ rfl _ _ 27 rfl w.heap.size 137 i0 (.agg #[.int .i64 0, .int .i64 0]) 2 Tryz.underlying27 hi hz0 hz1 .i64 .i64 _ _ (len + 8) rfl rfl (by simp) (by simp) (by rw [hz2]; omega) (by unfold maxLen; omega) (by simp <;> omega) ?_)
  intro w1 hown hgrow
  have hW : Hid (w1.heap[w.heap.size]? = some (.cells #[.int .i64 n0, .int .i64 n1, .int .i64 n2, .int .i64 n3, .int .i64 n4, .int .i64 n5, .int .i64 n6, .slice (some x) len cap] 29 (0, 0)) ∧ w1.heap[w.heap.size + 1]? = some (.cells #[.int .i64 0, .int .i64 0, .int .i64 0, .int .i64 0, .int .i64 0, .int .i64 0, .int .i64 0, .slice none 0 0] 29 (0, 0))) := by
    constructor
    · rw [hgrow.block w.heap.size (by simp <;> omega) (by simp), Below.heap_alloc _ _ _ (by simp)]
      exact heap_alloc_new w _
    · rw [hgrow.block (w.heap.size + 1) (by simp) (by simp)]
      have := heap_alloc_new (w.alloc (.cells #[.int .i64 n0, .int .i64 n1, .int .i64 n2, .int .i64 n3, .int .i64 n4, .int .i64 n5, .int .i64 n6, .slice (some x) len cap] 29)) (.cells #[.int .i64 0, .int .i64 0, .int .i64 0, .int .i64 0, .int .i64 0, .int .i64 0, .int .i64 0, .slice none 0 0] 29)
      simpa using this
  have w01 : Below w.heap.size w w1 := Below.grown (by repeat (first | exact Below.refl _ _ | refine Below.drew ?_ | refine Below.alloc ?_ (by first | exact Nat.le_refl _ | (simp <;> omega)) _)) hgrow (by simp <;> omega) (fun k hk => by simp at hk)
  obtain ⟨cur, hcur, hcs⟩ : ∃ cur : Array Value, w1.heap[w.heap.size + 1 + 1]? = some (.cells cur 137 (0, 0)) ∧ cur.size = (len + 8) * 2 := by
    rcases hown.2 with ⟨h0, _⟩ | ⟨g, c, cur, hv, _, hh, _, _, hs, _⟩
    · simp at h0
    · simp at hv
      obtain ⟨rfl, rfl⟩ := hv
      exact ⟨cur, hh, hs⟩
  have HC : Hid (w1.heap[w.heap.size + 1 + 1]? = some (.cells cur 137 (0, 0))) := hcur
  obtain ⟨k0, k1, k2, k3, k4, k5, k6, k7, kf⟩ := cells8 hW.out.1
  clear hcur hown hgrow
  have HT1 : Hid (tiersAt w1 (some x) len cap ts) := HT.out.below w01 (Nat.le_refl _)
  obtain ⟨w2, hcopy, hrow2, hg2⟩ : ∃ w2, (Builtin.copy_ #[27, 27] 3 #[.slice (some ⟨w.heap.size + 1 + 1, 0, none⟩) (len + 8) (len + 8), .slice (some x) len cap]).run Tryz.prog w1 = .ok (goInt len) w2 ∧ w2.heap[w.heap.size + 1 + 1]? = some (.cells (flatT ts ++ cur.toList.drop (flatT ts).length).toArray 137 (0, 0)) ∧ w1.grownBy w2 (some (w.heap.size + 1 + 1)) := by
    have hmin : Nat.min len (len + 8) = len := Nat.min_eq_left (by omega)
    have hr := run_copy_sized (P := Tryz.prog) w1 27 27 3 137 2 (w.heap.size + 1 + 1) (len + 8) (len + 8) x len cap cur 137 (flatT ts) Tryz.underlying27 Tryz.sizeTier HC.out (by rw [flatT_len, hts.out, hmin]) (tiers_src HT1.out) (by rw [flatT_len, hts.out, hcs]; omega) (flatT_one ts)
    rw [hmin] at hr
    exact ⟨_, hr, setRow_heap w1 _ cur _ _ _ HC.out, ⟨rfl, rfl, rfl, by simp [World.setRow], fun k _ hk => setRow_other w1 _ k _ (fun e => hk (by simp [e]))⟩⟩
  have HR2 : Hid (w2.heap[w.heap.size + 1 + 1]? = some (.cells (flatT (ts ++ List.replicate 0 (77, 77)) ++ cur.toList.drop (flatT ts).length).toArray 137 (0, 0))) := by simpa [Hid] using hrow2
  have HZ : Hid ((cur.toList.drop (flatT ts).length).length = (8 - 0) * 2) := by unfold Hid; rw [List.length_drop, Array.length_toList, hcs, flatT_len, hts.out]; omega
  generalize cur.toList.drop (flatT ts).length = Z0 at HR2 HZ
  have w12 : Below (w.heap.size + 1 + 1) w1 w2 := (Below.refl _ _).grown hg2 (by have := (Array.getElem?_eq_some_iff.1 HC.out).1; omega) (fun k hk => by simp at hk; omega)
  clear hrow2 hg2
  go_wp2_with fail
  go_loopw [5] (fun i wr => ∃ (j : Nat) (Z : List Value), j ≤ 8 ∧ i = .int .i64 ((len : Int) + j) ∧ Hid (Z.length = (8 - j) * 2) ∧ Hid (wr.heap[w.heap.size + 1 + 1]? = some (.cells (flatT (ts ++ List.replicate j (77, 77)) ++ Z).toArray 137 (0, 0))) ∧ Below (w.heap.size + 1 + 1) w1 wr) (fun i _ => len + 8 - (intOf i).toNat)
  case atStart => exact ⟨0, Z0, by omega, by simp, HZ, HR2, w12⟩
  case round =>
    obtain ⟨j, Z, hj, rfl, hZ, hrow, hbel⟩ := hrel
    by_cases hlt : j < 8
    · obtain ⟨z0, z1, Z', rfl, hZ'⟩ := next_two hZ.out hlt
      have hA : (flatT (ts ++ List.replicate j (77, 77))).length = (len + j) * 2 := by rw [flatT_len]; simp [hts.out]
      have d0 := row_cell hrow.out hA
      have d1 : wr.cell? ⟨w.heap.size + 1 + 1, (len + j) * 2 + 1, none⟩ = some z1 := row_cell (A := flatT (ts ++ List.replicate j (77, 77)) ++ [z0]) (by rw [hrow.out, List.append_assoc]; rfl) (by simp [hA])
      have df := row_free hrow.out
      have HR : Hid (∀ v0 v1 : Value, ((wr.setCell ⟨w.heap.size + 1 + 1, (len + j) * 2, none⟩ v0).setCell ⟨w.heap.size + 1 + 1, (len + j) * 2 + 1, none⟩ v1).heap[w.heap.size + 1 + 1]? = some (.cells (flatT (ts ++ List.replicate j (77, 77)) ++ v0 :: v1 :: Z').toArray 137 (0, 0))) := fun v0 v1 => row_store2 hrow.out hA v0 v1
      clear hrow hZ hA
      go_wp2
      go_roundw
      case rel =>
        refine ⟨j + 1, Z', by omega, by go_num, hZ', ?_, (hbel.setCell (p := ⟨w.heap.size + 1 + 1, (len + j) * 2, none⟩) (Nat.le_refl _) _).setCell (p := ⟨w.heap.size + 1 + 1, (len + j) * 2 + 1, none⟩) (Nat.le_refl _) _⟩
        have e : flatT (ts ++ List.replicate (j + 1) (77, 77)) ++ Z' = flatT (ts ++ List.replicate j (77, 77)) ++ .int .i64 77 :: .int .i64 77 :: Z' := by
          rw [List.replicate_succ', ← List.append_assoc, flatT_app (ts ++ _) [(77, 77)], List.append_assoc]; rfl
        unfold Hid
        rw [e]
        exact HR.out _ _
      case measure => simp [intOf]; omega
    · have hj8 : j = 8 := by omega
      subst hj8
      have hZ0 : Z = [] := List.eq_nil_of_length_eq_zero hZ.out
      subst hZ0
      have HROW : Hid (wr.heap[w.heap.size + 1 + 1]? = some (.cells (flatT (lentRow ts)).toArray 137 (0, 0))) := by have := hrow.out; rw [List.append_nil] at this; exact this
      obtain ⟨q0, q1, q2, q3, q4, q5, q6, q7, qf⟩ := cells8 ((hbel.block w.heap.size (by omega)).trans hW.out.1)
      obtain ⟨r0, r1, r2, r3, r4, r5, r6, r7, rf⟩ := cells8 ((hbel.block (w.heap.size + 1) (by omega)).trans hW.out.2)
      have hb0 : Below w.heap.size w wr := w01.trans (hbel.mono (by omega))
      clear k0 k1 k2 k3 k4 k5 k6 k7 kf hrow hZ
      go_wp2
      refine bodyPost_ret (v := .agg #[.int .i64 n0, .int .i64 n1, .int .i64 n2, .int .i64 n3, .int .i64 n4, .int .i64 n5, .int .i64 n6, .slice (some ⟨w.heap.size + 1 + 1, 0, none⟩) len (len + 8)]) (by simp [results, Tryz.results83, go_sem, r0, r1, r2, r3, r4, r5, r6, r7]) rfl ⟨w.heap.size + 1 + 1, rfl, by omega, ?_, ?_⟩
      · rw [other_set8 (by omega), Below.heap_setCell _ ⟨w.heap.size, 7, none⟩ _ _ (by show w.heap.size + 1 + 1 ≠ w.heap.size; omega)]
        exact HROW.out
      · exact below_set8 (hb0.setCell (p := ⟨w.heap.size, 7, none⟩) (Nat.le_refl _) _) (by omega)

end Go.Proofs.YtfhncfghblkgeaaGreat
