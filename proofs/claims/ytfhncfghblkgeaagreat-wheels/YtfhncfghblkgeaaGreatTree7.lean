/-
  The program's trees: Put, Remove, First, Size.
-/
import Derived.Test.YtfhncfghblkgeaaGreatTree6
namespace Go.Proofs.YtfhncfghblkgeaaGreat
open Go.RowKit

/-- A tree that a call leaves in the block x at the place o: all else is as it was. -/
def putAns (w w' : World) (x o : Nat) (C : Array Value) (T : TypeId) (s' : Int) (t : Tr) (L : List Ent) : Prop :=
  ∃ t' : Tr, w'.heap[x]? = some (.cells ((C.setIfInBounds (o + 1) (.int .i64 s')).setIfInBounds o (.pointer t'.addr)) T (0, 0)) ∧ t'.at w' ∧ t'.toL = L ∧ Same (fun b => b = x) w w' ∧ ∀ n, t'.has n → t.has n ∨ w.heap.size ≤ n

theorem Tr.at_set {w : World} {t : Tr} {x i : Nat} {C : Array Value} {T : TypeId} {v : Value} (h : t.at w) (hx : w.heap[x]? = some (.cells C T (0, 0))) (hT : T ≠ 211) : t.at (w.setCell ⟨x, i, none⟩ v) :=
  t.at_keep h (fun n hn => Below.heap_setCell _ ⟨x, i, none⟩ _ _ (fun e => by
    obtain ⟨C', hC⟩ := t.at_type h hn
    have e' : n = x := e
    rw [e', hx] at hC
    simp only [Option.some.injEq, Obj.cells.injEq] at hC
    exact hT hC.2.1))

set_option maxRecDepth 100000 in
set_option maxHeartbeats 2000000 in
theorem put_new (x o : Nat) (C : Array Value) (T : TypeId) (hT : T ≠ 211) (t : Tr) (s k1 k2 v : Int) (w : World) (hx : w.heap[x]? = some (.cells C T (0, 0))) (h0 : C[o]? = some (.pointer t.addr)) (h1 : C[o + 1]? = some (.int .i64 s)) (ht : t.at w) (hs : srt t.toL) (hn : getS (k1, k2) t.toL = none) (hsz : 0 ≤ s ∧ s < 9223372036854775807) :
    Calls Tryz.prog 112 #[.pointer (some ⟨x, o, none⟩), .agg #[.int .i64 k1, .int .i64 k2], .int .i64 v] w fun e w' => e = .returned (.tuple #[]) ∧ putAns w w' x o C T (s + 1) t (insS (k1, k2) v t.toL) := by
  have k0 : w.cell? ⟨x, o, none⟩ = some (.pointer t.addr) := by rw [Joins.cell_of_block hx]; exact h0
  have k1' : w.cell? ⟨x, o + 1, none⟩ = some (.int .i64 s) := by rw [Joins.cell_of_block hx]; exact h1
  have hxw : x < w.heap.size := (Array.getElem?_eq_some_iff.1 hx).1
  have HG : Hid (∀ W, Below w.heap.size w W → Calls Tryz.prog 95 #[.pointer (some ⟨x, o, none⟩), .agg #[.int .i64 k1, .int .i64 k2]] W fun e w' => e = .returned (.tuple #[.int .i64 0, .bool false]) ∧ Below W.heap.size W w') := by
    intro W hW
    have := get_any x o t k1 k2 W ((hW.cell (p := ⟨x, o, none⟩) hxw).trans k0) (t.at_below ht hW) hs
    rw [hn] at this
    exact this
  have HX : Hid (w.heap[x]? = some (.cells C T (0, 0)) ∧ t.at w) := ⟨hx, ht⟩
  clear hx h0 h1 ht hn
  go_enter Tryz.func112, Tryz.ntmps112
  go_wp2_with fail
  refine (HG.out _ (by repeat (first | exact Below.refl _ _ | assumption | refine Below.drew ?_ | refine below_drawn ?_ _ | refine Below.alloc ?_ (by first | exact Nat.le_refl _ | (simp <;> omega)) _))).mono ?_
  rintro e w1 ⟨rfl, b1⟩
  have hb1 : Below w.heap.size w w1 := Below.trans (show Below w.heap.size w _ from (by repeat (first | exact Below.refl _ _ | assumption | refine Below.drew ?_ | refine below_drawn ?_ _ | refine Below.alloc ?_ (by first | exact Nat.le_refl _ | (simp <;> omega)) _))) (b1.mono (by simp))
  have hx1 : w1.heap[x]? = some (.cells C T (0, 0)) := (hb1.block x hxw).trans HX.out.1
  have hk1 : w1.heap[w.heap.size]? = some (.cells #[.int .i64 k1, .int .i64 k2] 178 (0, 0)) := (b1.block _ (by simp)).trans (heap_alloc_new _ _)
  have c0 := (hb1.cell (p := ⟨x, o, none⟩) hxw).trans k0
  have c1 := (hb1.cell (p := ⟨x, o + 1, none⟩) hxw).trans k1'
  have f0 := row_free hx1 o
  have f1 := row_free hx1 (o + 1)
  obtain ⟨q0, q1⟩ := two_cells hk1
  have hne : w.heap.size ≠ x := by omega
  have ht0 : t.at (w1.setCell ⟨x, o + 1, none⟩ (.int .i64 (s + 1))) := t.at_set (t.at_below HX.out.2 hb1) hx1 hT
  have hx0 : (w1.setCell ⟨x, o + 1, none⟩ (.int .i64 (s + 1))).heap[x]? = some (.cells (C.setIfInBounds (o + 1) (.int .i64 (s + 1))) T (0, 0)) := Joins.block_setCell hx1 _
  have hsame : Same (fun b => b = x) w (w1.setCell ⟨x, o + 1, none⟩ (.int .i64 (s + 1))) := ⟨hb1.os, hb1.tape, hb1.output, by simpa [World.setCell] using hb1.size, fun k hk hne => (Below.heap_setCell _ ⟨x, o + 1, none⟩ _ _ hne).trans (hb1.block k hk)⟩
  have hxs : x < (w1.setCell ⟨x, o + 1, none⟩ (.int .i64 (s + 1))).heap.size := (Array.getElem?_eq_some_iff.1 hx0).1
  have HW : Hid (makes 142 #[.pointer t.addr, .agg #[.int .i64 k1, .int .i64 k2, .int .i64 v]] (w1.setCell ⟨x, o + 1, none⟩ (.int .i64 (s + 1))) (w1.setCell ⟨x, o + 1, none⟩ (.int .i64 (s + 1))) (fun n => t.has n) (insS (k1, k2) v t.toL)) :=
    makes_of (Below.refl _ _) (fun W hW => (with_any k1 k2 v t W (t.at_below ht0 hW) hs).mono (by rintro e w' ⟨t', rfl, h⟩; exact ⟨t', rfl, mk_sub h (fun n hn => .inl hn)⟩)) rfl
  have HQ : Hid (∀ w2 t', mk (w1.setCell ⟨x, o + 1, none⟩ (.int .i64 (s + 1))) w2 (fun n => t.has n) (insS (k1, k2) v t.toL) t' → putAns w (w2.setCell ⟨x, o, none⟩ (.pointer t'.addr)) x o C T (s + 1) t (insS (k1, k2) v t.toL) ∧ w2.frozen? ⟨x, o, none⟩ = false ∧ w2.cell? ⟨x, o, none⟩ = some (.pointer t.addr)) := by
    rintro w2 t' ⟨m1, m2, m3, m4⟩
    have hx2 := (m3.block x hxs).trans hx0
    refine ⟨⟨t', Joins.block_setCell hx2 _, t'.at_set m1 hx2 hT, m2, ?_, fun n hn => (m4 n hn).imp id (Nat.le_trans hsame.size)⟩, row_free hx2 o, ?_⟩
    · refine Same.trans hsame (o2 := fun b => b = x) ⟨m3.os, m3.tape, m3.output, by simpa [World.setCell] using m3.size, fun k hk hne => (Below.heap_setCell _ ⟨x, o, none⟩ _ _ hne).trans (m3.block k hk)⟩ (fun k _ e => e.elim id id)
    · rw [m3.cell (p := ⟨x, o, none⟩) hxs, Joins.cell_of_block hx0]
      have : C[o]? = some (.pointer t.addr) := by have := c0; rw [Joins.cell_of_block hx1] at this; exact this
      simpa [Array.getElem?_setIfInBounds] using this
  clear k0 k1' b1 ht0 hx0 hsame hxs HG hs
  go_wp2_with fail
  go_region_with (first | (go_at_call 142; refine (HW.out _ (by repeat (first | exact Below.refl _ _ | assumption | refine Below.drew ?_ | refine below_drawn ?_ _ | refine Below.alloc ?_ (by first | exact Nat.le_refl _ | (simp <;> omega)) _))).mono ?_; rintro e w2 ⟨t', rfl, m, b⟩; obtain ⟨HA, fz, cz⟩ := HQ.out _ _ m))
  all_goals (go_end0; exact ⟨rfl, HA⟩)

set_option maxRecDepth 100000 in
set_option maxHeartbeats 2000000 in
theorem remove_old (x o : Nat) (C : Array Value) (T : TypeId) (hT : T ≠ 211) (t : Tr) (s k1 k2 u : Int) (w : World) (hx : w.heap[x]? = some (.cells C T (0, 0))) (h0 : C[o]? = some (.pointer t.addr)) (h1 : C[o + 1]? = some (.int .i64 s)) (ht : t.at w) (hs : srt t.toL) (hn : getS (k1, k2) t.toL = some u) (hsz : 1 ≤ s ∧ s < 9223372036854775807) :
    Calls Tryz.prog 143 #[.pointer (some ⟨x, o, none⟩), .agg #[.int .i64 k1, .int .i64 k2]] w fun e w' => e = .returned (.tuple #[]) ∧ putAns w w' x o C T (s - 1) t (delS (k1, k2) t.toL) := by
  have k0 : w.cell? ⟨x, o, none⟩ = some (.pointer t.addr) := by rw [Joins.cell_of_block hx]; exact h0
  have k1' : w.cell? ⟨x, o + 1, none⟩ = some (.int .i64 s) := by rw [Joins.cell_of_block hx]; exact h1
  have hxw : x < w.heap.size := (Array.getElem?_eq_some_iff.1 hx).1
  have HG : Hid (∀ W, Below w.heap.size w W → Calls Tryz.prog 95 #[.pointer (some ⟨x, o, none⟩), .agg #[.int .i64 k1, .int .i64 k2]] W fun e w' => e = .returned (.tuple #[.int .i64 u, .bool true]) ∧ Below W.heap.size W w') := by
    intro W hW
    have := get_any x o t k1 k2 W ((hW.cell (p := ⟨x, o, none⟩) hxw).trans k0) (t.at_below ht hW) hs
    rw [hn] at this
    exact this
  have HX : Hid (w.heap[x]? = some (.cells C T (0, 0)) ∧ t.at w) := ⟨hx, ht⟩
  clear hx h0 h1 ht hn
  go_enter Tryz.func143, Tryz.ntmps143
  go_wp2_with fail
  refine (HG.out _ (by repeat (first | exact Below.refl _ _ | assumption | refine Below.drew ?_ | refine below_drawn ?_ _ | refine Below.alloc ?_ (by first | exact Nat.le_refl _ | (simp <;> omega)) _))).mono ?_
  rintro e w1 ⟨rfl, b1⟩
  have hb1 : Below w.heap.size w w1 := Below.trans (show Below w.heap.size w _ from (by repeat (first | exact Below.refl _ _ | assumption | refine Below.drew ?_ | refine below_drawn ?_ _ | refine Below.alloc ?_ (by first | exact Nat.le_refl _ | (simp <;> omega)) _))) (b1.mono (by simp))
  have hx1 : w1.heap[x]? = some (.cells C T (0, 0)) := (hb1.block x hxw).trans HX.out.1
  have hk1 : w1.heap[w.heap.size]? = some (.cells #[.int .i64 k1, .int .i64 k2] 178 (0, 0)) := (b1.block _ (by simp)).trans (heap_alloc_new _ _)
  have c0 := (hb1.cell (p := ⟨x, o, none⟩) hxw).trans k0
  have c1 := (hb1.cell (p := ⟨x, o + 1, none⟩) hxw).trans k1'
  have f0 := row_free hx1 o
  have f1 := row_free hx1 (o + 1)
  obtain ⟨q0, q1⟩ := two_cells hk1
  have hne : w.heap.size ≠ x := by omega
  have ht0 : t.at (w1.setCell ⟨x, o + 1, none⟩ (.int .i64 (s - 1))) := t.at_set (t.at_below HX.out.2 hb1) hx1 hT
  have hx0 : (w1.setCell ⟨x, o + 1, none⟩ (.int .i64 (s - 1))).heap[x]? = some (.cells (C.setIfInBounds (o + 1) (.int .i64 (s - 1))) T (0, 0)) := Joins.block_setCell hx1 _
  have hsame : Same (fun b => b = x) w (w1.setCell ⟨x, o + 1, none⟩ (.int .i64 (s - 1))) := ⟨hb1.os, hb1.tape, hb1.output, by simpa [World.setCell] using hb1.size, fun k hk hne => (Below.heap_setCell _ ⟨x, o + 1, none⟩ _ _ hne).trans (hb1.block k hk)⟩
  have hxs : x < (w1.setCell ⟨x, o + 1, none⟩ (.int .i64 (s - 1))).heap.size := (Array.getElem?_eq_some_iff.1 hx0).1
  have HW : Hid (makes 166 #[.pointer t.addr, .agg #[.int .i64 k1, .int .i64 k2]] (w1.setCell ⟨x, o + 1, none⟩ (.int .i64 (s - 1))) (w1.setCell ⟨x, o + 1, none⟩ (.int .i64 (s - 1))) (fun n => t.has n) (delS (k1, k2) t.toL)) :=
    makes_of (Below.refl _ _) (fun W hW => (without_any t k1 k2 W (t.at_below ht0 hW) hs).mono (by rintro e w' ⟨t', rfl, h⟩; exact ⟨t', rfl, mk_sub h (fun n hn => .inl hn)⟩)) rfl
  have HQ : Hid (∀ w2 t', mk (w1.setCell ⟨x, o + 1, none⟩ (.int .i64 (s - 1))) w2 (fun n => t.has n) (delS (k1, k2) t.toL) t' → putAns w (w2.setCell ⟨x, o, none⟩ (.pointer t'.addr)) x o C T (s - 1) t (delS (k1, k2) t.toL) ∧ w2.frozen? ⟨x, o, none⟩ = false ∧ w2.cell? ⟨x, o, none⟩ = some (.pointer t.addr)) := by
    rintro w2 t' ⟨m1, m2, m3, m4⟩
    have hx2 := (m3.block x hxs).trans hx0
    refine ⟨⟨t', Joins.block_setCell hx2 _, t'.at_set m1 hx2 hT, m2, ?_, fun n hn => (m4 n hn).imp id (Nat.le_trans hsame.size)⟩, row_free hx2 o, ?_⟩
    · refine Same.trans hsame (o2 := fun b => b = x) ⟨m3.os, m3.tape, m3.output, by simpa [World.setCell] using m3.size, fun k hk hne => (Below.heap_setCell _ ⟨x, o, none⟩ _ _ hne).trans (m3.block k hk)⟩ (fun k _ e => e.elim id id)
    · rw [m3.cell (p := ⟨x, o, none⟩) hxs, Joins.cell_of_block hx0]
      have : C[o]? = some (.pointer t.addr) := by have := c0; rw [Joins.cell_of_block hx1] at this; exact this
      simpa [Array.getElem?_setIfInBounds] using this
  clear k0 k1' b1 ht0 hx0 hsame hxs HG hs
  go_wp2_with fail
  go_region_with (first | (go_at_call 166; refine (HW.out _ (by repeat (first | exact Below.refl _ _ | assumption | refine Below.drew ?_ | refine below_drawn ?_ _ | refine Below.alloc ?_ (by first | exact Nat.le_refl _ | (simp <;> omega)) _))).mono ?_; rintro e w2 ⟨t', rfl, m, b⟩; obtain ⟨HA, fz, cz⟩ := HQ.out _ _ m))
  all_goals (go_end0; exact ⟨rfl, HA⟩)

set_option maxHeartbeats 1000000 in
theorem size_any (x o : Nat) (s : Int) (w : World) (h : w.cell? ⟨x, o + 1, none⟩ = some (.int .i64 s)) :
    Calls Tryz.prog 94 #[.pointer (some ⟨x, o, none⟩)] w fun e w' => e = .returned (.int .i64 s) ∧ Below w.heap.size w w' := by
  go_enter Tryz.func94, Tryz.ntmps94
  go_wp2
  go_ret
  exact ⟨rfl, (by repeat (first | exact Below.refl _ _ | assumption | refine Below.drew ?_ | refine below_drawn ?_ _ | refine Below.alloc ?_ (by first | exact Nat.le_refl _ | (simp <;> omega)) _))⟩

set_option maxRecDepth 100000 in
set_option maxHeartbeats 1000000 in
theorem first_any (x o : Nat) (t : Tr) (w : World) (h0 : w.cell? ⟨x, o, none⟩ = some (.pointer t.addr)) (ht : t.at w) :
    Calls Tryz.prog 117 #[.pointer (some ⟨x, o, none⟩)] w fun e w' => e = .returned (.tuple #[.agg #[.int .i64 (fstE t).1.1, .int .i64 (fstE t).1.2, .int .i64 (fstE t).2], .bool (decide (t.toL ≠ []))]) ∧ Below w.heap.size w w' := by
  have hxw : x < w.heap.size := World.block_lt_of_cell? w _ h0
  cases t with
  | leaf =>
    simp only [Tr.addr_leaf] at h0
    go_enter Tryz.func117, Tryz.ntmps117
    go_wp2
    exact bodyPost_ret (v := .tuple #[.agg #[.int .i64 0, .int .i64 0, .int .i64 0], .bool false]) (by simp [results, Tryz.results117, go_sem]) rfl ⟨by simp [fstE, Tr.toL], (by repeat (first | exact Below.refl _ _ | assumption | refine Below.drew ?_ | refine below_drawn ?_ _ | refine Below.alloc ?_ (by first | exact Nat.le_refl _ | (simp <;> omega)) _))⟩
  | node p l k v h r =>
    have HF : Hid (∀ W, Below w.heap.size w W → Calls Tryz.prog 144 #[.pointer (some ⟨p, 0, none⟩)] W fun e w' => e = .returned (.agg #[.int .i64 (fstE (.node p l k v h r)).1.1, .int .i64 (fstE (.node p l k v h r)).1.2, .int .i64 (fstE (.node p l k v h r)).2]) ∧ Below W.heap.size W w') := fun W hW => firstOf_any p l r k v h W (Tr.at_below ht hW)
    simp only [Tr.addr_node] at h0
    clear ht
    have hd : decide ((Tr.node p l k v h r).toL ≠ []) = true := by simp [Tr.toL]
    rw [hd]
    clear hd
    generalize fstE (.node p l k v h r) = F at HF
    obtain ⟨⟨a1, a2⟩, av⟩ := F
    simp only at HF
    go_enter Tryz.func117, Tryz.ntmps117
    go_wp2_with fail
    refine (HF.out _ (by repeat (first | exact Below.refl _ _ | assumption | refine Below.drew ?_ | refine below_drawn ?_ _ | refine Below.alloc ?_ (by first | exact Nat.le_refl _ | (simp <;> omega)) _))).mono ?_
    rintro e w1 ⟨rfl, b1⟩
    have n0 : w1.heap[w.heap.size]? = some (.cells #[.int .i64 0, .int .i64 0, .int .i64 0] 202 (0, 0)) := (b1.block _ (by simp)).trans (heap_alloc_new w _)
    obtain ⟨r0, r1, r2⟩ := three_cells n0
    have f0 := row_free n0 0
    have f1 := row_free n0 1
    have f2 := row_free n0 2
    have w01 : Below w.heap.size w w1 := ((Below.refl _ _).alloc (Nat.le_refl _) _).trans (b1.mono (by simp))
    go_wp2
    refine bodyPost_ret (v := .tuple #[.agg #[.int .i64 a1, .int .i64 a2, .int .i64 av], .bool true]) (by simp [results, Tryz.results117, go_sem, r0, r1, r2]) rfl ⟨rfl, ?_⟩
    exact ((w01.setCell (p := ⟨w.heap.size, 0, none⟩) (Nat.le_refl _) _).setCell (p := ⟨w.heap.size, 1, none⟩) (Nat.le_refl _) _).setCell (p := ⟨w.heap.size, 2, none⟩) (Nat.le_refl _) _

end Go.Proofs.YtfhncfghblkgeaaGreat
