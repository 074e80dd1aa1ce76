/-
  The program's timers: Set, Unset, First, Size. (Written by wheelgen.py.)
-/
import Derived.Test.YtfhncfghblkgeaaGreatWheel1
namespace Go.Proofs.YtfhncfghblkgeaaGreat
open Go.RowKit

theorem five_cell {w : World} {R : Nat} {c0 c1 c2 c3 c4 : Value} {T : TypeId} (h : w.heap[R]? = some (.cells #[c0, c1, c2, c3, c4] T (0, 0))) : w.cell? ⟨R, 0, none⟩ = some c0 := by rw [Joins.cell_of_block h]; rfl

set_option maxRecDepth 100000 in
set_option maxHeartbeats 2000000 in
theorem set_arg (x : Nat) (now id a : Int) (w : World) (h0 : w.cell? ⟨x, 0, none⟩ = some (.int .i64 now)) (ha : a ≤ now) :
    Calls Tryz.prog 75 #[.pointer (some ⟨x, 0, none⟩), .int .i64 id, .int .i64 a] w fun e w' => e = .returned (.int .i64 3) ∧ w = w' := by
  go_enter Tryz.func75, Tryz.ntmps75
  go_wp2
  go_ret
  exact ⟨rfl, rfl⟩

set_option maxRecDepth 100000 in
set_option maxHeartbeats 4000000 in
theorem set_walk (x : Nat) (now id a v : Int) (taken : Bool) (w : World) (Q1 : World → Prop) (Q2 : World → Prop) (h0 : w.cell? ⟨x, 0, none⟩ = some (.int .i64 now)) (ha : ¬ a ≤ now)
    (HI : Hid (∀ W, Below w.heap.size w W → Calls Tryz.prog 111 #[.int .i64 id] W fun e w' => e = .returned (.agg #[.int .i64 id, .int .i64 0]) ∧ Below W.heap.size W w'))
    (HT : Hid (∀ W, Calls Tryz.prog 113 #[.int .i64 id, .int .i64 a] W fun e w' => e = .returned (.agg #[.int .i64 a, .int .i64 id]) ∧ Below W.heap.size W w'))
    (HG : Hid (∀ W, Below w.heap.size w W → Calls Tryz.prog 95 #[.pointer (some ⟨x, 1, none⟩), .agg #[.int .i64 id, .int .i64 0]] W fun e w' => e = .returned (.tuple #[.int .i64 v, .bool taken]) ∧ Below W.heap.size W w'))
    (HP1 : Hid (taken = false → ∀ W, Below w.heap.size w W → Calls Tryz.prog 112 #[.pointer (some ⟨x, 1, none⟩), .agg #[.int .i64 id, .int .i64 0], .int .i64 a] W fun e w' => e = .returned (.tuple #[]) ∧ Q1 w'))
    (HP2 : Hid (taken = false → ∀ w2, Q1 w2 → ∀ W, Below w2.heap.size w2 W → Calls Tryz.prog 112 #[.pointer (some ⟨x, 3, none⟩), .agg #[.int .i64 a, .int .i64 id], .int .i64 0] W fun e w' => e = .returned (.tuple #[]) ∧ Q2 w')) :
    Calls Tryz.prog 75 #[.pointer (some ⟨x, 0, none⟩), .int .i64 id, .int .i64 a] w fun e w' => (taken = true ∧ e = .returned (.int .i64 4) ∧ Below w.heap.size w w') ∨ (taken = false ∧ e = .returned (.int .i64 0) ∧ Q2 w') := by
  have ha' : decide (a ≤ now) = false := by simpa using ha
  go_enter Tryz.func75, Tryz.ntmps75
  go_wp2_with fail
  go_region_held3 (fun _ => True) (trivial) (first
    | (go_at_call 111; refine (HI.out _ (by repeat (first | exact Below.refl _ _ | assumption | refine Below.drew ?_ | refine below_drawn ?_ _ | refine Below.alloc ?_ (by first | exact Nat.le_refl _ | (simp <;> omega)) _))).mono ?_; rintro e w1 ⟨rfl, b1⟩
       have hb1 : Below w.heap.size w w1 := Below.trans (show Below w.heap.size w _ from (by repeat (first | exact Below.refl _ _ | assumption | refine Below.drew ?_ | refine below_drawn ?_ _ | refine Below.alloc ?_ (by first | exact Nat.le_refl _ | (simp <;> omega)) _))) (b1.mono (by simp)))
    | (go_at_call 95; refine (HG.out _ (by repeat (first | exact Below.refl _ _ | assumption | refine Below.drew ?_ | refine below_drawn ?_ _ | refine Below.alloc ?_ (by first | exact Nat.le_refl _ | (simp <;> omega)) _))).mono ?_; rintro e w2 ⟨rfl, b2⟩))
  have hb2 : Below w.heap.size w w2 := Below.trans (show Below w.heap.size w _ from (by repeat (first | exact Below.refl _ _ | assumption | refine Below.drew ?_ | refine below_drawn ?_ _ | refine Below.alloc ?_ (by first | exact Nat.le_refl _ | (simp <;> omega)) _))) (b2.mono (by have := hb1.size; simp <;> omega))
  clear b2 hb1 b1
  cases taken
  · go_wp2_with fail
    go_region_held3 (fun _ => True) (trivial) (first
      | (go_at_call 111; refine (HI.out _ (by repeat (first | exact Below.refl _ _ | assumption | refine Below.drew ?_ | refine below_drawn ?_ _ | refine Below.alloc ?_ (by first | exact Nat.le_refl _ | (simp <;> omega)) _))).mono ?_; rintro e w3 ⟨rfl, b3⟩
         have hb3 : Below w.heap.size w w3 := Below.trans (show Below w.heap.size w _ from (by repeat (first | exact Below.refl _ _ | assumption | refine Below.drew ?_ | refine below_drawn ?_ _ | refine Below.alloc ?_ (by first | exact Nat.le_refl _ | (simp <;> omega)) _))) (b3.mono (by have := hb2.size; simp <;> omega)))
      | (go_at_call 112; refine (HP1.out (by trivial) _ (by repeat (first | exact Below.refl _ _ | assumption | refine Below.drew ?_ | refine below_drawn ?_ _ | refine Below.alloc ?_ (by first | exact Nat.le_refl _ | (simp <;> omega)) _))).mono ?_; rintro e w4 ⟨rfl, q1⟩))
    go_wp2_with fail
    go_region_held3 (fun _ => True) (trivial) (first
      | (go_at_call 113; refine (HT.out _).mono ?_; rintro e w5 ⟨rfl, b5⟩
         have hb5 : Below w4.heap.size w4 w5 := Below.trans (show Below w4.heap.size w4 _ from (by repeat (first | exact Below.refl _ _ | assumption | refine Below.drew ?_ | refine below_drawn ?_ _ | refine Below.alloc ?_ (by first | exact Nat.le_refl _ | (simp <;> omega)) _))) (b5.mono (by simp)))
      | (go_at_call 112; refine (HP2.out (by trivial) _ q1 _ (by repeat (first | exact Below.refl _ _ | assumption | refine Below.drew ?_ | refine below_drawn ?_ _ | refine Below.alloc ?_ (by first | exact Nat.le_refl _ | (simp <;> omega)) _))).mono ?_; rintro e w6 ⟨rfl, q2⟩))
    go_wp2
    go_ret
    exact ⟨rfl, q2⟩
  · go_wp2
    go_ret
    exact ⟨rfl, hb2⟩

theorem pwW_same {w w' : World} {x : Nat} {own : Nat → Prop} {now : Int} {L : List (Int × Int)} (h : pwW w x own now L) (hb : Below w.heap.size w w') : pwAns pwW w w' x own now L :=
  ⟨own, pwW_keep h hb.size (fun k hk => hb.block k (pwW_lt h k hk)), Same.of_below hb, fun _ hk => .inl hk⟩

theorem set_any {w : World} {x : Nat} {own : Nat → Prop} {now : Int} {L : List (Int × Int)} (id a : Int) (h : pwW w x own now L) (hl : L.length * 16 + 16 ≤ 140737488351232) :
    Calls Tryz.prog 75 #[.pointer (some ⟨x, 0, none⟩), .int .i64 id, .int .i64 a] w fun e w' => e = .returned (.int .i64 (setE now L id a)) ∧ pwAns pwW w w' x own now (setL now L id a) := by
  have hpw := h
  obtain ⟨ti, tt, h1, ⟨h2, h2'⟩, ⟨h3, h3'⟩, ⟨h4, h4'⟩, h5, h6, h7⟩ := h
  have hxw : x < w.heap.size := (Array.getElem?_eq_some_iff.1 h1).1
  by_cases ha : a ≤ now
  · refine (set_arg x now id a w (five_cell h1) ha).mono ?_
    rintro e w' ⟨rfl, rfl⟩
    simp only [setE, setL, if_pos ha]
    exact ⟨trivial, pwW_same hpw (Below.refl _ _)⟩
  · refine (set_walk x now id a ((getS (id, 0) ti.toL).getD 0) (getS (id, 0) ti.toL).isSome w (fun w2 => putAns w w2 x 1 #[.int .i64 now, .pointer ti.addr, .int .i64 L.length, .pointer tt.addr, .int .i64 L.length] 170 ((L.length : Int) + 1) ti (insS (id, 0) a ti.toL)) (fun w' => pwAns pwW w w' x own now (L ++ [(a, id)])) (five_cell h1) ha
      (fun W _ => idKey_any id W) (fun W => turnKey_any id a W) (fun W hb => ?_) (fun ht W hb => ?_) (fun ht w2 A1 W hb => ?_)).mono ?_
    · exact get_any x 1 ti id 0 W (by rw [Joins.cell_of_block ((hb.block x hxw).trans h1)]; rfl) (ti.at_below h2 hb) h3
    · have hn : getS (id, 0) ti.toL = none := by simpa using ht
      have hxW := (hb.block x hxw).trans h1
      exact (put_new x 1 _ _ (by decide) ti L.length id 0 a W hxW rfl rfl (ti.at_below h2 hb) h3 hn (by omega)).mono (by rintro e w' ⟨rfl, A⟩; exact ⟨rfl, putAns_lift A hb⟩)
    · have hn : getS (id, 0) ti.toL = none := by simpa using ht
      have hno := (ids_none h4).1 hn
      obtain ⟨ti', a1, a2, a3, a4, a5⟩ := A1
      have a1' : w2.heap[x]? = some (.cells #[.int .i64 now, .pointer ti'.addr, .int .i64 ((L.length : Int) + 1), .pointer tt.addr, .int .i64 L.length] 170 (0, 0)) := by simpa using a1
      have hxW := (hb.block x (Array.getElem?_eq_some_iff.1 a1').1).trans a1'
      refine (put_new x 3 _ _ (by decide) tt L.length a id 0 W hxW rfl rfl (tt.at_below (Tr.at_same h2' a4 h1 (by decide)) hb) h3' (turns_none h4' hno) (by omega)).mono ?_
      rintro e w' ⟨rfl, A2⟩
      have ho := onceT_set (now := now) (id := id) (at' := a) h5
      rw [setL, if_neg ha, if_neg hno] at ho
      exact ⟨rfl, pw_end h6 h7 a1' a2 a4 a5 hb A2 (by simp) (by simp) (a3 ▸ srt_ins _ _ h3) (srt_ins _ _ h3') (a3 ▸ perm_snoc h4 rfl hn) (perm_snoc h4' rfl (turns_none h4' hno)) ho⟩
    · rintro e w' (⟨ht, rfl, hb⟩ | ⟨ht, rfl, hq⟩)
      · have hno : 0 ≤ idxT L id := Classical.byContradiction fun hc => by rw [(ids_none h4).2 hc] at ht; simp at ht
        simp only [setE, setL, if_neg ha, if_pos hno]
        exact ⟨trivial, pwW_same hpw hb⟩
      · have hno := (ids_none h4).1 (by simpa using ht)
        simp only [setE, setL, if_neg ha, if_neg hno]
        exact ⟨trivial, hq⟩

set_option maxRecDepth 100000 in
set_option maxHeartbeats 2000000 in
theorem unset_walk (x : Nat) (id v : Int) (taken : Bool) (w : World) (Q2 : World → Prop)
    (HI : Hid (∀ W, Below w.heap.size w W → Calls Tryz.prog 111 #[.int .i64 id] W fun e w' => e = .returned (.agg #[.int .i64 id, .int .i64 0]) ∧ Below W.heap.size W w'))
    (HG : Hid (∀ W, Below w.heap.size w W → Calls Tryz.prog 95 #[.pointer (some ⟨x, 1, none⟩), .agg #[.int .i64 id, .int .i64 0]] W fun e w' => e = .returned (.tuple #[.int .i64 v, .bool taken]) ∧ Below W.heap.size W w'))
    (HD : Hid (taken = true → ∀ W, Below w.heap.size w W → Calls Tryz.prog 115 #[.pointer (some ⟨x, 0, none⟩), .int .i64 id, .int .i64 v] W fun e w' => e = .returned (.tuple #[]) ∧ Q2 w')) :
    Calls Tryz.prog 77 #[.pointer (some ⟨x, 0, none⟩), .int .i64 id] w fun e w' => (taken = false ∧ e = .returned (.int .i64 5) ∧ Below w.heap.size w w') ∨ (taken = true ∧ e = .returned (.int .i64 0) ∧ Q2 w') := by
  go_enter Tryz.func77, Tryz.ntmps77
  go_wp2_with fail
  go_region_held3 (fun _ => True) (trivial) (first
    | (go_at_call 111; refine (HI.out _ (by repeat (first | exact Below.refl _ _ | assumption | refine Below.drew ?_ | refine below_drawn ?_ _ | refine Below.alloc ?_ (by first | exact Nat.le_refl _ | (simp <;> omega)) _))).mono ?_; rintro e w1 ⟨rfl, b1⟩
       have hb1 : Below w.heap.size w w1 := Below.trans (show Below w.heap.size w _ from (by repeat (first | exact Below.refl _ _ | assumption | refine Below.drew ?_ | refine below_drawn ?_ _ | refine Below.alloc ?_ (by first | exact Nat.le_refl _ | (simp <;> omega)) _))) (b1.mono (by simp)))
    | (go_at_call 95; refine (HG.out _ (by repeat (first | exact Below.refl _ _ | assumption | refine Below.drew ?_ | refine below_drawn ?_ _ | refine Below.alloc ?_ (by first | exact Nat.le_refl _ | (simp <;> omega)) _))).mono ?_; rintro e w2 ⟨rfl, b2⟩))
  have hb2 : Below w.heap.size w w2 := Below.trans (show Below w.heap.size w _ from (by repeat (first | exact Below.refl _ _ | assumption | refine Below.drew ?_ | refine below_drawn ?_ _ | refine Below.alloc ?_ (by first | exact Nat.le_refl _ | (simp <;> omega)) _))) (b2.mono (by have := hb1.size; simp <;> omega))
  clear b2 hb1 b1
  cases taken
  · go_wp2
    go_ret
    exact ⟨rfl, hb2⟩
  · go_wp2_with (go_at_call 115; refine (HD.out (by trivial) _ (by repeat (first | exact Below.refl _ _ | assumption | refine Below.drew ?_ | refine below_drawn ?_ _ | refine Below.alloc ?_ (by first | exact Nat.le_refl _ | (simp <;> omega)) _))).mono ?_; rintro e w4 ⟨rfl, q2⟩)
    go_ret
    exact ⟨rfl, q2⟩

theorem unset_any {w : World} {x : Nat} {own : Nat → Prop} {now : Int} {L : List (Int × Int)} (id : Int) (h : pwW w x own now L) (hl : L.length * 16 + 16 ≤ 140737488351232) :
    Calls Tryz.prog 77 #[.pointer (some ⟨x, 0, none⟩), .int .i64 id] w fun e w' => e = .returned (.int .i64 (unsetE L id)) ∧ pwAns pwW w w' x own now (unsetL L id) := by
  have hpw := h
  obtain ⟨ti, tt, h1, ⟨h2, h2'⟩, ⟨h3, h3'⟩, ⟨h4, h4'⟩, h5, h6, h7⟩ := h
  have hxw : x < w.heap.size := (Array.getElem?_eq_some_iff.1 h1).1
  refine (unset_walk x id ((getS (id, 0) ti.toL).getD 0) (getS (id, 0) ti.toL).isSome w (fun w' => pwAns pwW w w' x own now (L.filter (fun p => p.2 != id))) (fun W _ => idKey_any id W) (fun W hb => ?_) (fun ht W hb => ?_)).mono ?_
  · exact get_any x 1 ti id 0 W (by rw [Joins.cell_of_block ((hb.block x hxw).trans h1)]; rfl) (ti.at_below h2 hb) h3
  · obtain ⟨v, hv⟩ := Option.isSome_iff_exists.1 ht
    rw [hv]
    have hm := ids_some h4 hv
    exact (drop_any id v (pwW_keep hpw hb.size (fun k hk => hb.block k (h7 k hk))) hm hl).mono (by rintro e w' ⟨rfl, A⟩; exact ⟨rfl, pwAns_lift A hb⟩)
  · rintro e w' (⟨ht, rfl, hb⟩ | ⟨ht, rfl, hq⟩)
    · have hno : idxT L id < 0 := Int.not_le.1 ((ids_none h4).1 (by simpa using ht))
      simp only [unsetE, unsetL, if_pos hno]
      exact ⟨trivial, pwW_same hpw hb⟩
    · have hno : ¬ idxT L id < 0 := fun hc => by rw [(ids_none h4).2 (Int.not_le.2 hc)] at ht; simp at ht
      refine ⟨by rw [unsetE, if_neg hno], ?_⟩
      rw [unsetL_eq h5]
      exact hq

set_option maxHeartbeats 1000000 in
theorem wsize_walk (x : Nat) (s : Int) (w : World) (HG : Hid (∀ W, Below w.heap.size w W → Calls Tryz.prog 94 #[.pointer (some ⟨x, 1, none⟩)] W fun e w' => e = .returned (.int .i64 s) ∧ Below W.heap.size W w')) :
    Calls Tryz.prog 81 #[.pointer (some ⟨x, 0, none⟩)] w fun e w' => e = .returned (.int .i64 s) ∧ Below w.heap.size w w' := by
  go_enter Tryz.func81, Tryz.ntmps81
  go_wp2_with (go_at_call 94; refine (HG.out _ (by repeat (first | exact Below.refl _ _ | assumption | refine Below.drew ?_ | refine below_drawn ?_ _ | refine Below.alloc ?_ (by first | exact Nat.le_refl _ | (simp <;> omega)) _))).mono ?_; rintro e w1 ⟨rfl, b1⟩)
  go_ret
  exact ⟨rfl, b1⟩

theorem wsize_any {w : World} {x : Nat} {own : Nat → Prop} {now : Int} {L : List (Int × Int)} (h : pwW w x own now L) :
    Calls Tryz.prog 81 #[.pointer (some ⟨x, 0, none⟩)] w fun e w' => e = .returned (.int .i64 L.length) ∧ pwAns pwW w w' x own now L := by
  have hpw := h
  obtain ⟨ti, tt, h1, _⟩ := h
  have hxw : x < w.heap.size := (Array.getElem?_eq_some_iff.1 h1).1
  exact (wsize_walk x L.length w (fun W hb => size_any x 1 L.length W (by rw [Joins.cell_of_block ((hb.block x hxw).trans h1)]; rfl))).mono (by rintro e w' ⟨rfl, hb⟩; exact ⟨rfl, pwW_same hpw hb⟩)

set_option maxRecDepth 100000 in
set_option maxHeartbeats 2000000 in
theorem wfirst_walk (x : Nat) (a1 a2 v : Int) (some' : Bool) (w : World)
    (HF : Hid (∀ W, Below w.heap.size w W → Calls Tryz.prog 117 #[.pointer (some ⟨x, 3, none⟩)] W fun e w' => e = .returned (.tuple #[.agg #[.int .i64 a1, .int .i64 a2, .int .i64 v], .bool some']) ∧ Below W.heap.size W w')) (h0 : some' = false → a1 = 0 ∧ a2 = 0) :
    Calls Tryz.prog 79 #[.pointer (some ⟨x, 0, none⟩)] w fun e w' => e = .returned (.tuple #[.agg #[.int .i64 a1, .int .i64 a2], .bool some']) ∧ Below w.heap.size w w' := by
  go_enter Tryz.func79, Tryz.ntmps79
  go_wp2_with fail
  refine (HF.out _ (by repeat (first | exact Below.refl _ _ | assumption | refine Below.drew ?_ | refine below_drawn ?_ _ | refine Below.alloc ?_ (by first | exact Nat.le_refl _ | (simp <;> omega)) _))).mono ?_
  rintro e w1 ⟨rfl, b1⟩
  have n0 : w1.heap[w.heap.size]? = some (.cells #[.int .i64 0, .int .i64 0] 131 (0, 0)) := (b1.block _ (by simp)).trans (heap_alloc_new w _)
  have hsz : w.heap.size < w1.heap.size := (Array.getElem?_eq_some_iff.1 n0).1
  obtain ⟨r0, r1⟩ := rw_cells n0
  have f0 := row_free n0 0
  have f1 := row_free n0 1
  have w01 : Below w.heap.size w w1 := ((Below.refl _ _).alloc (Nat.le_refl _) _).trans (b1.mono (by simp))
  have hne : w1.heap.size ≠ w.heap.size := by omega
  have hle : w.heap.size ≤ w1.heap.size := by omega
  clear b1
  cases some'
  · obtain ⟨rfl, rfl⟩ := h0 rfl
    go_wp2
    refine bodyPost_ret (v := .tuple #[.agg #[.int .i64 0, .int .i64 0], .bool false]) (by simp [results, Tryz.results79, go_sem, r0, r1, hsz]) rfl ⟨rfl, ?_⟩
    exact ((w01.setCell (p := ⟨w.heap.size, 0, none⟩) (Nat.le_refl _) _).setCell (p := ⟨w.heap.size, 1, none⟩) (Nat.le_refl _) _).alloc (by simpa [World.setCell] using hle) _
  · go_wp2
    refine bodyPost_ret (v := .tuple #[.agg #[.int .i64 a1, .int .i64 a2], .bool true]) (by simp [results, Tryz.results79, go_sem, r0, r1, hsz]) rfl ⟨rfl, ?_⟩
    exact ((w01.setCell (p := ⟨w.heap.size, 0, none⟩) (Nat.le_refl _) _).setCell (p := ⟨w.heap.size, 1, none⟩) (Nat.le_refl _) _).alloc (by simpa [World.setCell] using hle) _

theorem wfirst_any {w : World} {x : Nat} {own : Nat → Prop} {now : Int} {L : List (Int × Int)} (h : pwW w x own now L) :
    Calls Tryz.prog 79 #[.pointer (some ⟨x, 0, none⟩)] w fun e w' => e = .returned (.tuple #[.agg #[.int .i64 (firstT L).1, .int .i64 (firstT L).2], .bool (firstB L)]) ∧ Below w.heap.size w w' := by
  obtain ⟨ti, tt, h1, ⟨h2, h2'⟩, ⟨h3, h3'⟩, ⟨h4, h4'⟩, h5, h6, h7⟩ := h
  have hxw : x < w.heap.size := (Array.getElem?_eq_some_iff.1 h1).1
  obtain ⟨e1, e2, e3⟩ := turns_first h4' h3'
  rw [e1, e2]
  refine wfirst_walk x _ _ (fstE tt).2 _ w (fun W hb => first_any x 3 tt W (by rw [Joins.cell_of_block ((hb.block x hxw).trans h1)]; rfl) (tt.at_below h2' hb)) ?_
  intro hf
  have : tt.toL = [] := by simpa using hf
  simp [fstE, this]

end Go.Proofs.YtfhncfghblkgeaaGreat
