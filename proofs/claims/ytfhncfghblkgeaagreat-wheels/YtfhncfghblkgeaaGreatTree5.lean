/-
  The program's trees: with. (Written by treegen5.py.)
-/
import Derived.Test.YtfhncfghblkgeaaGreatTree4
namespace Go.Proofs.YtfhncfghblkgeaaGreat
open Go.RowKit

theorem three_cells {w : World} {R : Nat} {c0 c1 c2 : Value} {T : TypeId} (h : w.heap[R]? = some (.cells #[c0, c1, c2] T (0, 0))) : w.cell? ⟨R, 0, none⟩ = some c0 ∧ w.cell? ⟨R, 1, none⟩ = some c1 ∧ w.cell? ⟨R, 2, none⟩ = some c2 :=
  ⟨by rw [Joins.cell_of_block h]; rfl, by rw [Joins.cell_of_block h]; rfl, by rw [Joins.cell_of_block h]; rfl⟩

set_option maxRecDepth 100000 in
set_option maxHeartbeats 8000000 in
theorem with_walk (p : Nat) (l r : Tr) (a1 a2 av h k1 k2 v : Int) (w : World) (ha : Tr.at w (.node p l (a1, a2) av h r)) (S : Nat → Prop) (LL Ll Lr : List Ent)
    (HL : Hid (∀ w1, Below w.heap.size w w1 → makes 142 #[.pointer l.addr, .agg #[.int .i64 k1, .int .i64 k2, .int .i64 v]] w w1 S Ll))
    (HR : Hid (∀ w1, Below w.heap.size w w1 → makes 142 #[.pointer r.addr, .agg #[.int .i64 k1, .int .i64 k2, .int .i64 v]] w w1 S Lr))
    (HBL : Hid (aheadB (k1, k2) (a1, a2) = true → ∀ w1 t1, mk w w1 S Ll t1 → makes 165 #[.pointer t1.addr, .agg #[.int .i64 a1, .int .i64 a2, .int .i64 av], .pointer r.addr] w w1 S LL))
    (HBR : Hid (aheadB (a1, a2) (k1, k2) = true → ∀ w1 t1, mk w w1 S Lr t1 → makes 165 #[.pointer l.addr, .agg #[.int .i64 a1, .int .i64 a2, .int .i64 av], .pointer t1.addr] w w1 S LL))
    (HJ : Hid (aheadB (k1, k2) (a1, a2) = false → aheadB (a1, a2) (k1, k2) = false → ∀ w1, Below w.heap.size w w1 → makes 164 #[.pointer l.addr, .agg #[.int .i64 k1, .int .i64 k2, .int .i64 v], .pointer r.addr] w w1 S LL)) :
    Calls Tryz.prog 142 #[.pointer (some ⟨p, 0, none⟩), .agg #[.int .i64 k1, .int .i64 k2, .int .i64 v]] w fun e w' => ∃ t : Tr, e = .returned (.pointer t.addr) ∧ mk w w' S LL t := by
  obtain ⟨hp, h1, h2⟩ := ha
  have hpw : p < w.heap.size := (Array.getElem?_eq_some_iff.1 hp).1
  obtain ⟨z0, z1, z2, z3, z4, -⟩ := node_cells hp
  simp only [Tr.ptr] at z0 z1
  have HB1 : Hid (∀ W, Below w.heap.size w W → Calls Tryz.prog 129 #[.agg #[.int .i64 k1, .int .i64 k2], .agg #[.int .i64 a1, .int .i64 a2]] W fun e w' => e = .returned (.bool (aheadB (k1, k2) (a1, a2))) ∧ Below W.heap.size W w') := fun W _ => before_any (k1, k2) (a1, a2) W
  have HB2 : Hid (∀ W, Below w.heap.size w W → Calls Tryz.prog 129 #[.agg #[.int .i64 a1, .int .i64 a2], .agg #[.int .i64 k1, .int .i64 k2]] W fun e w' => e = .returned (.bool (aheadB (a1, a2) (k1, k2))) ∧ Below W.heap.size W w') := fun W _ => before_any (a1, a2) (k1, k2) W
  generalize aheadB (k1, k2) (a1, a2) = ah at HBL HJ HB1
  generalize aheadB (a1, a2) (k1, k2) = ah2 at HBR HJ HB2
  clear hp h1 h2
  have c2 := z2
  have c3 := z3
  go_enter Tryz.func142, Tryz.ntmps142
  go_wp2_with fail
  go_region_held3 (fun w' => w'.cell? ⟨w.heap.size, 0, none⟩ = some (.int .i64 k1) ∧ w'.cell? ⟨w.heap.size, 1, none⟩ = some (.int .i64 k2) ∧ w'.cell? ⟨p, 2, none⟩ = some (.int .i64 a1) ∧ w'.cell? ⟨p, 3, none⟩ = some (.int .i64 a2)) (simp [go_sem, *])
    (first | (go_at_call 129; refine (HB1.out _ (by repeat (first | exact Below.refl _ _ | assumption | refine Below.drew ?_ | refine below_drawn ?_ _ | refine Below.alloc ?_ (by first | exact Nat.le_refl _ | (simp <;> omega)) _))).mono ?_; rintro e w1 ⟨rfl, b⟩
              have e0 := (b.cell (p := ⟨w.heap.size, 0, none⟩) (by simp <;> omega)).trans (by simp [go_sem, *] : _ = some (.int .i64 k1))
              have e1 := (b.cell (p := ⟨w.heap.size, 1, none⟩) (by simp <;> omega)).trans (by simp [go_sem, *] : _ = some (.int .i64 k2))
              have e2 := (b.cell (p := ⟨p, 2, none⟩) (by simp <;> omega)).trans (by simp [go_sem, *] : _ = some (.int .i64 a1))
              have e3 := (b.cell (p := ⟨p, 3, none⟩) (by simp <;> omega)).trans (by simp [go_sem, *] : _ = some (.int .i64 a2))))
  clear e0 e1 e2 e3
  have hbw1 : Below w.heap.size w w1 := Below.trans (show Below w.heap.size w _ from (by repeat (first | exact Below.refl _ _ | assumption | refine Below.drew ?_ | refine below_drawn ?_ _ | refine Below.alloc ?_ (by first | exact Nat.le_refl _ | (simp <;> omega)) _))) (b.mono (by simp <;> omega))
  have hkw1 : w1.heap[w.heap.size]? = some (.cells #[.int .i64 k1, .int .i64 k2, .int .i64 v] 202 (0, 0)) := (b.block _ (by simp <;> omega)).trans (heap_alloc_new _ _)
  clear c2 c3 b
  have c0 := (hbw1.cell (p := ⟨p, 0, none⟩) hpw).trans z0
  have c1 := (hbw1.cell (p := ⟨p, 1, none⟩) hpw).trans z1
  have c2 := (hbw1.cell (p := ⟨p, 2, none⟩) hpw).trans z2
  have c3 := (hbw1.cell (p := ⟨p, 3, none⟩) hpw).trans z3
  have c4 := (hbw1.cell (p := ⟨p, 4, none⟩) hpw).trans z4
  have hpxw1 : p < w1.heap.size := Nat.lt_of_lt_of_le hpw hbw1.size
  have hexw1 : w.heap.size < w1.heap.size := (Array.getElem?_eq_some_iff.1 hkw1).1
  obtain ⟨q0, q1, q2⟩ := three_cells hkw1
  cases ah
  · go_wp2_with fail
    go_region_held3 (fun w' => w'.cell? ⟨w.heap.size, 0, none⟩ = some (.int .i64 k1) ∧ w'.cell? ⟨w.heap.size, 1, none⟩ = some (.int .i64 k2) ∧ w'.cell? ⟨p, 2, none⟩ = some (.int .i64 a1) ∧ w'.cell? ⟨p, 3, none⟩ = some (.int .i64 a2)) (simp [go_sem, *])
      (first | (go_at_call 129; refine (HB2.out _ (by repeat (first | exact Below.refl _ _ | assumption | refine Below.drew ?_ | refine below_drawn ?_ _ | refine Below.alloc ?_ (by first | exact Nat.le_refl _ | (simp <;> omega)) _))).mono ?_; rintro e w2 ⟨rfl, b⟩
                have e0 := (b.cell (p := ⟨w.heap.size, 0, none⟩) (by simp <;> omega)).trans (by simp [go_sem, *] : _ = some (.int .i64 k1))
                have e1 := (b.cell (p := ⟨w.heap.size, 1, none⟩) (by simp <;> omega)).trans (by simp [go_sem, *] : _ = some (.int .i64 k2))
                have e2 := (b.cell (p := ⟨p, 2, none⟩) (by simp <;> omega)).trans (by simp [go_sem, *] : _ = some (.int .i64 a1))
                have e3 := (b.cell (p := ⟨p, 3, none⟩) (by simp <;> omega)).trans (by simp [go_sem, *] : _ = some (.int .i64 a2))))
    clear e0 e1 e2 e3
    have hbw2 : Below w.heap.size w w2 := Below.trans (show Below w.heap.size w _ from (by repeat (first | exact Below.refl _ _ | assumption | refine Below.drew ?_ | refine below_drawn ?_ _ | refine Below.alloc ?_ (by first | exact Nat.le_refl _ | (simp <;> omega)) _))) (b.mono (by simp <;> omega))
    have hkw2 : w2.heap[w.heap.size]? = some (.cells #[.int .i64 k1, .int .i64 k2, .int .i64 v] 202 (0, 0)) := (b.block _ (by simp <;> omega)).trans (hkw1)
    clear c0 c1 c2 c3 c4 q0 q1 q2 b hbw1 hkw1 hpxw1 hexw1
    have c0 := (hbw2.cell (p := ⟨p, 0, none⟩) hpw).trans z0
    have c1 := (hbw2.cell (p := ⟨p, 1, none⟩) hpw).trans z1
    have c2 := (hbw2.cell (p := ⟨p, 2, none⟩) hpw).trans z2
    have c3 := (hbw2.cell (p := ⟨p, 3, none⟩) hpw).trans z3
    have c4 := (hbw2.cell (p := ⟨p, 4, none⟩) hpw).trans z4
    have hpxw2 : p < w2.heap.size := Nat.lt_of_lt_of_le hpw hbw2.size
    have hexw2 : w.heap.size < w2.heap.size := (Array.getElem?_eq_some_iff.1 hkw2).1
    obtain ⟨q0, q1, q2⟩ := three_cells hkw2
    cases ah2
    · have HJ2 : Hid _ := HJ.out (by trivial) (by trivial) _ hbw2
      clear HBL HBR HL HR
      go_wp2_with fail
      go_region_held3 (fun w' => w'.cell? ⟨p, 0, none⟩ = some (.pointer l.addr) ∧ w'.cell? ⟨w.heap.size, 0, none⟩ = some (.int .i64 k1) ∧ w'.cell? ⟨w.heap.size, 1, none⟩ = some (.int .i64 k2) ∧ w'.cell? ⟨w.heap.size, 2, none⟩ = some (.int .i64 v) ∧ w'.cell? ⟨p, 1, none⟩ = some (.pointer r.addr)) (simp [go_sem, *])
        (first | (go_at_call 164; refine (HJ2.out _ (by repeat (first | exact Below.refl _ _ | assumption | refine Below.drew ?_ | refine below_drawn ?_ _ | refine Below.alloc ?_ (by first | exact Nat.le_refl _ | (simp <;> omega)) _))).mono ?_; rintro e w3 ⟨t3, rfl, m, b⟩
                  have e0 := (b.cell (p := ⟨p, 0, none⟩) (by simp <;> omega)).trans (by simp [go_sem, *] : _ = some (.pointer l.addr))
                  have e1 := (b.cell (p := ⟨w.heap.size, 0, none⟩) (by simp <;> omega)).trans (by simp [go_sem, *] : _ = some (.int .i64 k1))
                  have e2 := (b.cell (p := ⟨w.heap.size, 1, none⟩) (by simp <;> omega)).trans (by simp [go_sem, *] : _ = some (.int .i64 k2))
                  have e3 := (b.cell (p := ⟨w.heap.size, 2, none⟩) (by simp <;> omega)).trans (by simp [go_sem, *] : _ = some (.int .i64 v))
                  have e4 := (b.cell (p := ⟨p, 1, none⟩) (by simp <;> omega)).trans (by simp [go_sem, *] : _ = some (.pointer r.addr))))
      clear e0 e1 e2 e3 e4
      go_wp2
      go_ret
      exact ⟨_, rfl, m⟩
    · have HR2 : Hid _ := HR.out _ hbw2
      go_wp2_with fail
      go_region_held3 (fun w' => w'.cell? ⟨p, 1, none⟩ = some (.pointer r.addr) ∧ w'.cell? ⟨w.heap.size, 0, none⟩ = some (.int .i64 k1) ∧ w'.cell? ⟨w.heap.size, 1, none⟩ = some (.int .i64 k2) ∧ w'.cell? ⟨w.heap.size, 2, none⟩ = some (.int .i64 v)) (simp [go_sem, *])
        (first | (go_at_call 142; refine (HR2.out _ (by repeat (first | exact Below.refl _ _ | assumption | refine Below.drew ?_ | refine below_drawn ?_ _ | refine Below.alloc ?_ (by first | exact Nat.le_refl _ | (simp <;> omega)) _))).mono ?_; rintro e w3 ⟨t3, rfl, m, b⟩
                  have e0 := (b.cell (p := ⟨p, 1, none⟩) (by simp <;> omega)).trans (by simp [go_sem, *] : _ = some (.pointer r.addr))
                  have e1 := (b.cell (p := ⟨w.heap.size, 0, none⟩) (by simp <;> omega)).trans (by simp [go_sem, *] : _ = some (.int .i64 k1))
                  have e2 := (b.cell (p := ⟨w.heap.size, 1, none⟩) (by simp <;> omega)).trans (by simp [go_sem, *] : _ = some (.int .i64 k2))
                  have e3 := (b.cell (p := ⟨w.heap.size, 2, none⟩) (by simp <;> omega)).trans (by simp [go_sem, *] : _ = some (.int .i64 v))))
      clear e0 e1 e2 e3
      have HB3 : Hid _ := HBR.out (by trivial) _ _ m
      have d0 := (m.2.2.1.cell (p := ⟨p, 0, none⟩) hpw).trans z0
      have d1 := (m.2.2.1.cell (p := ⟨p, 1, none⟩) hpw).trans z1
      have d2 := (m.2.2.1.cell (p := ⟨p, 2, none⟩) hpw).trans z2
      have d3 := (m.2.2.1.cell (p := ⟨p, 3, none⟩) hpw).trans z3
      have d4 := (m.2.2.1.cell (p := ⟨p, 4, none⟩) hpw).trans z4
      have hpx3 : p < w3.heap.size := Nat.lt_of_lt_of_le hpw m.2.2.1.size
      clear c0 c1 c2 c3 c4 q0 q1 q2 b z0 z1 z2 z3 z4 HBL HBR HJ HL HR
      go_wp2_with fail
      go_region_held3 (fun w' => w'.cell? ⟨p, 0, none⟩ = some (.pointer l.addr) ∧ w'.cell? ⟨p, 2, none⟩ = some (.int .i64 a1) ∧ w'.cell? ⟨p, 3, none⟩ = some (.int .i64 a2) ∧ w'.cell? ⟨p, 4, none⟩ = some (.int .i64 av)) (simp [go_sem, *])
        (first | (go_at_call 165; refine (HB3.out _ (by repeat (first | exact Below.refl _ _ | assumption | refine Below.drew ?_ | refine below_drawn ?_ _ | refine Below.alloc ?_ (by first | exact Nat.le_refl _ | (simp <;> omega)) _))).mono ?_; rintro e w4 ⟨t4, rfl, m4, b⟩
                  have e0 := (b.cell (p := ⟨p, 0, none⟩) (by simp <;> omega)).trans (by simp [go_sem, *] : _ = some (.pointer l.addr))
                  have e1 := (b.cell (p := ⟨p, 2, none⟩) (by simp <;> omega)).trans (by simp [go_sem, *] : _ = some (.int .i64 a1))
                  have e2 := (b.cell (p := ⟨p, 3, none⟩) (by simp <;> omega)).trans (by simp [go_sem, *] : _ = some (.int .i64 a2))
                  have e3 := (b.cell (p := ⟨p, 4, none⟩) (by simp <;> omega)).trans (by simp [go_sem, *] : _ = some (.int .i64 av))))
      clear e0 e1 e2 e3
      go_wp2
      go_ret
      exact ⟨_, rfl, m4⟩
  · have HL2 : Hid _ := HL.out _ hbw1
    go_wp2_with fail
    go_region_held3 (fun w' => w'.cell? ⟨p, 0, none⟩ = some (.pointer l.addr) ∧ w'.cell? ⟨w.heap.size, 0, none⟩ = some (.int .i64 k1) ∧ w'.cell? ⟨w.heap.size, 1, none⟩ = some (.int .i64 k2) ∧ w'.cell? ⟨w.heap.size, 2, none⟩ = some (.int .i64 v)) (simp [go_sem, *])
      (first | (go_at_call 142; refine (HL2.out _ (by repeat (first | exact Below.refl _ _ | assumption | refine Below.drew ?_ | refine below_drawn ?_ _ | refine Below.alloc ?_ (by first | exact Nat.le_refl _ | (simp <;> omega)) _))).mono ?_; rintro e w3 ⟨t3, rfl, m, b⟩
                have e0 := (b.cell (p := ⟨p, 0, none⟩) (by simp <;> omega)).trans (by simp [go_sem, *] : _ = some (.pointer l.addr))
                have e1 := (b.cell (p := ⟨w.heap.size, 0, none⟩) (by simp <;> omega)).trans (by simp [go_sem, *] : _ = some (.int .i64 k1))
                have e2 := (b.cell (p := ⟨w.heap.size, 1, none⟩) (by simp <;> omega)).trans (by simp [go_sem, *] : _ = some (.int .i64 k2))
                have e3 := (b.cell (p := ⟨w.heap.size, 2, none⟩) (by simp <;> omega)).trans (by simp [go_sem, *] : _ = some (.int .i64 v))))
    clear e0 e1 e2 e3
    have HB3 : Hid _ := HBL.out (by trivial) _ _ m
    have d0 := (m.2.2.1.cell (p := ⟨p, 0, none⟩) hpw).trans z0
    have d1 := (m.2.2.1.cell (p := ⟨p, 1, none⟩) hpw).trans z1
    have d2 := (m.2.2.1.cell (p := ⟨p, 2, none⟩) hpw).trans z2
    have d3 := (m.2.2.1.cell (p := ⟨p, 3, none⟩) hpw).trans z3
    have d4 := (m.2.2.1.cell (p := ⟨p, 4, none⟩) hpw).trans z4
    have hpx3 : p < w3.heap.size := Nat.lt_of_lt_of_le hpw m.2.2.1.size
    clear c0 c1 c2 c3 c4 q0 q1 q2 b z0 z1 z2 z3 z4 HBL HBR HJ HL HR
    go_wp2_with fail
    go_region_held3 (fun w' => w'.cell? ⟨p, 2, none⟩ = some (.int .i64 a1) ∧ w'.cell? ⟨p, 3, none⟩ = some (.int .i64 a2) ∧ w'.cell? ⟨p, 4, none⟩ = some (.int .i64 av) ∧ w'.cell? ⟨p, 1, none⟩ = some (.pointer r.addr)) (simp [go_sem, *])
      (first | (go_at_call 165; refine (HB3.out _ (by repeat (first | exact Below.refl _ _ | assumption | refine Below.drew ?_ | refine below_drawn ?_ _ | refine Below.alloc ?_ (by first | exact Nat.le_refl _ | (simp <;> omega)) _))).mono ?_; rintro e w4 ⟨t4, rfl, m4, b⟩
                have e0 := (b.cell (p := ⟨p, 2, none⟩) (by simp <;> omega)).trans (by simp [go_sem, *] : _ = some (.int .i64 a1))
                have e1 := (b.cell (p := ⟨p, 3, none⟩) (by simp <;> omega)).trans (by simp [go_sem, *] : _ = some (.int .i64 a2))
                have e2 := (b.cell (p := ⟨p, 4, none⟩) (by simp <;> omega)).trans (by simp [go_sem, *] : _ = some (.int .i64 av))
                have e3 := (b.cell (p := ⟨p, 1, none⟩) (by simp <;> omega)).trans (by simp [go_sem, *] : _ = some (.pointer r.addr))))
    clear e0 e1 e2 e3
    go_wp2
    go_ret
    exact ⟨_, rfl, m4⟩

end Go.Proofs.YtfhncfghblkgeaaGreat
