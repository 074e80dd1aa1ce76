/-
  The program's trees: firstOf, Get.
-/
import Derived.Test.YtfhncfghblkgeaaGreatTree3
namespace Go.Proofs.YtfhncfghblkgeaaGreat
open Go.RowKit

/-- What lies at a pointer is one tree. -/
theorem Tr.at_unique {w : World} : ∀ {t t' : Tr}, t.at w → t'.at w → t.addr = t'.addr → t = t'
  | .leaf, .leaf, _, _, _ => rfl
  | .leaf, .node .., _, _, e => by simp [Tr.addr] at e
  | .node .., .leaf, _, _, e => by simp [Tr.addr] at e
  | .node p l k v h r, .node p' l' k' v' h' r', ⟨a1, a2, a3⟩, ⟨b1, b2, b3⟩, e => by
    simp only [Tr.addr, Option.some.injEq, Addr.mk.injEq, and_true] at e
    subst e
    rw [a1] at b1
    simp only [Option.some.injEq, Obj.cells.injEq, Array.mk.injEq, List.cons.injEq, Value.pointer.injEq, Value.int.injEq, and_true, true_and] at b1
    obtain ⟨e1, e2, e3, e4, e5, e6⟩ := b1
    have hl := Tr.at_unique a2 b2 e1
    have hr := Tr.at_unique a3 b3 e2
    subst hl hr e5 e6
    have : k = k' := Prod.ext e3 e4
    subst this
    rfl

def Tr.size : Tr → Nat
  | .leaf => 0
  | .node _ l _ _ _ r => l.size + r.size + 1

open Classical in
noncomputable def sizeAt (w : World) (v : Value) : Nat := if h : ∃ t : Tr, t.at w ∧ v = .pointer t.addr then (Classical.choose h).size else 0

theorem sizeAt_of {w : World} {t : Tr} (h : t.at w) : sizeAt w (.pointer t.addr) = t.size := by
  have hx : ∃ t' : Tr, t'.at w ∧ Value.pointer t.addr = .pointer t'.addr := ⟨t, h, rfl⟩
  unfold sizeAt
  rw [dif_pos hx]
  have hc := Classical.choose_spec hx
  have := Tr.at_unique h hc.1 (by simpa using hc.2)
  rw [← this]

def fstE (t : Tr) : Ent := t.toL.headD ((0, 0), 0)

theorem fstE_leaf (p : Nat) (k : Int × Int) (v h : Int) (r : Tr) : fstE (.node p .leaf k v h r) = (k, v) := rfl
theorem fstE_node (p q : Nat) (k lk : Int × Int) (v h lv lh : Int) (ll lr r : Tr) : fstE (.node p (.node q ll lk lv lh lr) k v h r) = fstE (.node q ll lk lv lh lr) := by
  simp only [fstE, Tr.toL]
  cases ll.toL <;> simp

set_option maxRecDepth 100000 in
set_option maxHeartbeats 1000000 in
theorem firstOf_any (p : Nat) (l r : Tr) (k : Int × Int) (v h : Int) (w : World) (ha : Tr.at w (.node p l k v h r)) :
    Calls Tryz.prog 144 #[.pointer (some ⟨p, 0, none⟩)] w fun e w' => e = .returned (.agg #[.int .i64 (fstE (.node p l k v h r)).1.1, .int .i64 (fstE (.node p l k v h r)).1.2, .int .i64 (fstE (.node p l k v h r)).2]) ∧ Below w.heap.size w w' := by
  generalize hF : fstE (.node p l k v h r) = F
  have HA : Hid (Tr.at w (.node p l k v h r) ∧ fstE (.node p l k v h r) = F) := ⟨ha, hF⟩
  clear ha hF
  go_enter Tryz.func144, Tryz.ntmps144
  go_wp2_with fail
  go_loop [0] (fun n => ∃ p l k v h r, n = .pointer (some ⟨p, 0, none⟩) ∧ Hid (Tr.at w (.node p l k v h r) ∧ fstE (.node p l k v h r) = F)) (fun n => sizeAt w n)
  case atStart => exact ⟨p, l, k, v, h, r, rfl, HA⟩
  case round =>
    obtain ⟨p, l, k, v, h, r, rfl, HB⟩ := hrel
    obtain ⟨hp, h1, h2⟩ := HB.out.1
    have hpw : p < w.heap.size := (Array.getElem?_eq_some_iff.1 hp).1
    obtain ⟨c0, c1, c2, c3, c4, -⟩ := node_cells hp
    cases l with
    | leaf =>
      have hF := HB.out.2
      rw [fstE_leaf] at hF
      subst hF
      simp only [Tr.ptr, Tr.addr_leaf] at c0
      clear hp h1 h2 HA
      go_wp2
      refine bodyPost_ret (v := .agg #[.int .i64 k.1, .int .i64 k.2, .int .i64 v]) (by simp [results, Tryz.results144, go_sem]) rfl ⟨rfl, ?_⟩
      exact (by repeat (first | exact Below.refl _ _ | assumption | refine Below.drew ?_ | refine below_drawn ?_ _ | refine Below.alloc ?_ (by first | exact Nat.le_refl _ | (simp <;> omega)) _))
    | node q ll lk lv lh lr =>
      have HC : Hid (Tr.at w (.node q ll lk lv lh lr) ∧ fstE (.node q ll lk lv lh lr) = F) := ⟨h1, (fstE_node ..).symm.trans HB.out.2⟩
      have HM : Hid (sizeAt w (.pointer (some ⟨q, 0, none⟩)) < sizeAt w (.pointer (some ⟨p, 0, none⟩))) := by
        have e1 := sizeAt_of HB.out.1
        have e2 := sizeAt_of h1
        simp only [Tr.addr_node, Tr.size] at e1 e2
        rw [Hid, e1, e2]
        omega
      simp only [Tr.ptr, Tr.addr_node] at c0
      clear hp h1 h2 HA HB
      go_wp2
      go_round
      case rel => exact ⟨_, _, _, _, _, _, rfl, HC⟩
      case measure => exact HM.out

theorem two_cells {w : World} {R : Nat} {c0 c1 : Value} {T : TypeId} (h : w.heap[R]? = some (.cells #[c0, c1] T (0, 0))) : w.cell? ⟨R, 0, none⟩ = some c0 ∧ w.cell? ⟨R, 1, none⟩ = some c1 := rw_cells h

theorem Tr.toL_node (p : Nat) (l r : Tr) (k : Int × Int) (v h : Int) : (Tr.node p l k v h r).toL = l.toL ++ (k, v) :: r.toL := rfl

set_option maxRecDepth 100000 in
set_option maxHeartbeats 2000000 in
theorem get_any (x o : Nat) (t : Tr) (k1 k2 : Int) (w : World) (hx : w.cell? ⟨x, o, none⟩ = some (.pointer t.addr)) (ht : t.at w) (hs : srt t.toL) :
    Calls Tryz.prog 95 #[.pointer (some ⟨x, o, none⟩), .agg #[.int .i64 k1, .int .i64 k2]] w fun e w' => e = .returned (.tuple #[.int .i64 ((getS (k1, k2) t.toL).getD 0), .bool (getS (k1, k2) t.toL).isSome]) ∧ Below w.heap.size w w' := by
  generalize hG : getS (k1, k2) t.toL = G
  have HA : Hid (t.at w ∧ srt t.toL ∧ getS (k1, k2) t.toL = G) := ⟨ht, hs, hG⟩
  have hxw : x < w.heap.size := World.block_lt_of_cell? w _ hx
  clear ht hs hG
  go_enter Tryz.func95, Tryz.ntmps95
  go_wp2_with fail
  go_loopw [6] (fun n wr => ∃ t : Tr, n = .pointer t.addr ∧ Hid (t.at w ∧ srt t.toL ∧ getS (k1, k2) t.toL = G) ∧ Below w.heap.size w wr ∧ wr.heap[w.heap.size]? = some (.cells #[.int .i64 k1, .int .i64 k2] 178 (0, 0))) (fun n _ => sizeAt w n)
  case atStart => exact ⟨t, rfl, HA, (by repeat (first | exact Below.refl _ _ | assumption | refine Below.drew ?_ | refine below_drawn ?_ _ | refine Below.alloc ?_ (by first | exact Nat.le_refl _ | (simp <;> omega)) _)), heap_alloc_new _ _⟩
  case round =>
    obtain ⟨t, rfl, HB, hbel, hkey⟩ := hrel
    have hsz : w.heap.size < wr.heap.size := (Array.getElem?_eq_some_iff.1 hkey).1
    cases t with
    | leaf =>
      have hG := HB.out.2.2
      simp only [Tr.toL, getS, List.find?_nil, Option.map_none] at hG
      subst hG
      simp only [Tr.addr_leaf]
      clear HA HB
      go_wp2
      go_ret2
      exact ⟨rfl, hbel⟩
    | node p l k v h r =>
      obtain ⟨⟨hp, h1, h2⟩, hs, hG⟩ := HB.out
      rw [Tr.toL_node] at hs hG
      have hpw : p < w.heap.size := (Array.getElem?_eq_some_iff.1 hp).1
      obtain ⟨z0, z1, z2, z3, z4, -⟩ := node_cells hp
      simp only [Tr.ptr] at z0 z1
      have HL : Hid (aheadB (k1, k2) k = true → l.at w ∧ srt l.toL ∧ getS (k1, k2) l.toL = G) := fun ha => ⟨h1, (srt_split.1 hs).1, by rw [← hG, get_left hs ha]⟩
      have HR : Hid (aheadB k (k1, k2) = true → r.at w ∧ srt r.toL ∧ getS (k1, k2) r.toL = G) := fun ha => ⟨h2, (srt_split.1 hs).2.1, by rw [← hG, get_right hs ha]⟩
      have HE : Hid (aheadB (k1, k2) k = false → aheadB k (k1, k2) = false → G = some v) := fun ha hb => by rw [← hG, get_here hs (ahead_eq hb ha)]
      have HM : Hid (sizeAt w (.pointer l.addr) < sizeAt w (.pointer (some ⟨p, 0, none⟩)) ∧ sizeAt w (.pointer r.addr) < sizeAt w (.pointer (some ⟨p, 0, none⟩))) := by
        have e1 := sizeAt_of HB.out.1
        have e2 := sizeAt_of h1
        have e3 := sizeAt_of h2
        simp only [Tr.addr_node, Tr.size] at e1
        rw [Hid, e1, e2, e3]
        omega
      obtain ⟨a1, a2⟩ := k
      have HB1 : Hid (∀ W, Below w.heap.size w W → Calls Tryz.prog 129 #[.agg #[.int .i64 k1, .int .i64 k2], .agg #[.int .i64 a1, .int .i64 a2]] W fun e w' => e = .returned (.bool (aheadB (k1, k2) (a1, a2))) ∧ Below W.heap.size W w') := fun W _ => before_any (k1, k2) (a1, a2) W
      have HB2 : Hid (∀ W, Below w.heap.size w W → Calls Tryz.prog 129 #[.agg #[.int .i64 a1, .int .i64 a2], .agg #[.int .i64 k1, .int .i64 k2]] W fun e w' => e = .returned (.bool (aheadB (a1, a2) (k1, k2))) ∧ Below W.heap.size W w') := fun W _ => before_any (a1, a2) (k1, k2) W
      obtain ⟨q0, q1⟩ := two_cells hkey
      have c0 := (hbel.cell (p := ⟨p, 0, none⟩) hpw).trans z0
      have c1 := (hbel.cell (p := ⟨p, 1, none⟩) hpw).trans z1
      have c2 := (hbel.cell (p := ⟨p, 2, none⟩) hpw).trans z2
      have c3 := (hbel.cell (p := ⟨p, 3, none⟩) hpw).trans z3
      have c4 := (hbel.cell (p := ⟨p, 4, none⟩) hpw).trans z4
      have hpwr : p < wr.heap.size := Nat.lt_of_lt_of_le hpw hbel.size
      simp only [Tr.addr_node]
      generalize aheadB (k1, k2) (a1, a2) = ah at HL HE HB1
      generalize aheadB (a1, a2) (k1, k2) = ah2 at HR HE HB2
      clear hp h1 h2 hs hG HA HB
      go_wp2_with fail
      go_region_held3 (fun w' => w'.cell? ⟨w.heap.size, 0, none⟩ = some (.int .i64 k1) ∧ w'.cell? ⟨w.heap.size, 1, none⟩ = some (.int .i64 k2) ∧ w'.cell? ⟨p, 2, none⟩ = some (.int .i64 a1) ∧ w'.cell? ⟨p, 3, none⟩ = some (.int .i64 a2)) (simp [go_sem, *])
        (first | (go_at_call 129; refine (HB1.out _ (by repeat (first | exact Below.refl _ _ | assumption | refine Below.drew ?_ | refine below_drawn ?_ _ | refine Below.alloc ?_ (by first | exact Nat.le_refl _ | (simp <;> omega)) _))).mono ?_; rintro e w1 ⟨rfl, b⟩
                  have e0 := (b.cell (p := ⟨w.heap.size, 0, none⟩) (by simp <;> omega)).trans (by simp [go_sem, *] : _ = some (.int .i64 k1))
                  have e1 := (b.cell (p := ⟨w.heap.size, 1, none⟩) (by simp <;> omega)).trans (by simp [go_sem, *] : _ = some (.int .i64 k2))
                  have e2 := (b.cell (p := ⟨p, 2, none⟩) (by simp <;> omega)).trans (by simp [go_sem, *] : _ = some (.int .i64 a1))
                  have e3 := (b.cell (p := ⟨p, 3, none⟩) (by simp <;> omega)).trans (by simp [go_sem, *] : _ = some (.int .i64 a2))))
      have hb1 : Below w.heap.size w w1 := Below.trans (show Below w.heap.size w _ from (by repeat (first | exact Below.refl _ _ | assumption | refine Below.drew ?_ | refine below_drawn ?_ _ | refine Below.alloc ?_ (by first | exact Nat.le_refl _ | (simp <;> omega)) _))) (b.mono (by simp; omega))
      have hk1 : w1.heap[w.heap.size]? = some (.cells #[.int .i64 k1, .int .i64 k2] 178 (0, 0)) := (b.block _ (by simp; omega)).trans hkey
      have d0 := (hb1.cell (p := ⟨p, 0, none⟩) hpw).trans z0
      have d1 := (hb1.cell (p := ⟨p, 1, none⟩) hpw).trans z1
      have d2 := (hb1.cell (p := ⟨p, 2, none⟩) hpw).trans z2
      have d3 := (hb1.cell (p := ⟨p, 3, none⟩) hpw).trans z3
      have d4 := (hb1.cell (p := ⟨p, 4, none⟩) hpw).trans z4
      have hpw1 : p < w1.heap.size := Nat.lt_of_lt_of_le hpw hb1.size
      have hsz1 : w.heap.size < w1.heap.size := (Array.getElem?_eq_some_iff.1 hk1).1
      obtain ⟨r0, r1⟩ := two_cells hk1
      clear b c0 c1 c2 c3 c4 hbel hkey q0 q1 e0 e1 e2 e3
      cases ah
      · go_wp2_with fail
        go_region_held3 (fun w' => w'.cell? ⟨w.heap.size, 0, none⟩ = some (.int .i64 k1) ∧ w'.cell? ⟨w.heap.size, 1, none⟩ = some (.int .i64 k2) ∧ w'.cell? ⟨p, 2, none⟩ = some (.int .i64 a1) ∧ w'.cell? ⟨p, 3, none⟩ = some (.int .i64 a2)) (simp [go_sem, *])
          (first | (go_at_call 129; refine (HB2.out _ (by repeat (first | exact Below.refl _ _ | assumption | refine Below.drew ?_ | refine below_drawn ?_ _ | refine Below.alloc ?_ (by first | exact Nat.le_refl _ | (simp <;> omega)) _))).mono ?_; rintro e w2 ⟨rfl, b⟩
                    have e0 := (b.cell (p := ⟨w.heap.size, 0, none⟩) (by simp <;> omega)).trans (by simp [go_sem, *] : _ = some (.int .i64 k1))
                    have e1 := (b.cell (p := ⟨w.heap.size, 1, none⟩) (by simp <;> omega)).trans (by simp [go_sem, *] : _ = some (.int .i64 k2))
                    have e2 := (b.cell (p := ⟨p, 2, none⟩) (by simp <;> omega)).trans (by simp [go_sem, *] : _ = some (.int .i64 a1))
                    have e3 := (b.cell (p := ⟨p, 3, none⟩) (by simp <;> omega)).trans (by simp [go_sem, *] : _ = some (.int .i64 a2))))
        have hb2 : Below w.heap.size w w2 := Below.trans (show Below w.heap.size w _ from (by repeat (first | exact Below.refl _ _ | assumption | refine Below.drew ?_ | refine below_drawn ?_ _ | refine Below.alloc ?_ (by first | exact Nat.le_refl _ | (simp <;> omega)) _))) (b.mono (by simp; omega))
        have hk2 : w2.heap[w.heap.size]? = some (.cells #[.int .i64 k1, .int .i64 k2] 178 (0, 0)) := (b.block _ (by simp; omega)).trans hk1
        have f1 := (hb2.cell (p := ⟨p, 1, none⟩) hpw).trans z1
        have f4 := (hb2.cell (p := ⟨p, 4, none⟩) hpw).trans z4
        have hpw2 : p < w2.heap.size := Nat.lt_of_lt_of_le hpw hb2.size
        clear b d0 d1 d2 d3 d4 r0 r1 hb1 hk1 e0 e1 e2 e3 z0 z1 z2 z3 z4
        cases ah2
        · have hG : G = some v := by simpa using HE.out
          subst hG
          go_wp2
          go_ret2
          exact ⟨rfl, hb2⟩
        · go_wp2
          go_roundw
          case rel => exact ⟨r, rfl, HR.out rfl, hb2, hk2⟩
          case measure => exact HM.out.2
      · go_wp2
        go_roundw
        case rel => exact ⟨l, rfl, HL.out rfl, hb1, hk1⟩
        case measure => exact HM.out.1

end Go.Proofs.YtfhncfghblkgeaaGreat
