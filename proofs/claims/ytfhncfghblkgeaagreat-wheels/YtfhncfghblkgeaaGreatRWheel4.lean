/-
  The reference's timers: First and Advance.
-/
import Derived.Test.YtfhncfghblkgeaaGreatRWheel3
import Derived.Test.YtfhncfghblkgeaaGreatWBase
namespace Go.Proofs.YtfhncfghblkgeaaGreat
open Go.RowKit
set_option maxRecDepth 100000 in
set_option maxHeartbeats 2000000 in
theorem rfirst_any (B R : Nat) (now : Int) (v : Value) (L : List (Int × Int)) (w : World) (h : rwAt w B R now v L) (hl : L.length * 16 ≤ 140737488351232) :
    Calls Tryz.prog 80 #[.pointer (some ⟨R, 0, none⟩)] w fun e w' => e = .returned (.tuple #[.agg #[.int .i64 (firstT L).1, .int .i64 (firstT L).2], .bool (firstB L)]) ∧ Below w.heap.size w w' := by
  obtain ⟨k0, k1⟩ := rw_cells h.1
  have hRw : R < w.heap.size := (Array.getElem?_eq_some_iff.1 h.1).1
  have HX : Hid (∀ O, Calls Tryz.prog 118 #[.pointer (some ⟨R, 0, none⟩)] (w.alloc O) fun e w' => e = .returned (.int .i64 (leastTo L L.length)) ∧ Below (w.heap.size + 1) (w.alloc O) w') := by
    intro O
    have := rleast_any R v L (w.alloc O) (by rw [World.cell?_alloc_past _ _ _ hRw]; exact k1) (duesAt_of (h.2.alloc O)) hl
    simpa using this
  have hlb := leastTo_lt L L.length
  by_cases hx : leastTo L L.length < 0
  · have HE : Hid (firstT L = (0, 0) ∧ firstB L = false) := by simp [Hid, firstT, firstB, hx]
    generalize leastTo L L.length = x at HX hx
    clear h hlb
    go_enter Tryz.func80, Tryz.ntmps80
    go_wp2_with fail
    refine (HX.out _).mono ?_
    rintro e w1 ⟨rfl, b1⟩
    have n0 : w1.heap[w.heap.size]? = some (.cells #[.int .i64 0, .int .i64 0] 131 (0, 0)) := (b1.block _ (Nat.lt_succ_self _)).trans (heap_alloc_new w _)
    obtain ⟨r0, r1⟩ := rw_cells n0
    have f0 := row_free n0 0
    have f1 := row_free n0 1
    have w01 : Below w.heap.size w w1 := ((Below.refl _ _).alloc (Nat.le_refl _) _).trans (b1.mono (by omega))
    go_wp2
    refine bodyPost_ret (v := .tuple #[.agg #[.int .i64 0, .int .i64 0], .bool false]) (by simp [results, Tryz.results80, go_sem, r0, r1]) rfl ⟨by rw [HE.out.1, HE.out.2], ?_⟩
    exact ((w01.setCell (p := ⟨w.heap.size, 0, none⟩) (Nat.le_refl _) _).setCell (p := ⟨w.heap.size, 1, none⟩) (Nat.le_refl _) _)
  · obtain ⟨q, hq⟩ := Int.eq_ofNat_of_zero_le (show 0 ≤ leastTo L L.length by omega)
    have hql : q < L.length := by omega
    have HE : Hid (firstT L = L.getD q (0, 0) ∧ firstB L = true) := by simp [Hid, firstT, firstB, hq]; intro hc; omega
    obtain ⟨a, c, rfl, hc⟩ := duesAt_of h.2
    obtain ⟨g, rfl, hgw, hcell⟩ := hc (by omega)
    obtain ⟨d0, d1⟩ := hcell q hql
    rw [hq] at HX
    generalize L.getD q (0, 0) = p at d0 d1 HE
    obtain ⟨p0, p1⟩ := p
    simp only at d0 d1
    clear h hx hq hlb hc hcell
    go_enter Tryz.func80, Tryz.ntmps80
    go_wp2_with fail
    refine (HX.out _).mono ?_
    rintro e w1 ⟨rfl, b1⟩
    have n0 : w1.heap[w.heap.size]? = some (.cells #[.int .i64 0, .int .i64 0] 131 (0, 0)) := (b1.block _ (Nat.lt_succ_self _)).trans (heap_alloc_new w _)
    obtain ⟨r0, r1⟩ := rw_cells n0
    have f0 := row_free n0 0
    have f1 := row_free n0 1
    have w01 : Below w.heap.size w w1 := ((Below.refl _ _).alloc (Nat.le_refl _) _).trans (b1.mono (by omega))
    have e1 := (w01.cell (p := ⟨R, 1, none⟩) hRw).trans k1
    have e2 := (w01.cell (p := ⟨g, q * 2, none⟩) hgw).trans d0
    have e3 := (w01.cell (p := ⟨g, q * 2 + 1, none⟩) hgw).trans d1
    go_wp2
    refine bodyPost_ret (v := .tuple #[.agg #[.int .i64 p0, .int .i64 p1], .bool true]) (by simp [results, Tryz.results80, go_sem, r0, r1]) rfl ⟨by rw [HE.out.1, HE.out.2], ?_⟩
    exact ((w01.setCell (p := ⟨w.heap.size, 0, none⟩) (Nat.le_refl _) _).setCell (p := ⟨w.heap.size, 1, none⟩) (Nat.le_refl _) _)

end Go.Proofs.YtfhncfghblkgeaaGreat
