/-
  The walk: framed.
-/
import Derived.Test.YtfhncfghblkgeaaCoded
import Derived.Test.YtfhncfghblkgeaaPackBase
namespace Go.Proofs.Ytfhncfghblkgeaa
open Go.RowKit

theorem bcellAt {B : Nat} {W w1 : World} (hb : Below B W w1) (b o : Nat) (h : b < B) : w1.cell? ⟨b, o, none⟩ = W.cell? ⟨b, o, none⟩ := hb.cell (p := ⟨b, o, none⟩) h

theorem frameB_3 (k : Int) (a b c : Nat) : [k] ++ code a ++ code b ++ code c = frameB k [(a : Int), (b : Int), (c : Int)] := by simp [frameB]
theorem frameB_2 (k : Int) (a b : Nat) : [k] ++ code a ++ code b = frameB k [(a : Int), (b : Int)] := by simp [frameB]

set_option maxRecDepth 100000 in
set_option maxHeartbeats 1000000 in
theorem framed_1 (t c u o : Nat) (w : World) (ht : t < 9223372036854775808) (hc : c < 9223372036854775808) (hu : u < 9223372036854775808) :
    Calls Try.prog 9 #[.agg #[.int .i64 1, .int .i64 t, .int .i64 c, .int .i64 u, .int .i64 o]] w fun e w' => ∃ v, e = .returned v ∧ w'.ownsRow w.heap.size 5 1 v (frameB 1 [(t : Int), (c : Int), (u : Int)]).length ((frameB 1 [(t : Int), (c : Int), (u : Int)]).map (Value.int .u8)) ∧ Below w.heap.size w w' := by
  have lt := code_len9 ht
  have lc := code_len9 hc
  have lu := code_len9 hu
  go_enter Try.func9, Try.ntmps9
  go_wp2_with fail
  refine (coded_nat _ ([(1 : Int)]) t (w.heap.size + 1) _ ht (by simp) (by simp <;> omega) (ownsRow_one (by simp) (.int .u8 1))).mono ?_
  rintro e w0 ⟨v0, rfl, h0, b0⟩
  have s0 : w.heap.size + 1 ≤ w0.heap.size := Nat.le_trans (by simp) b0.size
  have k00 : w0.cell? ⟨w.heap.size, 0, none⟩ = some (.int .i64 1) := (bcellAt b0 _ _ (by omega)).trans (by simp [go_sem])
  have k01 : w0.cell? ⟨w.heap.size, 1, none⟩ = some (.int .i64 t) := (bcellAt b0 _ _ (by omega)).trans (by simp [go_sem])
  have k02 : w0.cell? ⟨w.heap.size, 2, none⟩ = some (.int .i64 c) := (bcellAt b0 _ _ (by omega)).trans (by simp [go_sem])
  have k03 : w0.cell? ⟨w.heap.size, 3, none⟩ = some (.int .i64 u) := (bcellAt b0 _ _ (by omega)).trans (by simp [go_sem])
  have k04 : w0.cell? ⟨w.heap.size, 4, none⟩ = some (.int .i64 o) := (bcellAt b0 _ _ (by omega)).trans (by simp [go_sem])
  go_wp2_with fail
  refine (coded_nat _ ([(1 : Int)] ++ code t) c (w.heap.size + 1) _ hc s0 (by simp <;> omega) h0).mono ?_
  rintro e w1 ⟨v1, rfl, h1, b1⟩
  have s1 : w.heap.size + 1 ≤ w1.heap.size := Nat.le_trans s0 b1.size
  have k10 : w1.cell? ⟨w.heap.size, 0, none⟩ = some (.int .i64 1) := (bcellAt b1 _ _ (by omega)).trans k00
  have k11 : w1.cell? ⟨w.heap.size, 1, none⟩ = some (.int .i64 t) := (bcellAt b1 _ _ (by omega)).trans k01
  have k12 : w1.cell? ⟨w.heap.size, 2, none⟩ = some (.int .i64 c) := (bcellAt b1 _ _ (by omega)).trans k02
  have k13 : w1.cell? ⟨w.heap.size, 3, none⟩ = some (.int .i64 u) := (bcellAt b1 _ _ (by omega)).trans k03
  have k14 : w1.cell? ⟨w.heap.size, 4, none⟩ = some (.int .i64 o) := (bcellAt b1 _ _ (by omega)).trans k04
  clear k00 k01 k02 k03 k04
  go_wp2_with fail
  refine (coded_nat _ ([(1 : Int)] ++ code t ++ code c) u (w.heap.size + 1) _ hu s1 (by simp <;> omega) h1).mono ?_
  rintro e w2 ⟨v2, rfl, h2, b2⟩
  go_wp2_with fail
  go_ret
  refine ⟨_, rfl, ?_, ?_⟩
  · rw [← frameB_3]; exact ownsRow_mono h2 (by omega)
  · exact ((((show Below w.heap.size w _ from by repeat (first | exact Below.refl _ _ | refine Below.drew ?_ | refine Below.alloc ?_ (by first | exact Nat.le_refl _ | (simp <;> omega)) _))).trans (b0.mono (by omega))).trans (b1.mono (by omega))).trans (b2.mono (by omega))

set_option maxRecDepth 100000 in
set_option maxHeartbeats 1000000 in
theorem framed_2 (t c u o : Nat) (w : World) (ht : t < 9223372036854775808) (hc : c < 9223372036854775808) (ho : o < 9223372036854775808) :
    Calls Try.prog 9 #[.agg #[.int .i64 2, .int .i64 t, .int .i64 c, .int .i64 u, .int .i64 o]] w fun e w' => ∃ v, e = .returned v ∧ w'.ownsRow w.heap.size 5 1 v (frameB 2 [(t : Int), (c : Int), (o : Int)]).length ((frameB 2 [(t : Int), (c : Int), (o : Int)]).map (Value.int .u8)) ∧ Below w.heap.size w w' := by
  have lt := code_len9 ht
  have lc := code_len9 hc
  have lo := code_len9 ho
  go_enter Try.func9, Try.ntmps9
  go_wp2_with fail
  refine (coded_nat _ ([(2 : Int)]) t (w.heap.size + 1) _ ht (by simp) (by simp <;> omega) (ownsRow_one (by simp) (.int .u8 2))).mono ?_
  rintro e w0 ⟨v0, rfl, h0, b0⟩
  have s0 : w.heap.size + 1 ≤ w0.heap.size := Nat.le_trans (by simp) b0.size
  have k00 : w0.cell? ⟨w.heap.size, 0, none⟩ = some (.int .i64 2) := (bcellAt b0 _ _ (by omega)).trans (by simp [go_sem])
  have k01 : w0.cell? ⟨w.heap.size, 1, none⟩ = some (.int .i64 t) := (bcellAt b0 _ _ (by omega)).trans (by simp [go_sem])
  have k02 : w0.cell? ⟨w.heap.size, 2, none⟩ = some (.int .i64 c) := (bcellAt b0 _ _ (by omega)).trans (by simp [go_sem])
  have k03 : w0.cell? ⟨w.heap.size, 3, none⟩ = some (.int .i64 u) := (bcellAt b0 _ _ (by omega)).trans (by simp [go_sem])
  have k04 : w0.cell? ⟨w.heap.size, 4, none⟩ = some (.int .i64 o) := (bcellAt b0 _ _ (by omega)).trans (by simp [go_sem])
  go_wp2_with fail
  refine (coded_nat _ ([(2 : Int)] ++ code t) c (w.heap.size + 1) _ hc s0 (by simp <;> omega) h0).mono ?_
  rintro e w1 ⟨v1, rfl, h1, b1⟩
  have s1 : w.heap.size + 1 ≤ w1.heap.size := Nat.le_trans s0 b1.size
  have k10 : w1.cell? ⟨w.heap.size, 0, none⟩ = some (.int .i64 2) := (bcellAt b1 _ _ (by omega)).trans k00
  have k11 : w1.cell? ⟨w.heap.size, 1, none⟩ = some (.int .i64 t) := (bcellAt b1 _ _ (by omega)).trans k01
  have k12 : w1.cell? ⟨w.heap.size, 2, none⟩ = some (.int .i64 c) := (bcellAt b1 _ _ (by omega)).trans k02
  have k13 : w1.cell? ⟨w.heap.size, 3, none⟩ = some (.int .i64 u) := (bcellAt b1 _ _ (by omega)).trans k03
  have k14 : w1.cell? ⟨w.heap.size, 4, none⟩ = some (.int .i64 o) := (bcellAt b1 _ _ (by omega)).trans k04
  clear k00 k01 k02 k03 k04
  go_wp2_with fail
  refine (coded_nat _ ([(2 : Int)] ++ code t ++ code c) o (w.heap.size + 1) _ ho s1 (by simp <;> omega) h1).mono ?_
  rintro e w2 ⟨v2, rfl, h2, b2⟩
  go_wp2_with fail
  go_ret
  refine ⟨_, rfl, ?_, ?_⟩
  · rw [← frameB_3]; exact ownsRow_mono h2 (by omega)
  · exact ((((show Below w.heap.size w _ from by repeat (first | exact Below.refl _ _ | refine Below.drew ?_ | refine Below.alloc ?_ (by first | exact Nat.le_refl _ | (simp <;> omega)) _))).trans (b0.mono (by omega))).trans (b1.mono (by omega))).trans (b2.mono (by omega))

set_option maxRecDepth 100000 in
set_option maxHeartbeats 1000000 in
theorem framed_3 (t c u o : Nat) (w : World) (ht : t < 9223372036854775808) (hc : c < 9223372036854775808) (ho : o < 9223372036854775808) :
    Calls Try.prog 9 #[.agg #[.int .i64 3, .int .i64 t, .int .i64 c, .int .i64 u, .int .i64 o]] w fun e w' => ∃ v, e = .returned v ∧ w'.ownsRow w.heap.size 5 1 v (frameB 3 [(t : Int), (c : Int), (o : Int)]).length ((frameB 3 [(t : Int), (c : Int), (o : Int)]).map (Value.int .u8)) ∧ Below w.heap.size w w' := by
  have lt := code_len9 ht
  have lc := code_len9 hc
  have lo := code_len9 ho
  go_enter Try.func9, Try.ntmps9
  go_wp2_with fail
  refine (coded_nat _ ([(3 : Int)]) t (w.heap.size + 1) _ ht (by simp) (by simp <;> omega) (ownsRow_one (by simp) (.int .u8 3))).mono ?_
  rintro e w0 ⟨v0, rfl, h0, b0⟩
  have s0 : w.heap.size + 1 ≤ w0.heap.size := Nat.le_trans (by simp) b0.size
  have k00 : w0.cell? ⟨w.heap.size, 0, none⟩ = some (.int .i64 3) := (bcellAt b0 _ _ (by omega)).trans (by simp [go_sem])
  have k01 : w0.cell? ⟨w.heap.size, 1, none⟩ = some (.int .i64 t) := (bcellAt b0 _ _ (by omega)).trans (by simp [go_sem])
  have k02 : w0.cell? ⟨w.heap.size, 2, none⟩ = some (.int .i64 c) := (bcellAt b0 _ _ (by omega)).trans (by simp [go_sem])
  have k03 : w0.cell? ⟨w.heap.size, 3, none⟩ = some (.int .i64 u) := (bcellAt b0 _ _ (by omega)).trans (by simp [go_sem])
  have k04 : w0.cell? ⟨w.heap.size, 4, none⟩ = some (.int .i64 o) := (bcellAt b0 _ _ (by omega)).trans (by simp [go_sem])
  go_wp2_with fail
  refine (coded_nat _ ([(3 : Int)] ++ code t) c (w.heap.size + 1) _ hc s0 (by simp <;> omega) h0).mono ?_
  rintro e w1 ⟨v1, rfl, h1, b1⟩
  have s1 : w.heap.size + 1 ≤ w1.heap.size := Nat.le_trans s0 b1.size
  have k10 : w1.cell? ⟨w.heap.size, 0, none⟩ = some (.int .i64 3) := (bcellAt b1 _ _ (by omega)).trans k00
  have k11 : w1.cell? ⟨w.heap.size, 1, none⟩ = some (.int .i64 t) := (bcellAt b1 _ _ (by omega)).trans k01
  have k12 : w1.cell? ⟨w.heap.size, 2, none⟩ = some (.int .i64 c) := (bcellAt b1 _ _ (by omega)).trans k02
  have k13 : w1.cell? ⟨w.heap.size, 3, none⟩ = some (.int .i64 u) := (bcellAt b1 _ _ (by omega)).trans k03
  have k14 : w1.cell? ⟨w.heap.size, 4, none⟩ = some (.int .i64 o) := (bcellAt b1 _ _ (by omega)).trans k04
  clear k00 k01 k02 k03 k04
  go_wp2_with fail
  refine (coded_nat _ ([(3 : Int)] ++ code t ++ code c) o (w.heap.size + 1) _ ho s1 (by simp <;> omega) h1).mono ?_
  rintro e w2 ⟨v2, rfl, h2, b2⟩
  go_wp2_with fail
  go_ret
  refine ⟨_, rfl, ?_, ?_⟩
  · rw [← frameB_3]; exact ownsRow_mono h2 (by omega)
  · exact ((((show Below w.heap.size w _ from by repeat (first | exact Below.refl _ _ | refine Below.drew ?_ | refine Below.alloc ?_ (by first | exact Nat.le_refl _ | (simp <;> omega)) _))).trans (b0.mono (by omega))).trans (b1.mono (by omega))).trans (b2.mono (by omega))

set_option maxRecDepth 100000 in
set_option maxHeartbeats 1000000 in
theorem framed_4 (t c u o : Nat) (w : World) (hc : c < 9223372036854775808) (ho : o < 9223372036854775808) :
    Calls Try.prog 9 #[.agg #[.int .i64 4, .int .i64 t, .int .i64 c, .int .i64 u, .int .i64 o]] w fun e w' => ∃ v, e = .returned v ∧ w'.ownsRow w.heap.size 5 1 v (frameB 4 [(c : Int), (o : Int)]).length ((frameB 4 [(c : Int), (o : Int)]).map (Value.int .u8)) ∧ Below w.heap.size w w' := by
  have lc := code_len9 hc
  have lo := code_len9 ho
  go_enter Try.func9, Try.ntmps9
  go_wp2_with fail
  refine (coded_nat _ ([(4 : Int)]) c (w.heap.size + 1) _ hc (by simp) (by simp <;> omega) (ownsRow_one (by simp) (.int .u8 4))).mono ?_
  rintro e w0 ⟨v0, rfl, h0, b0⟩
  have s0 : w.heap.size + 1 ≤ w0.heap.size := Nat.le_trans (by simp) b0.size
  have k00 : w0.cell? ⟨w.heap.size, 0, none⟩ = some (.int .i64 4) := (bcellAt b0 _ _ (by omega)).trans (by simp [go_sem])
  have k01 : w0.cell? ⟨w.heap.size, 1, none⟩ = some (.int .i64 t) := (bcellAt b0 _ _ (by omega)).trans (by simp [go_sem])
  have k02 : w0.cell? ⟨w.heap.size, 2, none⟩ = some (.int .i64 c) := (bcellAt b0 _ _ (by omega)).trans (by simp [go_sem])
  have k03 : w0.cell? ⟨w.heap.size, 3, none⟩ = some (.int .i64 u) := (bcellAt b0 _ _ (by omega)).trans (by simp [go_sem])
  have k04 : w0.cell? ⟨w.heap.size, 4, none⟩ = some (.int .i64 o) := (bcellAt b0 _ _ (by omega)).trans (by simp [go_sem])
  go_wp2_with fail
  refine (coded_nat _ ([(4 : Int)] ++ code c) o (w.heap.size + 1) _ ho s0 (by simp <;> omega) h0).mono ?_
  rintro e w1 ⟨v1, rfl, h1, b1⟩
  go_wp2_with fail
  go_ret
  refine ⟨_, rfl, ?_, ?_⟩
  · rw [← frameB_2]; exact ownsRow_mono h1 (by omega)
  · exact (((show Below w.heap.size w _ from by repeat (first | exact Below.refl _ _ | refine Below.drew ?_ | refine Below.alloc ?_ (by first | exact Nat.le_refl _ | (simp <;> omega)) _))).trans (b0.mono (by omega))).trans (b1.mono (by omega))

end Go.Proofs.Ytfhncfghblkgeaa
