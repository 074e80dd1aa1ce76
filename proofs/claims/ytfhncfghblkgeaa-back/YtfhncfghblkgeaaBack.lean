/-
  The law Back: its walk, and the statement.
-/
import Derived.Test.YtfhncfghblkgeaaBack0
import Derived.Test.YtfhncfghblkgeaaLeafK
import Derived.Test.YtfhncfghblkgeaaOpen
import Derived.Test.YtfhncfghblkgeaaOpenB
namespace Go.Proofs.Ytfhncfghblkgeaa
open Go.ChangeShapes Go.WideShapes Go.ChangeAt Go.RowKit
set_option linter.unusedVariables false

set_option maxRecDepth 100000 in
set_option maxHeartbeats 1000000 in
theorem back_yes (k t c u o : Int) (a : Option Addr) (len cap : Nat) (l : List Int) (w : World) (h : isB k t c u o = true) (hs : sliceOf w a len cap l) :
    Calls Try.prog 3 #[.agg #[.int .i64 k, .int .i64 t, .int .i64 c, .int .i64 u, .int .i64 o], .slice a len cap] w fun e w' => e = .returned (.bool true) ∧ Below w.heap.size w w' := by
  have HI : Hid (isB k t c u o = true) := h
  have HS : Hid (sliceOf w a len cap l) := hs
  clear h hs
  go_enter Try.func3, Try.ntmps3
  go_wp2_with fail
  refine (pack_yes k t c u o _ HI.out).mono ?_
  rintro e w1 ⟨v1, rfl, hv1, b1⟩
  obtain ⟨g1, cap1, rfl, hs1⟩ := bytesAt_slice hv1 (frame_byte HI.out)
  have HS1 : Hid (sliceOf w1 (some ⟨g1, 0, none⟩) (frameB k (numsOf k t c u o)).length cap1 (frameB k (numsOf k t c u o))) := hs1
  clear hv1 hs1
  have s1 : w.heap.size < w1.heap.size := by have := b1.size; simp at this; omega
  have k0 : w1.cell? ⟨w.heap.size, 0, none⟩ = some (.int .i64 k) := (b1.cell (p := ⟨w.heap.size, 0, none⟩) (by first | exact s0 | simp)).trans (by simp [go_sem])
  have k1 : w1.cell? ⟨w.heap.size, 1, none⟩ = some (.int .i64 t) := (b1.cell (p := ⟨w.heap.size, 1, none⟩) (by first | exact s0 | simp)).trans (by simp [go_sem])
  have k2 : w1.cell? ⟨w.heap.size, 2, none⟩ = some (.int .i64 c) := (b1.cell (p := ⟨w.heap.size, 2, none⟩) (by first | exact s0 | simp)).trans (by simp [go_sem])
  have k3 : w1.cell? ⟨w.heap.size, 3, none⟩ = some (.int .i64 u) := (b1.cell (p := ⟨w.heap.size, 3, none⟩) (by first | exact s0 | simp)).trans (by simp [go_sem])
  have k4 : w1.cell? ⟨w.heap.size, 4, none⟩ = some (.int .i64 o) := (b1.cell (p := ⟨w.heap.size, 4, none⟩) (by first | exact s0 | simp)).trans (by simp [go_sem])
  go_wp2_with fail
  refine (is_any k t c u o _).mono ?_
  rintro e w2 ⟨rfl, b2⟩
  rw [HI.out]
  have s2 : w.heap.size < w2.heap.size := Nat.lt_of_lt_of_le s1 b2.size
  have l0 : w2.cell? ⟨w.heap.size, 0, none⟩ = some (.int .i64 k) := (b2.cell (p := ⟨w.heap.size, 0, none⟩) (by first | exact s1 | simp)).trans k0
  have l1 : w2.cell? ⟨w.heap.size, 1, none⟩ = some (.int .i64 t) := (b2.cell (p := ⟨w.heap.size, 1, none⟩) (by first | exact s1 | simp)).trans k1
  have l2 : w2.cell? ⟨w.heap.size, 2, none⟩ = some (.int .i64 c) := (b2.cell (p := ⟨w.heap.size, 2, none⟩) (by first | exact s1 | simp)).trans k2
  have l3 : w2.cell? ⟨w.heap.size, 3, none⟩ = some (.int .i64 u) := (b2.cell (p := ⟨w.heap.size, 3, none⟩) (by first | exact s1 | simp)).trans k3
  have l4 : w2.cell? ⟨w.heap.size, 4, none⟩ = some (.int .i64 o) := (b2.cell (p := ⟨w.heap.size, 4, none⟩) (by first | exact s1 | simp)).trans k4
  clear k0 k1 k2 k3 k4
  have w02 : Below w.heap.size w w2 := (((Below.refl _ _).alloc (Nat.le_refl _) _).trans (b1.mono (by simp))).trans (b2.mono (by omega))
  go_wp2_with fail
  refine (unpack_any _ _ _ _ _ (sliceOf_below HS1.out b2)).mono ?_
  rintro e w3 ⟨k', t', c', u', o', err, rfl, hun, b3⟩
  obtain ⟨rfl, rfl, rfl, rfl, rfl, rfl⟩ := un_same HI.out hun
  have s3 : w.heap.size < w3.heap.size := Nat.lt_of_lt_of_le s2 b3.size
  have m0 : w3.cell? ⟨w.heap.size, 0, none⟩ = some (.int .i64 k') := (b3.cell (p := ⟨w.heap.size, 0, none⟩) (by first | exact s2 | simp)).trans l0
  have m1 : w3.cell? ⟨w.heap.size, 1, none⟩ = some (.int .i64 t') := (b3.cell (p := ⟨w.heap.size, 1, none⟩) (by first | exact s2 | simp)).trans l1
  have m2 : w3.cell? ⟨w.heap.size, 2, none⟩ = some (.int .i64 c') := (b3.cell (p := ⟨w.heap.size, 2, none⟩) (by first | exact s2 | simp)).trans l2
  have m3 : w3.cell? ⟨w.heap.size, 3, none⟩ = some (.int .i64 u') := (b3.cell (p := ⟨w.heap.size, 3, none⟩) (by first | exact s2 | simp)).trans l3
  have m4 : w3.cell? ⟨w.heap.size, 4, none⟩ = some (.int .i64 o') := (b3.cell (p := ⟨w.heap.size, 4, none⟩) (by first | exact s2 | simp)).trans l4
  clear l0 l1 l2 l3 l4 hun
  have w03 : Below w.heap.size w w3 := w02.trans (b3.mono (by omega))
  clear b1 b2 b3 w02
  go_wp2_with fail
  refine (unpack_any a len cap l _ (sliceOf_below HS.out (w03.alloc w03.size _))).mono ?_
  rintro e w5 ⟨k2, t2, c2, u2, o2, err2, rfl, hun2, b5⟩
  have w05 : Below w.heap.size w w5 := Below.trans (w03.alloc w03.size _) (b5.mono (by first | exact w02.size | (simp <;> omega)))
  clear b5
  rcases hun2 with ⟨rfl, hi2, hl2⟩ | ⟨rfl, rfl, rfl, rfl, rfl, rfl, _⟩
  · have HI2 : Hid (isB k2 t2 c2 u2 o2 = true) := hi2
    have HL2 : Hid (l = frameB k2 (numsOf k2 t2 c2 u2 o2)) := hl2
    clear hi2 hl2
    go_wp2_with fail
    refine (pack_yes k2 t2 c2 u2 o2 _ HI2.out).mono ?_
    rintro e w6 ⟨v6, rfl, hv6, b6⟩
    have s6 : w.heap.size ≤ w6.heap.size := Nat.le_trans w05.size (Nat.le_trans (by simp) b6.size)
    have w06 : Below w.heap.size w w6 := (w05.alloc w05.size _).trans (b6.mono (by simp; have := w05.size; omega))
    obtain ⟨g6, cap6, rfl, _, _, _, _, hc6⟩ := hv6
    have hs6 := sliceOf_below HS.out w06
    obtain ⟨hl6, _, _, _, hcl⟩ := hs6
    obtain ⟨gb, ob, rfl, _, hcb⟩ := hcl (by rw [HL2.out]; simp [frameB])
    have e1 := run_convert_bytes_arg w6 24 5 Try.underlying24 Try.underlying5 g6 0 _ cap6 _ rfl hc6 9 Try.underlying9
    have e2 := run_convert_bytes_arg w6 24 5 Try.underlying24 Try.underlying5 gb ob len cap l hl6 hcb 9 Try.underlying9
    rw [HL2.out] at e2
    clear hc6 hcb hcl b6 hl6
    go_wp2
    go_ret
    exact ⟨rfl, w06⟩
  · go_wp2
    go_ret
    exact ⟨rfl, w05.alloc w05.size _⟩

set_option maxRecDepth 100000 in
set_option maxHeartbeats 1000000 in
theorem back_no (k t c u o : Int) (a : Option Addr) (len cap : Nat) (l : List Int) (w : World) (h : isB k t c u o = false) (hs : sliceOf w a len cap l) :
    Calls Try.prog 3 #[.agg #[.int .i64 k, .int .i64 t, .int .i64 c, .int .i64 u, .int .i64 o], .slice a len cap] w fun e w' => e = .returned (.bool true) ∧ Below w.heap.size w w' := by
  have HI : Hid (isB k t c u o = false) := h
  have HS : Hid (sliceOf w a len cap l) := hs
  clear h hs
  go_enter Try.func3, Try.ntmps3
  go_wp2_with fail
  refine (pack_no k t c u o _ HI.out).mono ?_
  rintro e w1 ⟨rfl, b1⟩
  have s1 : w.heap.size < w1.heap.size := by have := b1.size; simp at this; omega
  have k0 : w1.cell? ⟨w.heap.size, 0, none⟩ = some (.int .i64 k) := (b1.cell (p := ⟨w.heap.size, 0, none⟩) (by first | exact s0 | simp)).trans (by simp [go_sem])
  have k1 : w1.cell? ⟨w.heap.size, 1, none⟩ = some (.int .i64 t) := (b1.cell (p := ⟨w.heap.size, 1, none⟩) (by first | exact s0 | simp)).trans (by simp [go_sem])
  have k2 : w1.cell? ⟨w.heap.size, 2, none⟩ = some (.int .i64 c) := (b1.cell (p := ⟨w.heap.size, 2, none⟩) (by first | exact s0 | simp)).trans (by simp [go_sem])
  have k3 : w1.cell? ⟨w.heap.size, 3, none⟩ = some (.int .i64 u) := (b1.cell (p := ⟨w.heap.size, 3, none⟩) (by first | exact s0 | simp)).trans (by simp [go_sem])
  have k4 : w1.cell? ⟨w.heap.size, 4, none⟩ = some (.int .i64 o) := (b1.cell (p := ⟨w.heap.size, 4, none⟩) (by first | exact s0 | simp)).trans (by simp [go_sem])
  go_wp2_with fail
  refine (is_any k t c u o _).mono ?_
  rintro e w2 ⟨rfl, b2⟩
  rw [HI.out]
  have w02 : Below w.heap.size w w2 := (((Below.refl _ _).alloc (Nat.le_refl _) _).trans (b1.mono (by simp))).trans (b2.mono (by omega))
  clear k0 k1 k2 k3 k4 b1 b2
  go_wp2_with fail
  refine (unpack_any a len cap l _ (sliceOf_below HS.out (w02))).mono ?_
  rintro e w5 ⟨k2, t2, c2, u2, o2, err2, rfl, hun2, b5⟩
  have w05 : Below w.heap.size w w5 := Below.trans (w02) (b5.mono (by first | exact w02.size | (simp <;> omega)))
  clear b5
  rcases hun2 with ⟨rfl, hi2, hl2⟩ | ⟨rfl, rfl, rfl, rfl, rfl, rfl, _⟩
  · have HI2 : Hid (isB k2 t2 c2 u2 o2 = true) := hi2
    have HL2 : Hid (l = frameB k2 (numsOf k2 t2 c2 u2 o2)) := hl2
    clear hi2 hl2
    go_wp2_with fail
    refine (pack_yes k2 t2 c2 u2 o2 _ HI2.out).mono ?_
    rintro e w6 ⟨v6, rfl, hv6, b6⟩
    have s6 : w.heap.size ≤ w6.heap.size := Nat.le_trans w05.size (Nat.le_trans (by simp) b6.size)
    have w06 : Below w.heap.size w w6 := (w05.alloc w05.size _).trans (b6.mono (by simp; have := w05.size; omega))
    obtain ⟨g6, cap6, rfl, _, _, _, _, hc6⟩ := hv6
    have hs6 := sliceOf_below HS.out w06
    obtain ⟨hl6, _, _, _, hcl⟩ := hs6
    obtain ⟨gb, ob, rfl, _, hcb⟩ := hcl (by rw [HL2.out]; simp [frameB])
    have e1 := run_convert_bytes_arg w6 24 5 Try.underlying24 Try.underlying5 g6 0 _ cap6 _ rfl hc6 9 Try.underlying9
    have e2 := run_convert_bytes_arg w6 24 5 Try.underlying24 Try.underlying5 gb ob len cap l hl6 hcb 9 Try.underlying9
    rw [HL2.out] at e2
    clear hc6 hcb hcl b6 hl6
    go_wp2
    go_ret
    exact ⟨rfl, w06⟩
  · go_wp2
    go_ret
    exact ⟨rfl, w05.alloc w05.size _⟩

theorem back_walk (k t c u o : Int) (a : Option Addr) (len cap : Nat) (l : List Int) (w : World) (hs : sliceOf w a len cap l) :
    Calls Try.prog 3 #[.agg #[.int .i64 k, .int .i64 t, .int .i64 c, .int .i64 u, .int .i64 o], .slice a len cap] w fun e w' => e = .returned (.bool true) ∧ Below w.heap.size w w' := by
  by_cases h : isB k t c u o = true
  · exact back_yes k t c u o a len cap l w h hs
  · exact back_no k t c u o a len cap l w (by simpa using h) hs

set_option maxRecDepth 100000 in
theorem back_lifted (os : Os) (started : os.Started) (H : Type) (enc : TypeId × Value → H) :
    ReturnsInHanded {} Try.checked os 3 .any (Rows.backSpec.pre6 enc Try.prog Try.f3 Rows.backRow.domain false) (Rows.backSpec.post enc Try.prog Try.f3 false true false false) := by
  refine returnsInHanded_of_change (C := Try.checked) own started (by kernel_rfl) Try.func3
    (ChangeSpec.witness6 (enc := enc) (C := Try.checked) false ⟨#[], #[.agg #[.int .i64 0, .int .i64 0, .int .i64 0, .int .i64 0, .int .i64 0], .slice none 0 0], []⟩ 8 (by kernel_rfl) (by kernel_rfl) (by kernel_rfl) (by kernel_rfl)) ?_
  intro W base args ds gs before hval0 hW hcnd _
  have hval : ∀ (j : Nat) t v, Try.f3.params[j]? = some t → args[j]? = some v → Value.okWide Try.prog W .any base t v := hval0
  have hW' := hW
  obtain ⟨p, q, hA0, hV, rfl, hfz, hnd⟩ := hW
  have hA : DataW.TrodAll enc Try.prog W 0 (fun _ => true) true Try.f3.params.toList args.toList ds p := hA0
  rw [Try.params3] at hA hval
  obtain ⟨v0, vs0, d0, ds0, p0, q0, hargs, rfl, rfl, h0, r0⟩ := trodAll_cons hA
  obtain ⟨v1, vs1, d1, ds1, p1, q1, rfl, rfl, rfl, h1, r1⟩ := trodAll_cons r0
  obtain ⟨rfl, rfl, rfl⟩ := trodAll_nil r1
  obtain rfl : args = #[v0, v1] := by cases args; simp_all
  obtain ⟨rfl, rfl⟩ := trodVars_none hV
  have k0 := h0
  have k1 := h1
  have lt0 : ∀ x ∈ p0, x.block < W.heap.size := by obtain ⟨m, hm⟩ := k0; exact DataW.trod_lt m _ _ _ hm
  have lt1 : ∀ x ∈ p1, x.block < W.heap.size := by obtain ⟨m, hm⟩ := k1; exact DataW.trod_lt m _ _ _ hm
  obtain ⟨k, t, c, u, o, rfl, _, _, _, _, _⟩ := open_req (hval 0 23 v0 rfl rfl) h0
  obtain ⟨a, len, cap, l, rfl, hs⟩ := open_bytes (hval 1 24 v1 rfl rfl) h1
  clear hA0 hval0
  refine (back_walk k t c u o a len cap l W hs).mono fun e W' ⟨he, bel⟩ => ?_
  subst he
  exact ⟨_, rfl, _, _, _, [], _, [], hW', trodAll_mk1 (shut_bool Try.underlying4 _), (trodAll_cons_mk (Below.trod laidOut (by kernel_rfl) (of_decide_eq_true (by kernel_rfl)) k0 bel lt0) (trodAll_cons_mk (Below.trod laidOut (by kernel_rfl) (of_decide_eq_true (by kernel_rfl)) k1 bel lt1) trodAll_mk0)), rfl, bel.frame _, fun h => by cases h⟩

theorem back_holds : Rows.BackSaid :=
  OpenClaim.holds_of_wide 3 Try.f3 rfl rfl rfl rfl rfl rfl rfl ⟨rfl, rfl, rfl, rfl, rfl⟩ rfl rfl rfl rfl rfl (by kernel_rfl) Try.func3 (by kernel_rfl)
    (of_decide_eq_true (by kernel_rfl)) (by unfold Func.isWrapper; first | (rw [if_pos (by decide +kernel)]; kernel_rfl) | (rw [if_neg (by decide +kernel)]; exact ⟨rfl, rfl⟩))
    (fun os started H enc _ => back_lifted os started H enc)

#print axioms back_holds
end Go.Proofs.Ytfhncfghblkgeaa
