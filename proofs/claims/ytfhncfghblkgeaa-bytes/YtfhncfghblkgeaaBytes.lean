/-
  The law Bytes: its walk, and the statement.
-/
import Derived.Test.YtfhncfghblkgeaaPackAll
import Derived.Test.YtfhncfghblkgeaaFramed
import Derived.Test.YtfhncfghblkgeaaOpen
namespace Go.Proofs.Ytfhncfghblkgeaa
open Go.ChangeShapes Go.WideShapes Go.ChangeAt Go.RowKit
set_option linter.unusedVariables false

/-- A valid request: framed's bytes. -/
theorem framed_yes (k t c u o : Int) (w : World) (h : isB k t c u o = true) :
    Calls Try.prog 9 #[.agg #[.int .i64 k, .int .i64 t, .int .i64 c, .int .i64 u, .int .i64 o]] w fun e w' => ∃ v, e = .returned v ∧ bytesAt w' w.heap.size v (frameB k (numsOf k t c u o)) ∧ Below w.heap.size w w' := by
  have fin : ∀ (ns : List Int) (e : Ending) (w' : World), (∃ v, e = .returned v ∧ w'.ownsRow w.heap.size 5 1 v (frameB k ns).length ((frameB k ns).map (Value.int .u8)) ∧ Below w.heap.size w w') →
      ∃ v, e = .returned v ∧ bytesAt w' w.heap.size v (frameB k ns) ∧ Below w.heap.size w w' := by
    rintro ns e w' ⟨v, he, ho, hb⟩
    exact ⟨v, he, bytesAt_of ho (frameB_pos k ns), hb⟩
  by_cases h1 : k = 1
  · subst h1
    simp [isB] at h
    obtain ⟨⟨⟨ht, hc⟩, hu⟩, rfl⟩ := h
    obtain ⟨t, rfl, _, lt⟩ := numB_nat ht
    obtain ⟨c, rfl, _, lc⟩ := numB_nat hc
    obtain ⟨u, rfl, _, lu⟩ := numB_nat hu
    exact (framed_1 t c u 0 w (by omega) (by omega) (by omega)).mono (fin [(t : Int), (c : Int), (u : Int)])
  by_cases h2 : k = 2
  · subst h2
    simp [isB] at h
    obtain ⟨⟨⟨ht, hc⟩, hu⟩, rfl⟩ := h
    obtain ⟨t, rfl, _, lt⟩ := numB_nat ht
    obtain ⟨c, rfl, _, lc⟩ := numB_nat hc
    obtain ⟨o, rfl, _, lo⟩ := numB_nat hu
    exact (framed_2 t c 0 o w (by omega) (by omega) (by omega)).mono (fin [(t : Int), (c : Int), (o : Int)])
  by_cases h3 : k = 3
  · subst h3
    simp [isB] at h
    obtain ⟨⟨⟨ht, hc⟩, hu⟩, rfl⟩ := h
    obtain ⟨t, rfl, _, lt⟩ := numB_nat ht
    obtain ⟨c, rfl, _, lc⟩ := numB_nat hc
    obtain ⟨o, rfl, _, lo⟩ := numB_nat hu
    exact (framed_3 t c 0 o w (by omega) (by omega) (by omega)).mono (fin [(t : Int), (c : Int), (o : Int)])
  by_cases h4 : k = 4
  · subst h4
    simp [isB] at h
    obtain ⟨⟨⟨hc, hu⟩, rfl⟩, rfl⟩ := h
    obtain ⟨c, rfl, _, lc⟩ := numB_nat hc
    obtain ⟨o, rfl, _, lo⟩ := numB_nat hu
    exact (framed_4 0 c 0 o w (by omega) (by omega)).mono (fin [(c : Int), (o : Int)])
  · simp [isB, h1, h2, h3, h4] at h

set_option maxHeartbeats 1000000 in
theorem bytes_walk (k t c u o : Int) (w : World) :
    Calls Try.prog 4 #[.agg #[.int .i64 k, .int .i64 t, .int .i64 c, .int .i64 u, .int .i64 o]] w fun e w' => e = .returned (.bool true) ∧ Below w.heap.size w w' := by
  by_cases h : isB k t c u o = true
  · have HI : Hid (isB k t c u o = true) := h
    clear h
    go_enter Try.func4, Try.ntmps4
    go_wp2_with fail
    refine (pack_yes k t c u o _ HI.out).mono ?_
    rintro e w1 ⟨v1, rfl, hv1, b1⟩
    have s1 : w.heap.size + 1 ≤ w1.heap.size := by have := b1.size; simpa using this
    have k0 : w1.cell? ⟨w.heap.size, 0, none⟩ = some (.int .i64 k) := (bcellAt b1 _ _ (by simp)).trans (by simp [go_sem])
    have k1 : w1.cell? ⟨w.heap.size, 1, none⟩ = some (.int .i64 t) := (bcellAt b1 _ _ (by simp)).trans (by simp [go_sem])
    have k2 : w1.cell? ⟨w.heap.size, 2, none⟩ = some (.int .i64 c) := (bcellAt b1 _ _ (by simp)).trans (by simp [go_sem])
    have k3 : w1.cell? ⟨w.heap.size, 3, none⟩ = some (.int .i64 u) := (bcellAt b1 _ _ (by simp)).trans (by simp [go_sem])
    have k4 : w1.cell? ⟨w.heap.size, 4, none⟩ = some (.int .i64 o) := (bcellAt b1 _ _ (by simp)).trans (by simp [go_sem])
    go_wp2_with fail
    refine (is_any k t c u o _).mono ?_
    rintro e w2 ⟨rfl, b2⟩
    rw [HI.out]
    have s2 : w.heap.size + 1 ≤ w2.heap.size := Nat.le_trans s1 b2.size
    have l0 := (bcellAt b2 _ 0 (by omega : w.heap.size < w1.heap.size)).trans k0
    have l1 := (bcellAt b2 _ 1 (by omega : w.heap.size < w1.heap.size)).trans k1
    have l2 := (bcellAt b2 _ 2 (by omega : w.heap.size < w1.heap.size)).trans k2
    have l3 := (bcellAt b2 _ 3 (by omega : w.heap.size < w1.heap.size)).trans k3
    have l4 := (bcellAt b2 _ 4 (by omega : w.heap.size < w1.heap.size)).trans k4
    clear k0 k1 k2 k3 k4
    go_wp2_with fail
    refine (framed_yes k t c u o _ HI.out).mono ?_
    rintro e w3 ⟨v3, rfl, hv3, b3⟩
    have hv1' := (hv1.below b2 (Nat.le_refl _)).below b3 (Nat.le_refl _)
    obtain ⟨g1, cap1, rfl, _, _, _, _, hc1⟩ := hv1'
    obtain ⟨g3, cap3, rfl, _, _, _, _, hc3⟩ := hv3
    have e1 := run_convert_bytes_arg w3 24 5 Try.underlying24 Try.underlying5 g1 0 _ cap1 _ rfl hc1 9 Try.underlying9
    have e3 := run_convert_bytes_arg w3 24 5 Try.underlying24 Try.underlying5 g3 0 _ cap3 _ rfl hc3 9 Try.underlying9
    clear hv1 hc1 hc3 l0 l1 l2 l3 l4
    go_wp2
    go_ret
    exact ⟨rfl, ((((Below.refl _ _).alloc (Nat.le_refl _) _).trans (b1.mono (by simp))).trans (b2.mono (by omega))).trans (b3.mono (by omega))⟩
  · have HI : Hid (isB k t c u o = false) := by unfold Hid; simpa using h
    clear h
    go_enter Try.func4, Try.ntmps4
    go_wp2_with fail
    refine (pack_no k t c u o _ HI.out).mono ?_
    rintro e w1 ⟨rfl, b1⟩
    have s1 : w.heap.size + 1 ≤ w1.heap.size := by have := b1.size; simpa using this
    have k0 : w1.cell? ⟨w.heap.size, 0, none⟩ = some (.int .i64 k) := (bcellAt b1 _ _ (by simp)).trans (by simp [go_sem])
    have k1 : w1.cell? ⟨w.heap.size, 1, none⟩ = some (.int .i64 t) := (bcellAt b1 _ _ (by simp)).trans (by simp [go_sem])
    have k2 : w1.cell? ⟨w.heap.size, 2, none⟩ = some (.int .i64 c) := (bcellAt b1 _ _ (by simp)).trans (by simp [go_sem])
    have k3 : w1.cell? ⟨w.heap.size, 3, none⟩ = some (.int .i64 u) := (bcellAt b1 _ _ (by simp)).trans (by simp [go_sem])
    have k4 : w1.cell? ⟨w.heap.size, 4, none⟩ = some (.int .i64 o) := (bcellAt b1 _ _ (by simp)).trans (by simp [go_sem])
    go_wp2_with fail
    refine (is_any k t c u o _).mono ?_
    rintro e w2 ⟨rfl, b2⟩
    rw [HI.out]
    go_wp2
    go_ret
    exact ⟨rfl, (((Below.refl _ _).alloc (Nat.le_refl _) _).trans (b1.mono (by simp))).trans (b2.mono (by omega))⟩

set_option maxRecDepth 100000 in
theorem bytes_lifted (os : Os) (started : os.Started) (H : Type) (enc : TypeId × Value → H) :
    ReturnsInHanded {} Try.checked os 4 .any (Rows.bytesSpec.pre6 enc Try.prog Try.f4 Rows.bytesRow.domain false) (Rows.bytesSpec.post enc Try.prog Try.f4 false true false false) := by
  refine returnsInHanded_of_change (C := Try.checked) own started (by kernel_rfl) Try.func4
    (ChangeSpec.witness6 (enc := enc) (C := Try.checked) false ⟨#[], #[.agg #[.int .i64 0, .int .i64 0, .int .i64 0, .int .i64 0, .int .i64 0]], []⟩ 8 (by kernel_rfl) (by kernel_rfl) (by kernel_rfl) (by kernel_rfl)) ?_
  intro W base args ds gs before hval0 hW hcnd _
  have hval : ∀ (j : Nat) t v, Try.f4.params[j]? = some t → args[j]? = some v → Value.okWide Try.prog W .any base t v := hval0
  have hW' := hW
  obtain ⟨p, q, hA0, hV, rfl, hfz, hnd⟩ := hW
  have hA : DataW.TrodAll enc Try.prog W 0 (fun _ => true) true Try.f4.params.toList args.toList ds p := hA0
  rw [Try.params4] at hA hval
  obtain ⟨v0, vs0, d0, ds0, p0, q0, hargs, rfl, rfl, h0, r0⟩ := trodAll_cons hA
  obtain ⟨rfl, rfl, rfl⟩ := trodAll_nil r0
  obtain rfl : args = #[v0] := by cases args; simp_all
  obtain ⟨rfl, rfl⟩ := trodVars_none hV
  have k0 := h0
  have lt0 : ∀ x ∈ p0, x.block < W.heap.size := by obtain ⟨m, hm⟩ := k0; exact DataW.trod_lt m _ _ _ hm
  obtain ⟨k, t, c, u, o, rfl, _, _, _, _, _⟩ := open_req (hval 0 23 v0 rfl rfl) h0
  clear hA0 hval0
  refine (bytes_walk k t c u o W).mono fun e W' ⟨he, bel⟩ => ?_
  subst he
  exact ⟨_, rfl, _, _, _, [], _, [], hW', trodAll_mk1 (shut_bool Try.underlying4 _), (trodAll_cons_mk (Below.trod laidOut (by kernel_rfl) (of_decide_eq_true (by kernel_rfl)) k0 bel lt0) trodAll_mk0), rfl, bel.frame _, fun h => by cases h⟩

theorem bytes_holds : Rows.BytesSaid :=
  OpenClaim.holds_of_wide 4 Try.f4 rfl rfl rfl rfl rfl rfl rfl ⟨rfl, rfl, rfl, rfl, rfl⟩ rfl rfl rfl rfl rfl (by kernel_rfl) Try.func4 (by kernel_rfl)
    (of_decide_eq_true (by kernel_rfl)) (by unfold Func.isWrapper; first | (rw [if_pos (by decide +kernel)]; kernel_rfl) | (rw [if_neg (by decide +kernel)]; exact ⟨rfl, rfl⟩))
    (fun os started H enc _ => bytes_lifted os started H enc)

#print axioms bytes_holds
end Go.Proofs.Ytfhncfghblkgeaa
