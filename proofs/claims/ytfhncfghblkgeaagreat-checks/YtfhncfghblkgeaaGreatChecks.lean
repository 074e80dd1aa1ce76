/-
  The law Checks: its walk, and the statement.
-/
import Derived.Test.YtfhncfghblkgeaaGreatScript
namespace Go.Proofs.YtfhncfghblkgeaaGreat
open Go.ChangeShapes Go.WideShapes Go.ChangeAt Go.RowKit
set_option linter.unusedVariables false

/-- The world's block of a script. -/
def worldObj (ac : Option Addr) (lc cc : Nat) : Obj := .cells #[.slice ac lc cc, .slice none 0 0, .slice none 0 0, .slice none 0 0, .slice none 0 0] 67

/-- What holds as a script of Checks is played. -/
def invC (W : World) (ac : Option Addr) (lc cc : Nat) (_ : Nat) (_ : Unit) (w : World) : Prop := Below W.heap.size W w ∧ w.heap[W.heap.size]? = some (worldObj ac lc cc)

theorem checks_plays (W : World) (ac : Option Addr) (lc cc : Nat) (a : Option Addr) (len cap : Nat) (ops : List OpV) (bp bh : Nat) (hs : scriptAt W a len ops) (hok : ∀ o ∈ ops, opOK o) (hlen : len * 64 ≤ 140737488351232) (hc : cfgsAt W ac lc) (hp : rowAt W bp [1]) (hh : rowAt W bh [1]) :
    Calls Tryz.prog 12 #[.slice ac lc cc, .slice a len cap, .slice (some ⟨bp, 0, none⟩) 1 1, .slice (some ⟨bh, 0, none⟩) 1 1] W fun e w' => e = .returned (.bool true) ∧ Below W.heap.size W w' := by
  refine plays_any (invC W ac lc cc) (fun _ _ => False) W ac lc cc a len cap ops bp 1 bh 1 [1] [1] hs hlen hp hh (fun _ _ _ _ _ h => h.elim) ?_ (fun _ _ _ h => h) (fun _ _ _ h => h.1) ⟨(), ?_⟩ ?_ ?_
  · rintro _ _ w1 w2 ⟨h1, h2⟩ hb
    have hp : W.heap.size < w1.heap.size := (Array.getElem?_eq_some_iff.1 h2).1
    exact ⟨h1.trans (hb.mono (by omega)), (hb.block _ hp).trans h2⟩
  · exact ⟨(Below.refl _ _).alloc (Nat.le_refl _) _, heap_alloc_new W _⟩
  · rintro _ _ w1 o _ ho hk ⟨h1, h2⟩
    have hk1 : o.k = 1 := by simp at hk; omega
    obtain ⟨c0, _⟩ := world_cells h2
    have hp : W.heap.size < w1.heap.size := (Array.getElem?_eq_some_iff.1 h2).1
    refine (step_check W.heap.size ac lc cc o w1 hk1 (hok o ho).2.1 c0 (hc.below h1 (Nat.le_refl _))).mono ?_
    rintro e w2 ⟨rfl, b2⟩
    exact ⟨rfl, ⟨(), h1.trans (b2.mono (by omega)), (b2.block _ hp).trans h2⟩, Same.of_below b2⟩
  · rintro _ _ w1 _ ⟨h1, h2⟩
    obtain ⟨_, _, _, c3, c4⟩ := world_cells h2
    refine (looks_none W.heap.size w1 c3 c4).mono ?_
    rintro e w2 ⟨rfl, rfl⟩
    exact ⟨rfl, h1, h2⟩

set_option maxHeartbeats 1000000 in
theorem checks_walk (ac : Option Addr) (lc cc : Nat) (a : Option Addr) (len cap : Nat) (ops : List OpV) (w : World) (hs : scriptAt w a len ops) (hok : ∀ o ∈ ops, opOK o) (hlen : len * 64 ≤ 140737488351232) (hc : cfgsAt w ac lc) :
    Calls Tryz.prog 3 #[.slice ac lc cc, .slice a len cap] w fun e w' => e = .returned (.bool true) ∧ Below w.heap.size w w' := by
  have HS : Hid (scriptAt w a len ops) := hs
  have HO : Hid (∀ o ∈ ops, opOK o) := hok
  have HC : Hid (cfgsAt w ac lc) := hc
  clear hs hok hc
  go_enter Tryz.func3, Tryz.ntmps3
  go_wp2_with fail
  have hW : Below w.heap.size w ((w.alloc (.cells #[.int .i64 1] 3)).alloc (.cells #[.int .i64 1] 3)) := by repeat (first | exact Below.refl _ _ | refine Below.alloc ?_ (by first | exact Nat.le_refl _ | (simp <;> omega)) _)
  refine (checks_plays _ ac lc cc a len cap ops w.heap.size (w.heap.size + 1) (HS.out.below hW (Nat.le_refl _)) HO.out hlen (HC.out.below hW (Nat.le_refl _)) ⟨by simp, by simp <;> omega, fun i hi => ?_⟩ ⟨by simp, by simp <;> omega, fun i hi => ?_⟩).mono ?_
  · match i, hi with
    | 0, _ => simp [go_sem]
  · match i, hi with
    | 0, _ => simp [go_sem]
  rintro e w2 ⟨rfl, b2⟩
  go_wp2
  go_ret
  exact ⟨rfl, hW.trans (b2.mono (by simp <;> omega))⟩

set_option maxRecDepth 100000 in
theorem checks_lifted (os : Os) (started : os.Started) (H : Type) (enc : TypeId × Value → H) :
    ReturnsInHanded {} Tryz.checked os 3 .any (Rows.checksSpec.pre6 enc Tryz.prog Tryz.f3 Rows.checksRow.domain false) (Rows.checksSpec.post enc Tryz.prog Tryz.f3 false true false false) := by
  refine returnsInHanded_of_change_sized (C := Tryz.checked) own started (by kernel_rfl) Tryz.func3
    (ChangeSpec.witness6 (enc := enc) (C := Tryz.checked) false ⟨#[], #[.slice none 0 0, .slice none 0 0], []⟩ 8 (by kernel_rfl) (by kernel_rfl) (by kernel_rfl) (by kernel_rfl)) ?_
  intro W base args ds gs before hval0 hW hcnd hsz0 _
  have hval : ∀ (j : Nat) t v, Tryz.f3.params[j]? = some t → args[j]? = some v → Value.okWide Tryz.prog W .any base t v := hval0
  have hsz : (DataW.weightsEach Tryz.prog (Tryz.f3.params.toList ++ Rows.checksSpec.plain.varTypes Tryz.prog) (ds ++ gs)).all (· ≤ reachBytes) = true := hsz0
  have hW' := hW
  obtain ⟨p, q, hA0, hV, rfl, hfz, hnd⟩ := hW
  have hA : DataW.TrodAll enc Tryz.prog W 0 (fun _ => true) true Tryz.f3.params.toList args.toList ds p := hA0
  rw [Tryz.params3] at hA hval hsz
  obtain ⟨v0, vs0, d0, ds0, p0, q0, hargs, rfl, rfl, h0, r0⟩ := trodAll_cons hA
  obtain ⟨v1, vs1, d1, ds1, p1, q1, rfl, rfl, rfl, h1, r1⟩ := trodAll_cons r0
  obtain ⟨rfl, rfl, rfl⟩ := trodAll_nil r1
  obtain rfl : args = #[v0, v1] := by cases args; simp_all
  obtain ⟨rfl, rfl⟩ := trodVars_none hV
  have k0 := h0
  have k1 := h1
  have lt0 : ∀ x ∈ p0, x.block < W.heap.size := by obtain ⟨m, hm⟩ := k0; exact DataW.trod_lt m _ _ _ hm
  have lt1 : ∀ x ∈ p1, x.block < W.heap.size := by obtain ⟨m, hm⟩ := k1; exact DataW.trod_lt m _ _ _ hm
  have w0 : wOK 22 d0 := fun x hx => by simpa using List.all_eq_true.1 hsz x (DataW.weights_mem_each (j := 0) rfl rfl x hx)
  have w1 : wOK 23 d1 := fun x hx => by simpa using List.all_eq_true.1 hsz x (DataW.weights_mem_each (j := 1) rfl rfl x hx)
  obtain ⟨ac, lc, cc, rfl, hc⟩ := cfgs_open (hval 0 22 v0 rfl rfl) h0 w0
  obtain ⟨a, len, cap, ops, rfl, hs, hok, hl⟩ := script_open (hval 1 23 v1 rfl rfl) h1 w1
  clear hA0 hval0
  refine (checks_walk ac lc cc a len cap ops W hs hok hl hc).mono fun e W' ⟨he, bel⟩ => ?_
  subst he
  exact ⟨_, rfl, _, _, _, [], _, [], hW', trodAll_mk1 (shut_bool Tryz.underlying4 _), (trodAll_cons_mk (Below.trod laidOut (by kernel_rfl) (of_decide_eq_true (by kernel_rfl)) k0 bel lt0) (trodAll_cons_mk (Below.trod laidOut (by kernel_rfl) (of_decide_eq_true (by kernel_rfl)) k1 bel lt1) trodAll_mk0)), rfl, bel.frame _, fun h => by cases h⟩

theorem checks_holds : Rows.ChecksSaid :=
  OpenClaim.holds_of_wide 3 Tryz.f3 rfl rfl rfl rfl rfl rfl rfl ⟨rfl, rfl, rfl, rfl, rfl⟩ rfl rfl rfl rfl rfl (by kernel_rfl) Tryz.func3 (by kernel_rfl)
    (of_decide_eq_true (by kernel_rfl)) (by unfold Func.isWrapper; first | (rw [if_pos (by decide +kernel)]; kernel_rfl) | (rw [if_neg (by decide +kernel)]; exact ⟨rfl, rfl⟩))
    (fun os started H enc _ => checks_lifted os started H enc)

#print axioms checks_holds
end Go.Proofs.YtfhncfghblkgeaaGreat
