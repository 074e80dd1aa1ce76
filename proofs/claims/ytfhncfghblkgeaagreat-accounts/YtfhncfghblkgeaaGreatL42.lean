import Derived.Test.YtfhncfghblkgeaaGreatL41
set_option maxRecDepth 100000
set_option maxHeartbeats 2000000
namespace Go.Proofs.YtfhncfghblkgeaaGreat
open Go.RowKit
section
open Go.ChangeShapes Go.WideShapes Go.ChangeAt Go.RowKit
set_option linter.unusedVariables false
theorem accounts_row (w : World) : rowAt (w.alloc (.cells #[iv 10, iv 11, iv 12, iv 13, iv 14] 3)) w.heap.size [10, 11, 12, 13, 14] := ⟨by simp, by simp, fun i hi => by
 match i, hi with
 | 0, _ => simp [go_sem]
 | 1, _ => simp [go_sem]
 | 2, _ => simp [go_sem]
 | 3, _ => simp [go_sem]
 | 4, _ => simp [go_sem]⟩
theorem accounts_row2 (w : World) : rowAt ((w.alloc (.cells #[iv 10, iv 11, iv 12, iv 13, iv 14] 3)).alloc (.cells #[iv 13, iv 14] 3)) (w.heap.size + 1) [13, 14] := ⟨by simp, by simp, fun i hi => by
 match i, hi with
 | 0, _ => simp [go_sem]
 | 1, _ => simp [go_sem]⟩
theorem accounts_walk {PS : World → Nat → (Nat → Prop) → Sal → Prop} (T : SendOK PS) (K : OpenOK PS) (KB : BookOK PS) (ac : Option Addr) (lc cc : Nat) (a : Option Addr) (len cap : Nat) (ops : List OpV) (w : World) (hcf : cfgsAt w ac lc) (hs : scriptAt w a len ops) (hok : ∀ o ∈ ops, opOK o) (hlen : len * 64 ≤ 140737488351232) :
 Calls Tryz.prog 7 #[.slice ac lc cc, .slice a len cap] w fun e w' => e = .returned (.bool true) ∧ Below w.heap.size w w' := by
 have HS : Hid (scriptAt w a len ops) := hs
 have HC : Hid (cfgsAt w ac lc) := hcf
 have HO : Hid (∀ o ∈ ops, opOK o) := hok
 clear hs hok hcf
 go_enter Tryz.func7, Tryz.ntmps7
 go_wp2_with fail
 have hW : Below w.heap.size w ((w.alloc (.cells #[iv 10, iv 11, iv 12, iv 13, iv 14] 3)).alloc (.cells #[iv 13, iv 14] 3)) := ((Below.refl _ _).alloc (Nat.le_refl _) _).alloc (by simp) _
 refine (sales_plays T K _ ac lc cc (HC.out.below hW (Nat.le_refl _)) a len cap ops w.heap.size 5 (w.heap.size + 1) 2 [10, 11, 12, 13, 14] [13, 14] (HS.out.below hW (Nat.le_refl _)) HO.out hlen ((accounts_row w).below ((Below.refl _ _).alloc (Nat.le_refl _) _) (Nat.le_refl _)) (accounts_row2 w) (fun k hk => by
  simp at hk
  rcases hk with h | h | h | h | h <;> simp [← h, KB])).mono ?_
 rintro e w2 ⟨rfl, b2⟩
 go_wp2
 go_ret
 exact ⟨rfl, hW.trans (b2.mono (by simp <;> omega))⟩
theorem accounts_lifted {PS : World → Nat → (Nat → Prop) → Sal → Prop} (T : SendOK PS) (K : OpenOK PS) (KB : BookOK PS) (os : Os) (started : os.Started) (H : Type) (enc : TypeId × Value → H) :
 ReturnsInHanded {} Tryz.checked os 7 .any (Rows.accountsSpec.pre6 enc Tryz.prog Tryz.f7 Rows.accountsRow.domain false) (Rows.accountsSpec.post enc Tryz.prog Tryz.f7 false true false false) := by
 refine returnsInHanded_of_change_sized (C := Tryz.checked) own started (by kernel_rfl) Tryz.func7
  (ChangeSpec.witness6 (enc := enc) (C := Tryz.checked) false ⟨#[], #[.slice none 0 0, .slice none 0 0], []⟩ 8 (by kernel_rfl) (by kernel_rfl) (by kernel_rfl) (by kernel_rfl)) ?_
 intro W base args ds gs before hval0 hW hcnd hsz0 _
 have hval : ∀ (j : Nat) t v, Tryz.f7.params[j]? = some t → args[j]? = some v → Value.okWide Tryz.prog W .any base t v := hval0
 have hsz : (DataW.weightsEach Tryz.prog (Tryz.f7.params.toList ++ Rows.accountsSpec.plain.varTypes Tryz.prog) (ds ++ gs)).all (· ≤ reachBytes) = true := hsz0
 have hW' := hW
 obtain ⟨p, q, hA0, hV, rfl, hfz, hnd⟩ := hW
 have hA : DataW.TrodAll enc Tryz.prog W 0 (fun _ => true) true Tryz.f7.params.toList args.toList ds p := hA0
 rw [Tryz.params7] at hA hval hsz
 obtain ⟨v0, vs0, d0, ds0, p0, q0, hargs, rfl, rfl, h0, r0⟩ := trodAll_cons hA
 obtain ⟨v1, vs1, d1, ds1, p1, q1, rfl, rfl, rfl, h1, r1⟩ := trodAll_cons r0
 obtain ⟨rfl, rfl, rfl⟩ := trodAll_nil r1
 obtain rfl : args = #[v0, v1] := by cases args; simp_all
 obtain ⟨rfl, rfl⟩ := trodVars_none hV
 have k0 := h0
 have k1 := h1
 have lt0 : ∀ x ∈ p0, x.block < W.heap.size := by obtain ⟨m, hm⟩ := k0; exact DataW.trod_lt m _ _ _ hm
 have lt1 : ∀ x ∈ p1, x.block < W.heap.size := by obtain ⟨m, hm⟩ := k1; exact DataW.trod_lt m _ _ _ hm
 have w0 : wOK 22 d0 := fun x hx => by simpa using List.all_eq_true.1 hsz x (DataW.weights_mem_each (j := 0) rfl rfl x hx)
 have w1 : wOK 23 d1 := fun x hx => by simpa using List.all_eq_true.1 hsz x (DataW.weights_mem_each (j := 1) rfl rfl x hx)
 obtain ⟨ac, lc, cc, rfl, hc⟩ := cfgs_open (hval 0 22 v0 rfl rfl) h0 w0
 obtain ⟨a, len, cap, ops, rfl, hs, hok, hl⟩ := script_open (hval 1 23 v1 rfl rfl) h1 w1
 clear hA0 hval0
 refine (accounts_walk T K KB ac lc cc a len cap ops W hc hs hok hl).mono fun e W' ⟨he, bel⟩ => ?_
 subst he
 exact ⟨_, rfl, _, _, _, [], _, [], hW', trodAll_mk1 (shut_bool Tryz.underlying4 _), (trodAll_cons_mk (Below.trod laidOut (by kernel_rfl) (of_decide_eq_true (by kernel_rfl)) k0 bel lt0) (trodAll_cons_mk (Below.trod laidOut (by kernel_rfl) (of_decide_eq_true (by kernel_rfl)) k1 bel lt1) trodAll_mk0)), rfl, bel.frame _, fun h => by cases h⟩
theorem accounts_of {PS : World → Nat → (Nat → Prop) → Sal → Prop} (T : SendOK PS) (K : OpenOK PS) (KB : BookOK PS) : Rows.AccountsSaid :=
 OpenClaim.holds_of_wide 7 Tryz.f7 rfl rfl rfl rfl rfl rfl rfl ⟨rfl, rfl, rfl, rfl, rfl⟩ rfl rfl rfl rfl rfl (by kernel_rfl) Tryz.func7 (by kernel_rfl)
  (of_decide_eq_true (by kernel_rfl)) (by unfold Func.isWrapper; first | (rw [if_pos (by decide +kernel)]; kernel_rfl) | (rw [if_neg (by decide +kernel)]; exact ⟨rfl, rfl⟩))
  (fun os started H enc _ => accounts_lifted T K KB os started H enc)
end
end Go.Proofs.YtfhncfghblkgeaaGreat
