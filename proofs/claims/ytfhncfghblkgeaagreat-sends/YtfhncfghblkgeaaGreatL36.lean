import Derived.Test.YtfhncfghblkgeaaGreatL35
set_option maxRecDepth 100000
set_option maxHeartbeats 2000000
namespace Go.Proofs.YtfhncfghblkgeaaGreat
open Go.RowKit
theorem seenL_set6 {P : World → (Nat → Prop) → Prop} {w W : World} {own loc : Nat → Prop} (K : Keeps P) (h : seenL P w own loc W) (hw : ∀ k, own k → k < w.heap.size) {b : Nat} (hb : loc b) (v0 v1 v2 v3 v4 v5 : Value) : seenL P w own loc ((((((W.setCell (aq b 0) v0).setCell (aq b 1) v1).setCell (aq b 2) v2).setCell (aq b 3) v3).setCell (aq b 4) v4).setCell (aq b 5) v5) :=
 seenL_set K (seenL_set K (seenL_set K (seenL_set K (seenL_set K (seenL_set K h hw hb v0) hw hb v1) hw hb v2) hw hb v3) hw hb v4) hw hb v5
theorem grant_w (x : Nat) (own : Nat → Prop) (P0 P1 P2 : World → (Nat → Prop) → Prop) (K0 : Keeps P0) (K1 : Keeps P1) (K2 : Keeps P2) (k t c u o num pr up : Int) (w : World) (hw : ∀ k, own k → k < w.heap.size) (h : P0 w own)
 (HN : Hid (doesL w own P0 P1 169 #[pt x 0, .agg #[iv k, iv t, iv c, iv u, iv o]] (.agg #[iv num, iv c, iv u, iv 0, iv 0, iv 0])))
 (H0 : Hid (doesL w own P1 P2 162 #[pt x 0, .agg #[iv num, iv c, iv u, iv 0, iv 0, iv 0]] (.agg #[iv num, iv c, iv u, iv 13, iv pr, iv up]))) :
 Calls Tryz.prog 155 #[pt x 0, .agg #[iv k, iv t, iv c, iv u, iv o]] w fun e w' => e = .returned (.agg #[iv 2, iv num, iv pr, iv up]) ∧ ansP P2 w w' own := by
 replace hw : Hid _ := hw
 go_enter Tryz.func155, Tryz.ntmps155
 have hT0 : Hid (seenL P0 w own (fun j => j = w.heap.size ∨ j = w.heap.size + 1) ((w.alloc (.cells #[iv k, iv t, iv c, iv u, iv o] 46)).alloc (.cells #[iv 0, iv 0, iv 0, iv 0] 42))) := seenL_start K0 h (((Below.refl _ _).alloc (Nat.le_refl _) _).alloc (by simp) _) (fun j e => by rcases e with e | e <;> (subst e; simp; try omega))
 have rb0 : Hid (((w.alloc (.cells #[iv k, iv t, iv c, iv u, iv o] 46)).alloc (.cells #[iv 0, iv 0, iv 0, iv 0] 42)).heap[w.heap.size + 1]? = some (.cells #[iv 0, iv 0, iv 0, iv 0] 42 (0, 0))) := by
  have h := heap_alloc_new (w.alloc (.cells #[iv k, iv t, iv c, iv u, iv o] 46)) (.cells #[iv 0, iv 0, iv 0, iv 0] 42)
  rwa [show (w.alloc (.cells #[iv k, iv t, iv c, iv u, iv o] 46)).heap.size = w.heap.size + 1 by simp] at h
 clear h
 go_wp2_with fail
 generalize (w.alloc (.cells #[iv k, iv t, iv c, iv u, iv o] 46)).alloc (.cells #[iv 0, iv 0, iv 0, iv 0] 42) = W0 at hT0 rb0 ⊢
 refine (HN.out _ _ hT0.out).mono ?_
 rintro e W1 ⟨rfl, hT1, hk⟩
 have rb1 : Hid (W1.heap[w.heap.size + 1]? = some (.cells #[iv 0, iv 0, iv 0, iv 0] 42 (0, 0))) := (hk _ (.inr rfl)).trans rb0.out
 have lv1 : w.heap.size + 1 < W1.heap.size := (blt rb1.out)
 have hT2 : Hid (seenL P1 w own (fun j => (j = w.heap.size ∨ j = w.heap.size + 1) ∨ j = W1.heap.size) (W1.alloc (.cells #[iv num, iv c, iv u, iv 0, iv 0, iv 0] 184))) := seenL_alloc K1 hT1 _
 have ob2 : Hid ((W1.alloc (.cells #[iv num, iv c, iv u, iv 0, iv 0, iv 0] 184)).heap[W1.heap.size]? = some (.cells #[iv num, iv c, iv u, iv 0, iv 0, iv 0] 184 (0, 0))) := heap_alloc_new W1 _
 have rb2 : Hid ((W1.alloc (.cells #[iv num, iv c, iv u, iv 0, iv 0, iv 0] 184)).heap[w.heap.size + 1]? = some (.cells #[iv 0, iv 0, iv 0, iv 0] 42 (0, 0))) := (Below.heap_alloc _ _ _ lv1).trans rb1.out
 clear hk hT0 hT1 rb0 rb1 lv1
 go_wp2_with fail
 refine (H0.out _ _ hT2.out).mono ?_
 rintro e W2 ⟨rfl, hT3, hk⟩
 have ob3 := (hk _ (.inr rfl)).trans ob2.out
 have rb3 : Hid (W2.heap[w.heap.size + 1]? = some (.cells #[iv 0, iv 0, iv 0, iv 0] 42 (0, 0))) := (hk _ (.inl (.inr rfl))).trans rb2.out
 have lo : W1.heap.size < W2.heap.size := (blt ob3)
 have lv : w.heap.size + 1 < W2.heap.size := (blt rb3.out)
 have lne : w.heap.size + 1 ≠ W1.heap.size := by
  intro e
  have := (hk (w.heap.size + 1) (.inl (.inr rfl))).trans rb2.out
  rw [e, ob3] at this
  simp at this
 have HE : Hid (∀ a0 a1 a2 a3 a4 a5 v0 v1 v2 v3, ansP P2 w (((((((((((W2.setCell (aq W1.heap.size 0) a0).setCell (aq W1.heap.size 1) a1).setCell (aq W1.heap.size 2) a2).setCell (aq W1.heap.size 3) a3).setCell (aq W1.heap.size 4) a4).setCell (aq W1.heap.size 5) a5).setCell (aq (w.heap.size + 1) 0) v0).setCell (aq (w.heap.size + 1) 1) v1).setCell (aq (w.heap.size + 1) 2) v2).setCell (aq (w.heap.size + 1) 3) v3)) own) := fun a0 a1 a2 a3 a4 a5 v0 v1 v2 v3 => seenL_end (seenL_set4 K2 (seenL_set6 K2 hT3 hw.out (.inr rfl) a0 a1 a2 a3 a4 a5) hw.out (.inl (.inr rfl)) v0 v1 v2 v3)
 obtain ⟨r0, r1, r2, r3⟩ := four_cells rb3.out
 obtain ⟨s0, s1, s2, s3, s4, s5⟩ := six_cells ob3
 have g0 := row_free rb3.out 0
 have g1 := row_free rb3.out 1
 have g2 := row_free rb3.out 2
 have g3 := row_free rb3.out 3
 have f0 := row_free ob3 0
 have f1 := row_free ob3 1
 have f2 := row_free ob3 2
 have f3 := row_free ob3 3
 have f4 := row_free ob3 4
 have f5 := row_free ob3 5
 clear hk hT3 hT2 ob2 rb2 ob3
 go_wp2
 refine bodyPost_ret (v := .agg #[iv 2, iv num, iv pr, iv up]) (by simp [results, Tryz.results155, go_sem, r0, r1, r2, r3]) rfl ⟨rfl, ?_⟩
 exact HE.out _ _ _ _ _ _ _ _ _ _
theorem enqueue_w (x : Nat) (own : Nat → Prop) (P0 P1 P2 : World → (Nat → Prop) → Prop) (K0 : Keeps P0) (K1 : Keeps P1) (K2 : Keeps P2) (k t c u o num up : Int) (w : World) (hw : ∀ k, own k → k < w.heap.size) (h : P0 w own)
 (HN : Hid (doesL w own P0 P1 169 #[pt x 0, .agg #[iv k, iv t, iv c, iv u, iv o]] (.agg #[iv num, iv c, iv u, iv 0, iv 0, iv 0])))
 (H0 : Hid (doesL w own P1 P2 157 #[pt x 0, .agg #[iv num, iv c, iv u, iv 0, iv 0, iv 0], iv 12] (.agg #[iv num, iv c, iv u, iv 12, iv 0, iv up]))) :
 Calls Tryz.prog 156 #[pt x 0, .agg #[iv k, iv t, iv c, iv u, iv o]] w fun e w' => e = .returned (.agg #[iv 3, iv num, iv 0, iv up]) ∧ ansP P2 w w' own := by
 replace hw : Hid _ := hw
 go_enter Tryz.func156, Tryz.ntmps156
 have hT0 : Hid (seenL P0 w own (fun j => j = w.heap.size ∨ j = w.heap.size + 1) ((w.alloc (.cells #[iv k, iv t, iv c, iv u, iv o] 46)).alloc (.cells #[iv 0, iv 0, iv 0, iv 0] 42))) := seenL_start K0 h (((Below.refl _ _).alloc (Nat.le_refl _) _).alloc (by simp) _) (fun j e => by rcases e with e | e <;> (subst e; simp; try omega))
 have rb0 : Hid (((w.alloc (.cells #[iv k, iv t, iv c, iv u, iv o] 46)).alloc (.cells #[iv 0, iv 0, iv 0, iv 0] 42)).heap[w.heap.size + 1]? = some (.cells #[iv 0, iv 0, iv 0, iv 0] 42 (0, 0))) := by
  have h := heap_alloc_new (w.alloc (.cells #[iv k, iv t, iv c, iv u, iv o] 46)) (.cells #[iv 0, iv 0, iv 0, iv 0] 42)
  rwa [show (w.alloc (.cells #[iv k, iv t, iv c, iv u, iv o] 46)).heap.size = w.heap.size + 1 by simp] at h
 clear h
 go_wp2_with fail
 generalize (w.alloc (.cells #[iv k, iv t, iv c, iv u, iv o] 46)).alloc (.cells #[iv 0, iv 0, iv 0, iv 0] 42) = W0 at hT0 rb0 ⊢
 refine (HN.out _ _ hT0.out).mono ?_
 rintro e W1 ⟨rfl, hT1, hk⟩
 have rb1 : Hid (W1.heap[w.heap.size + 1]? = some (.cells #[iv 0, iv 0, iv 0, iv 0] 42 (0, 0))) := (hk _ (.inr rfl)).trans rb0.out
 have lv1 : w.heap.size + 1 < W1.heap.size := (blt rb1.out)
 have hT2 : Hid (seenL P1 w own (fun j => (j = w.heap.size ∨ j = w.heap.size + 1) ∨ j = W1.heap.size) (W1.alloc (.cells #[iv num, iv c, iv u, iv 0, iv 0, iv 0] 184))) := seenL_alloc K1 hT1 _
 have ob2 : Hid ((W1.alloc (.cells #[iv num, iv c, iv u, iv 0, iv 0, iv 0] 184)).heap[W1.heap.size]? = some (.cells #[iv num, iv c, iv u, iv 0, iv 0, iv 0] 184 (0, 0))) := heap_alloc_new W1 _
 have rb2 : Hid ((W1.alloc (.cells #[iv num, iv c, iv u, iv 0, iv 0, iv 0] 184)).heap[w.heap.size + 1]? = some (.cells #[iv 0, iv 0, iv 0, iv 0] 42 (0, 0))) := (Below.heap_alloc _ _ _ lv1).trans rb1.out
 clear hk hT0 hT1 rb0 rb1 lv1
 go_wp2_with fail
 refine (H0.out _ _ hT2.out).mono ?_
 rintro e W2 ⟨rfl, hT3, hk⟩
 have ob3 := (hk _ (.inr rfl)).trans ob2.out
 have rb3 : Hid (W2.heap[w.heap.size + 1]? = some (.cells #[iv 0, iv 0, iv 0, iv 0] 42 (0, 0))) := (hk _ (.inl (.inr rfl))).trans rb2.out
 have lo : W1.heap.size < W2.heap.size := (blt ob3)
 have lv : w.heap.size + 1 < W2.heap.size := (blt rb3.out)
 have lne : w.heap.size + 1 ≠ W1.heap.size := by
  intro e
  have := (hk (w.heap.size + 1) (.inl (.inr rfl))).trans rb2.out
  rw [e, ob3] at this
  simp at this
 have HE : Hid (∀ a0 a1 a2 a3 a4 a5 v0 v1 v2 v3, ansP P2 w (((((((((((W2.setCell (aq W1.heap.size 0) a0).setCell (aq W1.heap.size 1) a1).setCell (aq W1.heap.size 2) a2).setCell (aq W1.heap.size 3) a3).setCell (aq W1.heap.size 4) a4).setCell (aq W1.heap.size 5) a5).setCell (aq (w.heap.size + 1) 0) v0).setCell (aq (w.heap.size + 1) 1) v1).setCell (aq (w.heap.size + 1) 2) v2).setCell (aq (w.heap.size + 1) 3) v3)) own) := fun a0 a1 a2 a3 a4 a5 v0 v1 v2 v3 => seenL_end (seenL_set4 K2 (seenL_set6 K2 hT3 hw.out (.inr rfl) a0 a1 a2 a3 a4 a5) hw.out (.inl (.inr rfl)) v0 v1 v2 v3)
 obtain ⟨r0, r1, r2, r3⟩ := four_cells rb3.out
 obtain ⟨s0, s1, s2, s3, s4, s5⟩ := six_cells ob3
 have g0 := row_free rb3.out 0
 have g1 := row_free rb3.out 1
 have g2 := row_free rb3.out 2
 have g3 := row_free rb3.out 3
 have f0 := row_free ob3 0
 have f1 := row_free ob3 1
 have f2 := row_free ob3 2
 have f3 := row_free ob3 3
 have f4 := row_free ob3 4
 have f5 := row_free ob3 5
 clear hk hT3 hT2 ob2 rb2 ob3
 go_wp2
 refine bodyPost_ret (v := .agg #[iv 3, iv num, iv 0, iv up]) (by simp [results, Tryz.results156, go_sem, r0, r1, r2, r3]) rfl ⟨rfl, ?_⟩
 exact HE.out _ _ _ _ _ _ _ _ _ _
theorem do_ask (x : Nat) (own : Nat → Prop) (P0 P1 : World → (Nat → Prop) → Prop) (K0 : Keeps P0) (K1 : Keeps P1) (t c u o a0 a1 a2 a3 : Int) (w : World) (hw : ∀ k, own k → k < w.heap.size) (h : P0 w own)
 (H0 : Hid (doesL w own P0 P1 132 #[pt x 0, .agg #[iv 1, iv t, iv c, iv u, iv o]] (.agg #[iv a0, iv a1, iv a2, iv a3]))) :
 Calls Tryz.prog 101 #[pt x 0, .agg #[iv 1, iv t, iv c, iv u, iv o]] w fun e w' => e = .returned (.agg #[iv a0, iv a1, iv a2, iv a3]) ∧ ansP P1 w w' own := by
 replace hw : Hid _ := hw
 go_enter Tryz.func101, Tryz.ntmps101
 have hT0 : Hid (seenL P0 w own (fun j => j = w.heap.size ∨ j = w.heap.size + 1) ((w.alloc (.cells #[iv 1, iv t, iv c, iv u, iv o] 46)).alloc (.cells #[iv 0, iv 0, iv 0, iv 0] 42))) := seenL_start K0 h (((Below.refl _ _).alloc (Nat.le_refl _) _).alloc (by simp) _) (fun j e => by rcases e with e | e <;> (subst e; simp; try omega))
 have rb0 : Hid (((w.alloc (.cells #[iv 1, iv t, iv c, iv u, iv o] 46)).alloc (.cells #[iv 0, iv 0, iv 0, iv 0] 42)).heap[w.heap.size + 1]? = some (.cells #[iv 0, iv 0, iv 0, iv 0] 42 (0, 0))) := by
  have h := heap_alloc_new (w.alloc (.cells #[iv 1, iv t, iv c, iv u, iv o] 46)) (.cells #[iv 0, iv 0, iv 0, iv 0] 42)
  rwa [show (w.alloc (.cells #[iv 1, iv t, iv c, iv u, iv o] 46)).heap.size = w.heap.size + 1 by simp] at h
 clear h
 go_wp2_with fail
 generalize (w.alloc (.cells #[iv 1, iv t, iv c, iv u, iv o] 46)).alloc (.cells #[iv 0, iv 0, iv 0, iv 0] 42) = W0 at hT0 rb0 ⊢
 refine (H0.out _ _ hT0.out).mono ?_
 rintro e W1 ⟨rfl, hT1, hk⟩
 have rb1 : Hid (W1.heap[w.heap.size + 1]? = some (.cells #[iv 0, iv 0, iv 0, iv 0] 42 (0, 0))) := (hk _ (.inr rfl)).trans rb0.out
 have lv : w.heap.size + 1 < W1.heap.size := (blt rb1.out)
 have HE : Hid (∀ v0 v1 v2 v3, ansP P1 w ((((W1.setCell (aq (w.heap.size + 1) 0) v0).setCell (aq (w.heap.size + 1) 1) v1).setCell (aq (w.heap.size + 1) 2) v2).setCell (aq (w.heap.size + 1) 3) v3) own) := fun v0 v1 v2 v3 => seenL_end (seenL_set4 K1 hT1 hw.out (.inr rfl) v0 v1 v2 v3)
 obtain ⟨r0, r1, r2, r3⟩ := four_cells rb1.out
 have g0 := row_free rb1.out 0
 have g1 := row_free rb1.out 1
 have g2 := row_free rb1.out 2
 have g3 := row_free rb1.out 3
 clear hk hT0 hT1 rb0
 go_wp2
 refine bodyPost_ret (v := .agg #[iv a0, iv a1, iv a2, iv a3]) (by simp [results, Tryz.results101, go_sem, r0, r1, r2, r3]) rfl ⟨rfl, ?_⟩
 exact HE.out _ _ _ _
theorem do_confirm (x : Nat) (own : Nat → Prop) (P0 P1 : World → (Nat → Prop) → Prop) (K0 : Keeps P0) (K1 : Keeps P1) (t c u o a0 a1 a2 a3 : Int) (w : World) (hw : ∀ k, own k → k < w.heap.size) (h : P0 w own)
 (H0 : Hid (doesL w own P0 P1 133 #[pt x 0, .agg #[iv 2, iv t, iv c, iv u, iv o]] (.agg #[iv a0, iv a1, iv a2, iv a3]))) :
 Calls Tryz.prog 101 #[pt x 0, .agg #[iv 2, iv t, iv c, iv u, iv o]] w fun e w' => e = .returned (.agg #[iv a0, iv a1, iv a2, iv a3]) ∧ ansP P1 w w' own := by
 replace hw : Hid _ := hw
 go_enter Tryz.func101, Tryz.ntmps101
 have hT0 : Hid (seenL P0 w own (fun j => j = w.heap.size ∨ j = w.heap.size + 1) ((w.alloc (.cells #[iv 2, iv t, iv c, iv u, iv o] 46)).alloc (.cells #[iv 0, iv 0, iv 0, iv 0] 42))) := seenL_start K0 h (((Below.refl _ _).alloc (Nat.le_refl _) _).alloc (by simp) _) (fun j e => by rcases e with e | e <;> (subst e; simp; try omega))
 have rb0 : Hid (((w.alloc (.cells #[iv 2, iv t, iv c, iv u, iv o] 46)).alloc (.cells #[iv 0, iv 0, iv 0, iv 0] 42)).heap[w.heap.size + 1]? = some (.cells #[iv 0, iv 0, iv 0, iv 0] 42 (0, 0))) := by
  have h := heap_alloc_new (w.alloc (.cells #[iv 2, iv t, iv c, iv u, iv o] 46)) (.cells #[iv 0, iv 0, iv 0, iv 0] 42)
  rwa [show (w.alloc (.cells #[iv 2, iv t, iv c, iv u, iv o] 46)).heap.size = w.heap.size + 1 by simp] at h
 clear h
 go_wp2_with fail
 generalize (w.alloc (.cells #[iv 2, iv t, iv c, iv u, iv o] 46)).alloc (.cells #[iv 0, iv 0, iv 0, iv 0] 42) = W0 at hT0 rb0 ⊢
 refine (H0.out _ _ hT0.out).mono ?_
 rintro e W1 ⟨rfl, hT1, hk⟩
 have rb1 : Hid (W1.heap[w.heap.size + 1]? = some (.cells #[iv 0, iv 0, iv 0, iv 0] 42 (0, 0))) := (hk _ (.inr rfl)).trans rb0.out
 have lv : w.heap.size + 1 < W1.heap.size := (blt rb1.out)
 have HE : Hid (∀ v0 v1 v2 v3, ansP P1 w ((((W1.setCell (aq (w.heap.size + 1) 0) v0).setCell (aq (w.heap.size + 1) 1) v1).setCell (aq (w.heap.size + 1) 2) v2).setCell (aq (w.heap.size + 1) 3) v3) own) := fun v0 v1 v2 v3 => seenL_end (seenL_set4 K1 hT1 hw.out (.inr rfl) v0 v1 v2 v3)
 obtain ⟨r0, r1, r2, r3⟩ := four_cells rb1.out
 have g0 := row_free rb1.out 0
 have g1 := row_free rb1.out 1
 have g2 := row_free rb1.out 2
 have g3 := row_free rb1.out 3
 clear hk hT0 hT1 rb0
 go_wp2
 refine bodyPost_ret (v := .agg #[iv a0, iv a1, iv a2, iv a3]) (by simp [results, Tryz.results101, go_sem, r0, r1, r2, r3]) rfl ⟨rfl, ?_⟩
 exact HE.out _ _ _ _
theorem do_cancel (x : Nat) (own : Nat → Prop) (P0 P1 : World → (Nat → Prop) → Prop) (K0 : Keeps P0) (K1 : Keeps P1) (k t c u o a0 a1 a2 a3 : Int) (w : World) (q1 : (k == 1) = false) (q2 : (k == 2) = false) (hw : ∀ k, own k → k < w.heap.size) (h : P0 w own)
 (H0 : Hid (doesL w own P0 P1 134 #[pt x 0, .agg #[iv k, iv t, iv c, iv u, iv o]] (.agg #[iv a0, iv a1, iv a2, iv a3]))) :
 Calls Tryz.prog 101 #[pt x 0, .agg #[iv k, iv t, iv c, iv u, iv o]] w fun e w' => e = .returned (.agg #[iv a0, iv a1, iv a2, iv a3]) ∧ ansP P1 w w' own := by
 replace hw : Hid _ := hw
 go_enter Tryz.func101, Tryz.ntmps101
 have hT0 : Hid (seenL P0 w own (fun j => j = w.heap.size ∨ j = w.heap.size + 1) ((w.alloc (.cells #[iv k, iv t, iv c, iv u, iv o] 46)).alloc (.cells #[iv 0, iv 0, iv 0, iv 0] 42))) := seenL_start K0 h (((Below.refl _ _).alloc (Nat.le_refl _) _).alloc (by simp) _) (fun j e => by rcases e with e | e <;> (subst e; simp; try omega))
 have rb0 : Hid (((w.alloc (.cells #[iv k, iv t, iv c, iv u, iv o] 46)).alloc (.cells #[iv 0, iv 0, iv 0, iv 0] 42)).heap[w.heap.size + 1]? = some (.cells #[iv 0, iv 0, iv 0, iv 0] 42 (0, 0))) := by
  have h := heap_alloc_new (w.alloc (.cells #[iv k, iv t, iv c, iv u, iv o] 46)) (.cells #[iv 0, iv 0, iv 0, iv 0] 42)
  rwa [show (w.alloc (.cells #[iv k, iv t, iv c, iv u, iv o] 46)).heap.size = w.heap.size + 1 by simp] at h
 clear h
 go_wp2_with fail
 generalize (w.alloc (.cells #[iv k, iv t, iv c, iv u, iv o] 46)).alloc (.cells #[iv 0, iv 0, iv 0, iv 0] 42) = W0 at hT0 rb0 ⊢
 refine (H0.out _ _ hT0.out).mono ?_
 rintro e W1 ⟨rfl, hT1, hk⟩
 have rb1 : Hid (W1.heap[w.heap.size + 1]? = some (.cells #[iv 0, iv 0, iv 0, iv 0] 42 (0, 0))) := (hk _ (.inr rfl)).trans rb0.out
 have lv : w.heap.size + 1 < W1.heap.size := (blt rb1.out)
 have HE : Hid (∀ v0 v1 v2 v3, ansP P1 w ((((W1.setCell (aq (w.heap.size + 1) 0) v0).setCell (aq (w.heap.size + 1) 1) v1).setCell (aq (w.heap.size + 1) 2) v2).setCell (aq (w.heap.size + 1) 3) v3) own) := fun v0 v1 v2 v3 => seenL_end (seenL_set4 K1 hT1 hw.out (.inr rfl) v0 v1 v2 v3)
 obtain ⟨r0, r1, r2, r3⟩ := four_cells rb1.out
 have g0 := row_free rb1.out 0
 have g1 := row_free rb1.out 1
 have g2 := row_free rb1.out 2
 have g3 := row_free rb1.out 3
 clear hk hT0 hT1 rb0
 go_wp2
 refine bodyPost_ret (v := .agg #[iv a0, iv a1, iv a2, iv a3]) (by simp [results, Tryz.results101, go_sem, r0, r1, r2, r3]) rfl ⟨rfl, ?_⟩
 exact HE.out _ _ _ _
section
section
variable {w : World} {x : Nat} {own : Nat → Prop} {S : Sal} {last : Nat} {an : Int}
theorem saleK.put {S : Sal} (h : saleK S) {i : Nat} {o : Ord} (hI : salI (S.put i o)) : saleK (S.put i o) := ⟨hI, by show (S.os.set i o).length ≤ _; simpa using h.len, h.lease, h.wait, h.keep⟩
theorem free_s (h : psx an x S last w own) (hK : saleK S) :
 Calls Tryz.prog 58 #[pt x 0] w fun e w' => e = .returned (iv S.free) ∧ Below w.heap.size w w' := by
 obtain ⟨V, hm, hr, _⟩ := h
 have hB := hr.bounds hK.I hK.len
 have := free_x hm hB.stock hB.sold hB.held
 rw [hr.C, hr.sold, hr.held] at this
 exact this
theorem left_s (h : psx an x S last w own) (hK : saleK S) :
 Calls Tryz.prog 154 #[pt x 0] w fun e w' => e = .returned (iv S.left) ∧ Below w.heap.size w w' := by
 obtain ⟨V, hm, hr, _⟩ := h
 have hB := hr.bounds hK.I hK.len
 have := left_x hm hB.stock hB.sold
 rw [hr.C, hr.sold] at this
 exact this
theorem price_s (h : psx an x S last w own) :
 Calls Tryz.prog 178 #[pt x 0] w fun e w' => e = .returned (iv S.price) ∧ Below w.heap.size w w' := by
 obtain ⟨V, hm, hr, _⟩ := h
 have := price_x hm
 rw [hr.C, hr.sold] at this
 exact this
theorem get_s (h : psx an x S last w own) {i : Nat} (hi : S.knows i) :
 Calls Tryz.prog 131 #[pt x 11, iv ((i : Int) + 1)] w fun e w' => e = .returned (.tuple #[(pordOf S.C i (S.os.getD i ord0)).val, .bool true]) ∧ Below w.heap.size w w' := by
 obtain ⟨V, hm, hr, _⟩ := h
 obtain ⟨j, h1, h2⟩ := hr.known hi
 exact oget_yes_x hm hr.ls.srt h2 h1
theorem get_none_s (h : psx an x S last w own) {num : Int} (hi : ∀ i, S.knows i → num ≠ (i : Int) + 1) :
 Calls Tryz.prog 131 #[pt x 11, iv num] w fun e w' => e = .returned (.tuple #[pord0.val, .bool false]) ∧ Below w.heap.size w w' := by
 obtain ⟨V, hm, hr, _⟩ := h
 exact oget_no_x hm hr.ls.srt (hr.strange hi)
theorem price_hold (S : Sal) {i : Nat} (hi : i < S.os.length) (hs : (S.os.getD i ord0).state ≠ 14) : (S.put i { S.os.getD i ord0 with state := 13 }).price = S.price := by
 unfold Sal.price
 show priceT S.C.prices (unitsS (S.os.set i _) 14 0) _ = _
 rw [units_set hi, part0, part0, if_neg hs, if_neg (show ¬ (13 : Int) = 14 by decide)]
 rw [show unitsS S.os 14 0 - 0 + 0 = unitsS S.os 14 0 by omega]
 rfl
theorem hold_s (h : psx an x S last w own) (hK : saleK S) {i : Nat} (hi : S.knows i) (hs : (S.os.getD i ord0).state = 12) :
 Calls Tryz.prog 162 #[pt x 0, (pordOf S.C i (S.os.getD i ord0)).val] w fun e w' => e = .returned (POrd.val ⟨(i : Int) + 1, (S.os.getD i ord0).cust, (S.os.getD i ord0).units, 13, S.price, S.now + S.C.lease⟩) ∧ ansP (psx an x (S.holds i) last) w w' own := by
 have hw := (keepX an x S last).lt h
 refine hold_w x own (psx an x S last) (psx an x (S.holds i) last) (keepX _ _ _ _) (keepX _ _ _ _) _ _ _ _ _ _ S.price (S.now + S.C.lease) w hw h (fun W hW => seen_look (keepX _ _ _ _) hw (fun W o hp => price_s hp) W hW) (fun W hW => seen_call hw (fun W o hp => ?_) W hW)
 have e : S.holds i = S.put i { S.os.getD i ord0 with state := 13, cents := S.price, upto := S.now + S.C.lease } := by
  unfold Sal.holds
  rw [price_hold S hi.1 (by rw [hs]; decide)]
 rw [e]
 exact move_x hp hK hi ⟨(i : Int) + 1, (S.os.getD i ord0).cust, (S.os.getD i ord0).units, (S.os.getD i ord0).state, S.price, (S.os.getD i ord0).untl S.C⟩ rfl rfl rfl rfl 13 (by decide) _ rfl rfl rfl rfl (by unfold Ord.untl spanS; rw [if_pos (.inr rfl), if_pos rfl])
def Sal.firstW (S : Sal) : Option POrd := match queueS S.os with
 | [] => none
 | q :: _ => some (pordOf S.C q (S.os.getD q ord0))
theorem first_s (h : psx an x S last w own) :
 Calls Tryz.prog 161 #[pt x 0] w fun e w' => e = .returned (.tuple #[(S.firstW.getD pord0).val, .bool S.firstW.isSome]) ∧ Below w.heap.size w w' := by
 have K := keepX an x S last
 have hb : ∀ W, Below w.heap.size w W → psx an x S last W own := fun W hW => K.keep h hW.size (fun k e => hW.block k (K.lt h k e))
 cases hq : queueS S.os with
 | nil =>
   have e : S.firstW = none := by unfold Sal.firstW; rw [hq]
   rw [e]
   refine firstQ_no x 0 w (fun W hW => ?_)
   obtain ⟨V, ⟨g, hm⟩, hr, _⟩ := hb W hW
   have := qfirst_any x 15 g.qt W (hm.cell 15 _ rfl) hm.qt.1
   rw [fstE, hm.qt.2, (turnsQ_none hr.turns).2 hq] at this
   exact this
 | cons q qs =>
   have e : S.firstW = some (pordOf S.C q (S.os.getD q ord0)) := by unfold Sal.firstW; rw [hq]
   obtain ⟨_, h1, h2⟩ := queue_tail hq ord0 (by decide)
   have hk : S.knows q := ⟨h1, .inl (.inl h2)⟩
   rw [e]
   refine firstQ_yes x ((q : Int) + 1) _ _ _ _ _ _ w (fun W hW => ?_) (fun W hW => get_s (hb W hW) hk)
   obtain ⟨V, ⟨g, hm⟩, hr, _⟩ := hb W hW
   have := qfirst_any x 15 g.qt W (hm.cell 15 _ rfl) hm.qt.1
   have hn : V.qt ≠ [] := fun c => by
    have := (turnsQ_none hr.turns).1 c
    rw [hq] at this
    cases this
   rw [fstE, hm.qt.2, turnsQ_first hr.turns hq, decide_eq_true hn] at this
   exact this
theorem promote_s (h : psx an x S last w own) (hK : saleK S) :
 Calls Tryz.prog 137 #[pt x 0] w fun e w' => e = .returned (.tuple #[]) ∧ ansP (psx an x S.promote last) w w' own := by
 have hsome : ∀ (S : Sal) p, S.firstW = some p → ∃ q qs, queueS S.os = q :: qs ∧ p = pordOf S.C q (S.os.getD q ord0) ∧ q < S.os.length ∧ (S.os.getD q ord0).state = 12 := by
  intro S p e
  unfold Sal.firstW at e
  cases hq : queueS S.os with
  | nil => rw [hq] at e; cases e
  | cons q qs =>
    rw [hq] at e
    simp only [Option.some.injEq] at e
    obtain ⟨_, h1, h2⟩ := queue_tail hq ord0 (by decide)
    exact ⟨q, qs, rfl, e.symm, h1, h2⟩
 refine promote_walk x (fun S => psx an x S last) (fun S => keepX an x S last) saleK Sal.firstW Sal.free (fun S => S.holds ((queueS S.os).headD 0)) Sal.promote (fun S => (queueS S.os).length) (fun S => POrd.val ⟨((((queueS S.os).headD 0 : Nat) : Int)) + 1, (S.os.getD ((queueS S.os).headD 0) ord0).cust, (S.os.getD ((queueS S.os).headD 0) ord0).units, 13, S.price, S.now + S.C.lease⟩) (fun S p => p.units ≤ S.free) (fun _ _ => Iff.rfl) (fun S _ W o hp => first_s hp) (fun S hK W o hp => free_s hp hK) (fun S p hK e hle W o hp => ?_) (fun S p hK e hle => ?_) (fun S hK hle => ?_) S w own hK h
 ·obtain ⟨q, qs, hq, rfl, h1, h2⟩ := hsome S p e
  simp only [hq, List.headD_cons]
  exact hold_s hp hK ⟨h1, .inl (.inl h2)⟩ h2
 ·obtain ⟨q, qs, hq, rfl, h1, h2⟩ := hsome S p e
  have hf : ¬ S.free < (S.os.getD q ord0).units := by
   have : (S.os.getD q ord0).units ≤ S.free := hle
   omega
  simp only [hq, List.headD_cons]
  have hpr : 0 ≤ S.price ∧ S.price ≤ 1073741824 := priceT_bounds hK.I.prices _ _ (Nat.le_refl _)
  have ho := hK.I.ords _ (ord_mem h1)
  refine ⟨hK.put (salI_hold hK.I h1 h2 hf _ rfl rfl rfl ⟨?_, ho.2⟩), ?_, (promote_go hq hf).symm⟩
  ·rw [price_hold S h1 (by rw [h2]; decide)]; exact hpr
  ·rw [holds_queue hq]; simp
 ·cases hq : queueS S.os with
  | nil => exact promote_nil hq
  | cons q qs =>
    refine promote_stop hq ?_
    have := hle (pordOf S.C q (S.os.getD q ord0)) (by unfold Sal.firstW; rw [hq])
    have : ¬ (S.os.getD q ord0).units ≤ S.free := this
    omega
theorem sizes_unique {Z Z' : List Ent} {os : List Ord} (h : sizesOk Z os) (h' : sizesOk Z' os) : Z = Z' := srt_same h.1 h'.1 (fun e => (h.2 e).trans (h'.2 e).symm)
def headI : List Ent → Option Nat
 | [] => none
 | e :: _ => some (e.1.2 - 1).toNat
open Classical in
noncomputable def Sal.greatI (S : Sal) : Option Nat := if h : ∃ Z, sizesOk Z S.os then headI (Classical.choose h) else none
noncomputable def Sal.greatW (S : Sal) : Option POrd := S.greatI.map (fun q => pordOf S.C q (S.os.getD q ord0))
theorem greatI_of {Z : List Ent} (h : sizesOk Z S.os) : S.greatI = headI Z := by
 unfold Sal.greatI
 have hx : ∃ Z, sizesOk Z S.os := ⟨Z, h⟩
 rw [dif_pos hx, sizes_unique (Classical.choose_spec hx) h]
theorem great_spec {Z : List Ent} (h : sizesOk Z S.os) : (queueS S.os = [] ∧ Z = [] ∧ S.greatI = none) ∨ ∃ i, S.greatI = some i ∧ Z ≠ [] ∧ i < S.os.length ∧ (S.os.getD i ord0).state = 12 ∧ Z.headD ((0, 0), 0) = ((-(S.os.getD i ord0).units, (i : Int) + 1), 0) ∧ ∀ j, j < S.os.length → (S.os.getD j ord0).state = 12 → (S.os.getD j ord0).units ≤ (S.os.getD i ord0).units := by
 by_cases hz : Z = []
 ·exact .inl ⟨(sizesQ_none h).1 hz, hz, by rw [greatI_of h, hz]; rfl⟩
 ·obtain ⟨i, a, b, c, d⟩ := sizesQ_first h hz
  refine .inr ⟨i, ?_, hz, a, b, c, d⟩
  rw [greatI_of h]
  cases Z with
  | nil => exact absurd rfl hz
  | cons e l =>
    have c' : e = ((-(S.os.getD i ord0).units, (i : Int) + 1), 0) := c
    rw [c']
    simp [headI]
theorem great_s (h : psx an x S last w own) :
 Calls Tryz.prog 175 #[pt x 0] w fun e w' => e = .returned (.tuple #[(S.greatW.getD pord0).val, .bool S.greatW.isSome]) ∧ Below w.heap.size w w' := by
 have K := keepX an x S last
 have hb : ∀ W, Below w.heap.size w W → psx an x S last W own := fun W hW => K.keep h hW.size (fun k e => hW.block k (K.lt h k e))
 obtain ⟨V0, _, hr0, _⟩ := h
 rcases great_spec hr0.sizes with ⟨hq, hz, hg⟩ | ⟨i, hg, hz, h1, h2, h3, _⟩
 ·have e : S.greatW = none := by unfold Sal.greatW; rw [hg]; rfl
  rw [e]
  refine greatQ_no x 0 w (fun W hW => ?_)
  obtain ⟨V, ⟨g, hm⟩, hr, _⟩ := hb W hW
  have := qgreatest_any x 15 g.qz W (hm.cell 17 _ rfl) hm.qz.1
  rw [fstE, hm.qz.2, (sizesQ_none hr.sizes).2 hq] at this
  exact this
 ·have e : S.greatW = some (pordOf S.C i (S.os.getD i ord0)) := by unfold Sal.greatW; rw [hg]; rfl
  have hk : S.knows i := ⟨h1, .inl (.inl h2)⟩
  rw [e]
  refine greatQ_yes x ((i : Int) + 1) _ _ _ _ _ _ w (fun W hW => ?_) (fun W hW => get_s (hb W hW) hk)
  obtain ⟨V, ⟨g, hm⟩, hr, _⟩ := hb W hW
  have := qgreatest_any x 15 g.qz W (hm.cell 17 _ rfl) hm.qz.1
  have hv : V.qz = V0.qz := sizes_unique hr.sizes hr0.sizes
  rw [fstE, hm.qz.2, hv, h3, decide_eq_true hz] at this
  exact this
theorem ends_s (h : psx an x S last w own) (hK : saleK S) {i : Nat} (hi : S.knows i) (st : Int) (hst : st ≠ 12 ∧ st ≠ 13) :
 Calls Tryz.prog 157 #[pt x 0, (pordOf S.C i (S.os.getD i ord0)).val, iv st] w fun e w' => e = .returned (POrd.val ⟨(i : Int) + 1, (S.os.getD i ord0).cust, (S.os.getD i ord0).units, st, (S.os.getD i ord0).cents, S.now + S.C.keep⟩) ∧ ansP (psx an x (S.ends i st) last) w w' own := by
 have hsp : spanS S.C st = S.C.keep := by unfold spanS; rw [if_neg hst.2, if_neg hst.1]
 have := move_x h hK hi (pordOf S.C i (S.os.getD i ord0)) rfl rfl rfl rfl st hst.1 { S.os.getD i ord0 with state := st, ended := S.now } rfl rfl rfl rfl (by rw [hsp]; exact untl_ended (fun c => c.elim hst.1 hst.2))
 rw [hsp] at this
 exact this
theorem saleK.ends {S : Sal} (h : saleK S) {i : Nat} (hi : i < S.os.length) (st : Int) (hst : st = 14 ∨ (st ≠ 12 ∧ st ≠ 13 ∧ st ≠ 14)) (h14 : st = 14 → (S.os.getD i ord0).state = 13) : saleK (S.ends i st) := h.put (salI_end h.I hi st hst h14)
theorem drain_s (h : psx an x S last w own) (hK : saleK S) :
 Calls Tryz.prog 158 #[pt x 0] w fun e w' => e = .returned (.tuple #[]) ∧ ansP (psx an x S.drained last) w w' own := by
 obtain ⟨V0, _, hr0, _⟩ := id h
 have hz0 : ∃ Z, sizesOk Z S.os := ⟨_, hr0.sizes⟩
 clear hr0
 have hsome : ∀ (S : Sal) p, (∃ Z, sizesOk Z S.os) → S.greatW = some p → ∃ q, S.greatI = some q ∧ p = pordOf S.C q (S.os.getD q ord0) ∧ q < S.os.length ∧ (S.os.getD q ord0).state = 12 ∧ ∀ j, j < S.os.length → (S.os.getD j ord0).state = 12 → (S.os.getD j ord0).units ≤ (S.os.getD q ord0).units := by
  rintro S p ⟨Z, hZ⟩ e
  rcases great_spec hZ with ⟨_, _, hg⟩ | ⟨i, hg, _, h1, h2, _, h4⟩
  ·unfold Sal.greatW at e; rw [hg] at e; cases e
  ·unfold Sal.greatW at e
   rw [hg] at e
   simp only [Option.map_some, Option.some.injEq] at e
   exact ⟨i, hg, e.symm, h1, h2, h4⟩
 refine drain_walk x (fun S => psx an x S last) (fun S => keepX an x S last) (fun S => saleK S ∧ ∃ Z, sizesOk Z S.os) Sal.greatW Sal.left (fun S => S.ends (S.greatI.getD 0) 18) Sal.drained (fun S => (queueS S.os).length) (fun S => POrd.val ⟨((S.greatI.getD 0 : Nat) : Int) + 1, (S.os.getD (S.greatI.getD 0) ord0).cust, (S.os.getD (S.greatI.getD 0) ord0).units, 18, (S.os.getD (S.greatI.getD 0) ord0).cents, S.now + S.C.keep⟩) (fun S p => S.left < p.units) (fun _ _ => Iff.rfl) (fun S _ W o hp => great_s hp) (fun S hK W o hp => left_s hp hK.1) (fun S p hK e hle W o hp => ?_) (fun S p hK e hle => ?_) (fun S hK hle => ?_) S w own ⟨hK, hz0⟩ h
 ·obtain ⟨q, hg, rfl, h1, h2, _⟩ := hsome S p hK.2 e
  simp only [hg, Option.getD_some]
  exact ends_s hp hK.1 ⟨h1, .inl (.inl h2)⟩ 18 (by decide)
 ·obtain ⟨q, hg, rfl, h1, h2, _⟩ := hsome S p hK.2 e
  have hlt : S.left < (S.os.getD q ord0).units := hle
  simp only [hg, Option.getD_some]
  obtain ⟨Z, hZ⟩ := hK.2
  refine ⟨⟨hK.1.ends h1 18 (.inr (by decide)) (fun c => absurd c (by decide)), _, sizes_out hZ h1 _ (show (18 : Int) ≠ 12 by decide)⟩, ?_, drained_step h1 h2 hlt⟩
  show (queueS (S.os.set q _)).length < _
  rw [queue_set _ h1 (show (18 : Int) ≠ 12 by decide)]
  refine List.length_filter_lt_length_iff_exists.2 ⟨q, (queueT_mem S.os _ q).2 ⟨h1, h2⟩, by simp⟩
 ·obtain ⟨Z, hZ⟩ := hK.2
  refine drained_stop (fun o ho hs => ?_)
  obtain ⟨j, hj, rfl⟩ := getD_of_mem ho
  rcases great_spec hZ with ⟨hq, _, _⟩ | ⟨i, hg, _, h1, h2, _, h4⟩
  ·have := (queueT_mem S.os _ j).2 ⟨hj, hs⟩
   have hq' : queueT S.os S.os.length = [] := hq
   rw [hq'] at this
   cases this
  ·have := h4 j hj hs
   have h5 := hle (pordOf S.C i (S.os.getD i ord0)) (by unfold Sal.greatW; rw [hg]; rfl)
   have h6 : ¬ S.left < (S.os.getD i ord0).units := h5
   omega
end
end
end Go.Proofs.YtfhncfghblkgeaaGreat
