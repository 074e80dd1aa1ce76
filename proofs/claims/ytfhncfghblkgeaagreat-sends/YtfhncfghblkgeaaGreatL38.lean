import Derived.Test.YtfhncfghblkgeaaGreatL36
set_option maxRecDepth 100000
set_option maxHeartbeats 2000000
namespace Go.Proofs.YtfhncfghblkgeaaGreat
open Go.RowKit
theorem belowS1 {w W : World} {b : Nat} {O : Obj} {v0 v1 v2 v3 : Value} (h : Below w.heap.size w W) (hb : w.heap.size ≤ b) (hz : w.heap.size ≤ W.heap.size) : Below w.heap.size w (((((W.setCell (aq b 0) v0).setCell (aq b 1) v1).setCell (aq b 2) v2).setCell (aq b 3) v3).alloc O) :=
 (below_set4 h hb).alloc (by simp [World.setCell]; exact hz) _
theorem belowS2 {w W : World} {b : Nat} {O O' : Obj} {v0 v1 v2 v3 : Value} (h : Below w.heap.size w W) (hb : w.heap.size ≤ b) (hz : w.heap.size ≤ W.heap.size) : Below w.heap.size w ((((((W.setCell (aq b 0) v0).setCell (aq b 1) v1).setCell (aq b 2) v2).setCell (aq b 3) v3).alloc O).alloc O') :=
 (belowS1 h hb hz).alloc (by simp [World.setCell]; omega) _
theorem poll_none (x : Nat) (k t c u o : Int) (w : World)
 (HF : Hid (∀ W, Below w.heap.size w W → Calls Tryz.prog 99 #[pt x 0, .agg #[iv k, iv t, iv c, iv u, iv o]] W fun e w' => e = .returned (.tuple #[.agg #[iv 0, iv 0, iv 0, iv 0, iv 0, iv 0], .bool false]) ∧ Below W.heap.size W w')) :
 Calls Tryz.prog 63 #[pt x 0, .agg #[iv k, iv t, iv c, iv u, iv o]] w fun e w' => e = .returned (.agg #[iv 19, iv 0, iv 0, iv 0]) ∧ Below w.heap.size w w' := by
 go_enter Tryz.func63, Tryz.ntmps63
 have qb : Hid (((w.alloc (.cells #[iv k, iv t, iv c, iv u, iv o] 46)).alloc (.cells #[iv 0, iv 0, iv 0, iv 0] 42)).heap[w.heap.size]? = some (.cells #[iv k, iv t, iv c, iv u, iv o] 46 (0, 0))) := (Below.heap_alloc _ _ _ (by simp)).trans (heap_alloc_new w _)
 have rb : Hid (((w.alloc (.cells #[iv k, iv t, iv c, iv u, iv o] 46)).alloc (.cells #[iv 0, iv 0, iv 0, iv 0] 42)).heap[w.heap.size + 1]? = some (.cells #[iv 0, iv 0, iv 0, iv 0] 42 (0, 0))) := by
  have h := heap_alloc_new (w.alloc (.cells #[iv k, iv t, iv c, iv u, iv o] 46)) (.cells #[iv 0, iv 0, iv 0, iv 0] 42)
  rwa [show (w.alloc (.cells #[iv k, iv t, iv c, iv u, iv o] 46)).heap.size = w.heap.size + 1 by simp] at h
 have hbl : Hid (Below w.heap.size w ((w.alloc (.cells #[iv k, iv t, iv c, iv u, iv o] 46)).alloc (.cells #[iv 0, iv 0, iv 0, iv 0] 42))) := ((Below.refl _ _).alloc (Nat.le_refl _) _).alloc (by simp) _
 go_wp2_with fail
 generalize (w.alloc (.cells #[iv k, iv t, iv c, iv u, iv o] 46)).alloc (.cells #[iv 0, iv 0, iv 0, iv 0] 42) = W0 at qb rb hbl ⊢
 have lw : w.heap.size < W0.heap.size := (blt qb.out)
 have lv : w.heap.size + 1 < W0.heap.size := (blt rb.out)
 refine (HF.out _ hbl.out).mono ?_
 rintro e W1 ⟨rfl, b⟩
 have hbl1 : Hid (Below w.heap.size w W1) := Below.trans hbl.out (b.mono hbl.out.size)
 have rb1 : Hid _ := (b.block (w.heap.size + 1) lv).trans rb.out
 have lv1 : w.heap.size + 1 < W1.heap.size := Nat.lt_of_lt_of_le lv b.size
 have lw1 : w.heap.size < W1.heap.size := by omega
 clear b qb rb hbl lw lv HF
 obtain ⟨s0, s1, s2, s3⟩ := four_cells rb1.out
 have f0 := row_free rb1.out 0
 have f1 := row_free rb1.out 1
 have f2 := row_free rb1.out 2
 have f3 := row_free rb1.out 3
 go_wp2
 refine bodyPost_ret (v := .agg #[iv 19, iv 0, iv 0, iv 0]) (by simp [results, Tryz.results63, go_sem, s0, s1, s2, s3, lv1]) rfl ⟨rfl, ?_⟩
 exact belowS1 hbl1.out (by omega) (by omega)
theorem poll_wait (x : Nat) (k t c u o num cust units cents up : Int) (w : World)
 (HF : Hid (∀ W, Below w.heap.size w W → Calls Tryz.prog 99 #[pt x 0, .agg #[iv k, iv t, iv c, iv u, iv o]] W fun e w' => e = .returned (.tuple #[.agg #[iv num, iv cust, iv units, iv 12, iv cents, iv up], .bool true]) ∧ Below W.heap.size W w')) :
 Calls Tryz.prog 63 #[pt x 0, .agg #[iv k, iv t, iv c, iv u, iv o]] w fun e w' => e = .returned (.agg #[iv 12, iv num, iv 0, iv up]) ∧ Below w.heap.size w w' := by
 go_enter Tryz.func63, Tryz.ntmps63
 have qb : Hid (((w.alloc (.cells #[iv k, iv t, iv c, iv u, iv o] 46)).alloc (.cells #[iv 0, iv 0, iv 0, iv 0] 42)).heap[w.heap.size]? = some (.cells #[iv k, iv t, iv c, iv u, iv o] 46 (0, 0))) := (Below.heap_alloc _ _ _ (by simp)).trans (heap_alloc_new w _)
 have rb : Hid (((w.alloc (.cells #[iv k, iv t, iv c, iv u, iv o] 46)).alloc (.cells #[iv 0, iv 0, iv 0, iv 0] 42)).heap[w.heap.size + 1]? = some (.cells #[iv 0, iv 0, iv 0, iv 0] 42 (0, 0))) := by
  have h := heap_alloc_new (w.alloc (.cells #[iv k, iv t, iv c, iv u, iv o] 46)) (.cells #[iv 0, iv 0, iv 0, iv 0] 42)
  rwa [show (w.alloc (.cells #[iv k, iv t, iv c, iv u, iv o] 46)).heap.size = w.heap.size + 1 by simp] at h
 have hbl : Hid (Below w.heap.size w ((w.alloc (.cells #[iv k, iv t, iv c, iv u, iv o] 46)).alloc (.cells #[iv 0, iv 0, iv 0, iv 0] 42))) := ((Below.refl _ _).alloc (Nat.le_refl _) _).alloc (by simp) _
 go_wp2_with fail
 generalize (w.alloc (.cells #[iv k, iv t, iv c, iv u, iv o] 46)).alloc (.cells #[iv 0, iv 0, iv 0, iv 0] 42) = W0 at qb rb hbl ⊢
 have lw : w.heap.size < W0.heap.size := (blt qb.out)
 have lv : w.heap.size + 1 < W0.heap.size := (blt rb.out)
 refine (HF.out _ hbl.out).mono ?_
 rintro e W1 ⟨rfl, b⟩
 have hbl1 : Hid (Below w.heap.size w W1) := Below.trans hbl.out (b.mono hbl.out.size)
 have rb1 : Hid _ := (b.block (w.heap.size + 1) lv).trans rb.out
 have lv1 : w.heap.size + 1 < W1.heap.size := Nat.lt_of_lt_of_le lv b.size
 have lw1 : w.heap.size < W1.heap.size := by omega
 clear b qb rb hbl lw lv HF
 obtain ⟨s0, s1, s2, s3⟩ := four_cells rb1.out
 have f0 := row_free rb1.out 0
 have f1 := row_free rb1.out 1
 have f2 := row_free rb1.out 2
 have f3 := row_free rb1.out 3
 go_wp2
 refine bodyPost_ret (v := .agg #[iv 12, iv num, iv 0, iv up]) (by simp [results, Tryz.results63, go_sem, s0, s1, s2, s3, lv1, lw1]) rfl ⟨rfl, ?_⟩
 exact belowS2 hbl1.out (by omega) (by omega)
theorem poll_held (x : Nat) (k t c u o num cust units cents up : Int) (w : World)
 (HF : Hid (∀ W, Below w.heap.size w W → Calls Tryz.prog 99 #[pt x 0, .agg #[iv k, iv t, iv c, iv u, iv o]] W fun e w' => e = .returned (.tuple #[.agg #[iv num, iv cust, iv units, iv 13, iv cents, iv up], .bool true]) ∧ Below W.heap.size W w')) :
 Calls Tryz.prog 63 #[pt x 0, .agg #[iv k, iv t, iv c, iv u, iv o]] w fun e w' => e = .returned (.agg #[iv 13, iv num, iv cents, iv up]) ∧ Below w.heap.size w w' := by
 go_enter Tryz.func63, Tryz.ntmps63
 have qb : Hid (((w.alloc (.cells #[iv k, iv t, iv c, iv u, iv o] 46)).alloc (.cells #[iv 0, iv 0, iv 0, iv 0] 42)).heap[w.heap.size]? = some (.cells #[iv k, iv t, iv c, iv u, iv o] 46 (0, 0))) := (Below.heap_alloc _ _ _ (by simp)).trans (heap_alloc_new w _)
 have rb : Hid (((w.alloc (.cells #[iv k, iv t, iv c, iv u, iv o] 46)).alloc (.cells #[iv 0, iv 0, iv 0, iv 0] 42)).heap[w.heap.size + 1]? = some (.cells #[iv 0, iv 0, iv 0, iv 0] 42 (0, 0))) := by
  have h := heap_alloc_new (w.alloc (.cells #[iv k, iv t, iv c, iv u, iv o] 46)) (.cells #[iv 0, iv 0, iv 0, iv 0] 42)
  rwa [show (w.alloc (.cells #[iv k, iv t, iv c, iv u, iv o] 46)).heap.size = w.heap.size + 1 by simp] at h
 have hbl : Hid (Below w.heap.size w ((w.alloc (.cells #[iv k, iv t, iv c, iv u, iv o] 46)).alloc (.cells #[iv 0, iv 0, iv 0, iv 0] 42))) := ((Below.refl _ _).alloc (Nat.le_refl _) _).alloc (by simp) _
 go_wp2_with fail
 generalize (w.alloc (.cells #[iv k, iv t, iv c, iv u, iv o] 46)).alloc (.cells #[iv 0, iv 0, iv 0, iv 0] 42) = W0 at qb rb hbl ⊢
 have lw : w.heap.size < W0.heap.size := (blt qb.out)
 have lv : w.heap.size + 1 < W0.heap.size := (blt rb.out)
 refine (HF.out _ hbl.out).mono ?_
 rintro e W1 ⟨rfl, b⟩
 have hbl1 : Hid (Below w.heap.size w W1) := Below.trans hbl.out (b.mono hbl.out.size)
 have rb1 : Hid _ := (b.block (w.heap.size + 1) lv).trans rb.out
 have lv1 : w.heap.size + 1 < W1.heap.size := Nat.lt_of_lt_of_le lv b.size
 have lw1 : w.heap.size < W1.heap.size := by omega
 clear b qb rb hbl lw lv HF
 obtain ⟨s0, s1, s2, s3⟩ := four_cells rb1.out
 have f0 := row_free rb1.out 0
 have f1 := row_free rb1.out 1
 have f2 := row_free rb1.out 2
 have f3 := row_free rb1.out 3
 go_wp2
 refine bodyPost_ret (v := .agg #[iv 13, iv num, iv cents, iv up]) (by simp [results, Tryz.results63, go_sem, s0, s1, s2, s3, lv1, lw1]) rfl ⟨rfl, ?_⟩
 exact belowS2 hbl1.out (by omega) (by omega)
theorem poll_sold (x : Nat) (k t c u o num cust units cents up m : Int) (w : World) (hm : IntKind.i64.wrap (units * cents) = m)
 (HF : Hid (∀ W, Below w.heap.size w W → Calls Tryz.prog 99 #[pt x 0, .agg #[iv k, iv t, iv c, iv u, iv o]] W fun e w' => e = .returned (.tuple #[.agg #[iv num, iv cust, iv units, iv 14, iv cents, iv up], .bool true]) ∧ Below W.heap.size W w')) :
 Calls Tryz.prog 63 #[pt x 0, .agg #[iv k, iv t, iv c, iv u, iv o]] w fun e w' => e = .returned (.agg #[iv 14, iv num, iv m, iv 0]) ∧ Below w.heap.size w w' := by
 go_enter Tryz.func63, Tryz.ntmps63
 have qb : Hid (((w.alloc (.cells #[iv k, iv t, iv c, iv u, iv o] 46)).alloc (.cells #[iv 0, iv 0, iv 0, iv 0] 42)).heap[w.heap.size]? = some (.cells #[iv k, iv t, iv c, iv u, iv o] 46 (0, 0))) := (Below.heap_alloc _ _ _ (by simp)).trans (heap_alloc_new w _)
 have rb : Hid (((w.alloc (.cells #[iv k, iv t, iv c, iv u, iv o] 46)).alloc (.cells #[iv 0, iv 0, iv 0, iv 0] 42)).heap[w.heap.size + 1]? = some (.cells #[iv 0, iv 0, iv 0, iv 0] 42 (0, 0))) := by
  have h := heap_alloc_new (w.alloc (.cells #[iv k, iv t, iv c, iv u, iv o] 46)) (.cells #[iv 0, iv 0, iv 0, iv 0] 42)
  rwa [show (w.alloc (.cells #[iv k, iv t, iv c, iv u, iv o] 46)).heap.size = w.heap.size + 1 by simp] at h
 have hbl : Hid (Below w.heap.size w ((w.alloc (.cells #[iv k, iv t, iv c, iv u, iv o] 46)).alloc (.cells #[iv 0, iv 0, iv 0, iv 0] 42))) := ((Below.refl _ _).alloc (Nat.le_refl _) _).alloc (by simp) _
 go_wp2_with fail
 generalize (w.alloc (.cells #[iv k, iv t, iv c, iv u, iv o] 46)).alloc (.cells #[iv 0, iv 0, iv 0, iv 0] 42) = W0 at qb rb hbl ⊢
 have lw : w.heap.size < W0.heap.size := (blt qb.out)
 have lv : w.heap.size + 1 < W0.heap.size := (blt rb.out)
 refine (HF.out _ hbl.out).mono ?_
 rintro e W1 ⟨rfl, b⟩
 have hbl1 : Hid (Below w.heap.size w W1) := Below.trans hbl.out (b.mono hbl.out.size)
 have rb1 : Hid _ := (b.block (w.heap.size + 1) lv).trans rb.out
 have lv1 : w.heap.size + 1 < W1.heap.size := Nat.lt_of_lt_of_le lv b.size
 have lw1 : w.heap.size < W1.heap.size := by omega
 clear b qb rb hbl lw lv HF
 obtain ⟨s0, s1, s2, s3⟩ := four_cells rb1.out
 have f0 := row_free rb1.out 0
 have f1 := row_free rb1.out 1
 have f2 := row_free rb1.out 2
 have f3 := row_free rb1.out 3
 go_wp2
 refine bodyPost_ret (v := .agg #[iv 14, iv num, iv m, iv 0]) (by simp [results, Tryz.results63, go_sem, s0, s1, s2, s3, lv1, lw1]) rfl ⟨rfl, ?_⟩
 exact belowS2 hbl1.out (by omega) (by omega)
theorem poll_ended (x : Nat) (k t c u o num cust units cents up st : Int) (w : World) (q1 : (st == 12) = false) (q2 : (st == 13) = false) (q3 : (st == 14) = false)
 (HF : Hid (∀ W, Below w.heap.size w W → Calls Tryz.prog 99 #[pt x 0, .agg #[iv k, iv t, iv c, iv u, iv o]] W fun e w' => e = .returned (.tuple #[.agg #[iv num, iv cust, iv units, iv st, iv cents, iv up], .bool true]) ∧ Below W.heap.size W w')) :
 Calls Tryz.prog 63 #[pt x 0, .agg #[iv k, iv t, iv c, iv u, iv o]] w fun e w' => e = .returned (.agg #[iv st, iv num, iv 0, iv 0]) ∧ Below w.heap.size w w' := by
 go_enter Tryz.func63, Tryz.ntmps63
 have qb : Hid (((w.alloc (.cells #[iv k, iv t, iv c, iv u, iv o] 46)).alloc (.cells #[iv 0, iv 0, iv 0, iv 0] 42)).heap[w.heap.size]? = some (.cells #[iv k, iv t, iv c, iv u, iv o] 46 (0, 0))) := (Below.heap_alloc _ _ _ (by simp)).trans (heap_alloc_new w _)
 have rb : Hid (((w.alloc (.cells #[iv k, iv t, iv c, iv u, iv o] 46)).alloc (.cells #[iv 0, iv 0, iv 0, iv 0] 42)).heap[w.heap.size + 1]? = some (.cells #[iv 0, iv 0, iv 0, iv 0] 42 (0, 0))) := by
  have h := heap_alloc_new (w.alloc (.cells #[iv k, iv t, iv c, iv u, iv o] 46)) (.cells #[iv 0, iv 0, iv 0, iv 0] 42)
  rwa [show (w.alloc (.cells #[iv k, iv t, iv c, iv u, iv o] 46)).heap.size = w.heap.size + 1 by simp] at h
 have hbl : Hid (Below w.heap.size w ((w.alloc (.cells #[iv k, iv t, iv c, iv u, iv o] 46)).alloc (.cells #[iv 0, iv 0, iv 0, iv 0] 42))) := ((Below.refl _ _).alloc (Nat.le_refl _) _).alloc (by simp) _
 go_wp2_with fail
 generalize (w.alloc (.cells #[iv k, iv t, iv c, iv u, iv o] 46)).alloc (.cells #[iv 0, iv 0, iv 0, iv 0] 42) = W0 at qb rb hbl ⊢
 have lw : w.heap.size < W0.heap.size := (blt qb.out)
 have lv : w.heap.size + 1 < W0.heap.size := (blt rb.out)
 refine (HF.out _ hbl.out).mono ?_
 rintro e W1 ⟨rfl, b⟩
 have hbl1 : Hid (Below w.heap.size w W1) := Below.trans hbl.out (b.mono hbl.out.size)
 have rb1 : Hid _ := (b.block (w.heap.size + 1) lv).trans rb.out
 have lv1 : w.heap.size + 1 < W1.heap.size := Nat.lt_of_lt_of_le lv b.size
 have lw1 : w.heap.size < W1.heap.size := by omega
 clear b qb rb hbl lw lv HF
 obtain ⟨s0, s1, s2, s3⟩ := four_cells rb1.out
 have f0 := row_free rb1.out 0
 have f1 := row_free rb1.out 1
 have f2 := row_free rb1.out 2
 have f3 := row_free rb1.out 3
 go_wp2
 refine bodyPost_ret (v := .agg #[iv st, iv num, iv 0, iv 0]) (by simp [results, Tryz.results63, go_sem, s0, s1, s2, s3, lv1, lw1]) rfl ⟨rfl, ?_⟩
 exact belowS2 hbl1.out (by omega) (by omega)
theorem confirm_none (x : Nat) (k t c u o : Int) (w : World)
 (HF : Hid (∀ W, Below w.heap.size w W → Calls Tryz.prog 99 #[pt x 0, .agg #[iv k, iv t, iv c, iv u, iv o]] W fun e w' => e = .returned (.tuple #[.agg #[iv 0, iv 0, iv 0, iv 0, iv 0, iv 0], .bool false]) ∧ Below W.heap.size W w')) :
 Calls Tryz.prog 133 #[pt x 0, .agg #[iv k, iv t, iv c, iv u, iv o]] w fun e w' => e = .returned (.agg #[iv 9, iv 0, iv 0, iv 0]) ∧ Below w.heap.size w w' := by
 go_enter Tryz.func133, Tryz.ntmps133
 have qb : Hid (((w.alloc (.cells #[iv k, iv t, iv c, iv u, iv o] 46)).alloc (.cells #[iv 0, iv 0, iv 0, iv 0] 42)).heap[w.heap.size]? = some (.cells #[iv k, iv t, iv c, iv u, iv o] 46 (0, 0))) := (Below.heap_alloc _ _ _ (by simp)).trans (heap_alloc_new w _)
 have rb : Hid (((w.alloc (.cells #[iv k, iv t, iv c, iv u, iv o] 46)).alloc (.cells #[iv 0, iv 0, iv 0, iv 0] 42)).heap[w.heap.size + 1]? = some (.cells #[iv 0, iv 0, iv 0, iv 0] 42 (0, 0))) := by
  have h := heap_alloc_new (w.alloc (.cells #[iv k, iv t, iv c, iv u, iv o] 46)) (.cells #[iv 0, iv 0, iv 0, iv 0] 42)
  rwa [show (w.alloc (.cells #[iv k, iv t, iv c, iv u, iv o] 46)).heap.size = w.heap.size + 1 by simp] at h
 have hbl : Hid (Below w.heap.size w ((w.alloc (.cells #[iv k, iv t, iv c, iv u, iv o] 46)).alloc (.cells #[iv 0, iv 0, iv 0, iv 0] 42))) := ((Below.refl _ _).alloc (Nat.le_refl _) _).alloc (by simp) _
 go_wp2_with fail
 generalize (w.alloc (.cells #[iv k, iv t, iv c, iv u, iv o] 46)).alloc (.cells #[iv 0, iv 0, iv 0, iv 0] 42) = W0 at qb rb hbl ⊢
 have lw : w.heap.size < W0.heap.size := (blt qb.out)
 have lv : w.heap.size + 1 < W0.heap.size := (blt rb.out)
 refine (HF.out _ hbl.out).mono ?_
 rintro e W1 ⟨rfl, b⟩
 have hbl1 : Hid (Below w.heap.size w W1) := Below.trans hbl.out (b.mono hbl.out.size)
 have rb1 : Hid _ := (b.block (w.heap.size + 1) lv).trans rb.out
 have lv1 : w.heap.size + 1 < W1.heap.size := Nat.lt_of_lt_of_le lv b.size
 have lw1 : w.heap.size < W1.heap.size := by omega
 clear b qb rb hbl lw lv HF
 obtain ⟨s0, s1, s2, s3⟩ := four_cells rb1.out
 have f0 := row_free rb1.out 0
 have f1 := row_free rb1.out 1
 have f2 := row_free rb1.out 2
 have f3 := row_free rb1.out 3
 go_wp2
 refine bodyPost_ret (v := .agg #[iv 9, iv 0, iv 0, iv 0]) (by simp [results, Tryz.results133, go_sem, s0, s1, s2, s3, lv1]) rfl ⟨rfl, ?_⟩
 exact belowS1 hbl1.out (by omega) (by omega)
theorem confirm_gone (x : Nat) (k t c u o num cust units cents up st : Int) (w : World) (q3 : (st != 13) = true)
 (HF : Hid (∀ W, Below w.heap.size w W → Calls Tryz.prog 99 #[pt x 0, .agg #[iv k, iv t, iv c, iv u, iv o]] W fun e w' => e = .returned (.tuple #[.agg #[iv num, iv cust, iv units, iv st, iv cents, iv up], .bool true]) ∧ Below W.heap.size W w')) :
 Calls Tryz.prog 133 #[pt x 0, .agg #[iv k, iv t, iv c, iv u, iv o]] w fun e w' => e = .returned (.agg #[iv 9, iv 0, iv 0, iv 0]) ∧ Below w.heap.size w w' := by
 go_enter Tryz.func133, Tryz.ntmps133
 have qb : Hid (((w.alloc (.cells #[iv k, iv t, iv c, iv u, iv o] 46)).alloc (.cells #[iv 0, iv 0, iv 0, iv 0] 42)).heap[w.heap.size]? = some (.cells #[iv k, iv t, iv c, iv u, iv o] 46 (0, 0))) := (Below.heap_alloc _ _ _ (by simp)).trans (heap_alloc_new w _)
 have rb : Hid (((w.alloc (.cells #[iv k, iv t, iv c, iv u, iv o] 46)).alloc (.cells #[iv 0, iv 0, iv 0, iv 0] 42)).heap[w.heap.size + 1]? = some (.cells #[iv 0, iv 0, iv 0, iv 0] 42 (0, 0))) := by
  have h := heap_alloc_new (w.alloc (.cells #[iv k, iv t, iv c, iv u, iv o] 46)) (.cells #[iv 0, iv 0, iv 0, iv 0] 42)
  rwa [show (w.alloc (.cells #[iv k, iv t, iv c, iv u, iv o] 46)).heap.size = w.heap.size + 1 by simp] at h
 have hbl : Hid (Below w.heap.size w ((w.alloc (.cells #[iv k, iv t, iv c, iv u, iv o] 46)).alloc (.cells #[iv 0, iv 0, iv 0, iv 0] 42))) := ((Below.refl _ _).alloc (Nat.le_refl _) _).alloc (by simp) _
 go_wp2_with fail
 generalize (w.alloc (.cells #[iv k, iv t, iv c, iv u, iv o] 46)).alloc (.cells #[iv 0, iv 0, iv 0, iv 0] 42) = W0 at qb rb hbl ⊢
 have lw : w.heap.size < W0.heap.size := (blt qb.out)
 have lv : w.heap.size + 1 < W0.heap.size := (blt rb.out)
 refine (HF.out _ hbl.out).mono ?_
 rintro e W1 ⟨rfl, b⟩
 have hbl1 : Hid (Below w.heap.size w W1) := Below.trans hbl.out (b.mono hbl.out.size)
 have rb1 : Hid _ := (b.block (w.heap.size + 1) lv).trans rb.out
 have lv1 : w.heap.size + 1 < W1.heap.size := Nat.lt_of_lt_of_le lv b.size
 have lw1 : w.heap.size < W1.heap.size := by omega
 clear b qb rb hbl lw lv HF
 obtain ⟨s0, s1, s2, s3⟩ := four_cells rb1.out
 have f0 := row_free rb1.out 0
 have f1 := row_free rb1.out 1
 have f2 := row_free rb1.out 2
 have f3 := row_free rb1.out 3
 go_wp2
 refine bodyPost_ret (v := .agg #[iv 9, iv 0, iv 0, iv 0]) (by simp [results, Tryz.results133, go_sem, s0, s1, s2, s3, lv1]) rfl ⟨rfl, ?_⟩
 exact belowS1 hbl1.out (by omega) (by omega)
theorem cancel_none (x : Nat) (k t c u o : Int) (w : World)
 (HF : Hid (∀ W, Below w.heap.size w W → Calls Tryz.prog 99 #[pt x 0, .agg #[iv k, iv t, iv c, iv u, iv o]] W fun e w' => e = .returned (.tuple #[.agg #[iv 0, iv 0, iv 0, iv 0, iv 0, iv 0], .bool false]) ∧ Below W.heap.size W w')) :
 Calls Tryz.prog 134 #[pt x 0, .agg #[iv k, iv t, iv c, iv u, iv o]] w fun e w' => e = .returned (.agg #[iv 9, iv 0, iv 0, iv 0]) ∧ Below w.heap.size w w' := by
 go_enter Tryz.func134, Tryz.ntmps134
 have qb : Hid (((w.alloc (.cells #[iv k, iv t, iv c, iv u, iv o] 46)).alloc (.cells #[iv 0, iv 0, iv 0, iv 0] 42)).heap[w.heap.size]? = some (.cells #[iv k, iv t, iv c, iv u, iv o] 46 (0, 0))) := (Below.heap_alloc _ _ _ (by simp)).trans (heap_alloc_new w _)
 have rb : Hid (((w.alloc (.cells #[iv k, iv t, iv c, iv u, iv o] 46)).alloc (.cells #[iv 0, iv 0, iv 0, iv 0] 42)).heap[w.heap.size + 1]? = some (.cells #[iv 0, iv 0, iv 0, iv 0] 42 (0, 0))) := by
  have h := heap_alloc_new (w.alloc (.cells #[iv k, iv t, iv c, iv u, iv o] 46)) (.cells #[iv 0, iv 0, iv 0, iv 0] 42)
  rwa [show (w.alloc (.cells #[iv k, iv t, iv c, iv u, iv o] 46)).heap.size = w.heap.size + 1 by simp] at h
 have hbl : Hid (Below w.heap.size w ((w.alloc (.cells #[iv k, iv t, iv c, iv u, iv o] 46)).alloc (.cells #[iv 0, iv 0, iv 0, iv 0] 42))) := ((Below.refl _ _).alloc (Nat.le_refl _) _).alloc (by simp) _
 go_wp2_with fail
 generalize (w.alloc (.cells #[iv k, iv t, iv c, iv u, iv o] 46)).alloc (.cells #[iv 0, iv 0, iv 0, iv 0] 42) = W0 at qb rb hbl ⊢
 have lw : w.heap.size < W0.heap.size := (blt qb.out)
 have lv : w.heap.size + 1 < W0.heap.size := (blt rb.out)
 refine (HF.out _ hbl.out).mono ?_
 rintro e W1 ⟨rfl, b⟩
 have hbl1 : Hid (Below w.heap.size w W1) := Below.trans hbl.out (b.mono hbl.out.size)
 have rb1 : Hid _ := (b.block (w.heap.size + 1) lv).trans rb.out
 have lv1 : w.heap.size + 1 < W1.heap.size := Nat.lt_of_lt_of_le lv b.size
 have lw1 : w.heap.size < W1.heap.size := by omega
 clear b qb rb hbl lw lv HF
 obtain ⟨s0, s1, s2, s3⟩ := four_cells rb1.out
 have f0 := row_free rb1.out 0
 have f1 := row_free rb1.out 1
 have f2 := row_free rb1.out 2
 have f3 := row_free rb1.out 3
 go_wp2
 refine bodyPost_ret (v := .agg #[iv 9, iv 0, iv 0, iv 0]) (by simp [results, Tryz.results134, go_sem, s0, s1, s2, s3, lv1]) rfl ⟨rfl, ?_⟩
 exact belowS1 hbl1.out (by omega) (by omega)
theorem cancel_gone (x : Nat) (k t c u o num cust units cents up st : Int) (w : World) (q3 : (st != 13) = true) (q4 : (st != 12) = true)
 (HF : Hid (∀ W, Below w.heap.size w W → Calls Tryz.prog 99 #[pt x 0, .agg #[iv k, iv t, iv c, iv u, iv o]] W fun e w' => e = .returned (.tuple #[.agg #[iv num, iv cust, iv units, iv st, iv cents, iv up], .bool true]) ∧ Below W.heap.size W w')) :
 Calls Tryz.prog 134 #[pt x 0, .agg #[iv k, iv t, iv c, iv u, iv o]] w fun e w' => e = .returned (.agg #[iv 9, iv 0, iv 0, iv 0]) ∧ Below w.heap.size w w' := by
 go_enter Tryz.func134, Tryz.ntmps134
 have qb : Hid (((w.alloc (.cells #[iv k, iv t, iv c, iv u, iv o] 46)).alloc (.cells #[iv 0, iv 0, iv 0, iv 0] 42)).heap[w.heap.size]? = some (.cells #[iv k, iv t, iv c, iv u, iv o] 46 (0, 0))) := (Below.heap_alloc _ _ _ (by simp)).trans (heap_alloc_new w _)
 have rb : Hid (((w.alloc (.cells #[iv k, iv t, iv c, iv u, iv o] 46)).alloc (.cells #[iv 0, iv 0, iv 0, iv 0] 42)).heap[w.heap.size + 1]? = some (.cells #[iv 0, iv 0, iv 0, iv 0] 42 (0, 0))) := by
  have h := heap_alloc_new (w.alloc (.cells #[iv k, iv t, iv c, iv u, iv o] 46)) (.cells #[iv 0, iv 0, iv 0, iv 0] 42)
  rwa [show (w.alloc (.cells #[iv k, iv t, iv c, iv u, iv o] 46)).heap.size = w.heap.size + 1 by simp] at h
 have hbl : Hid (Below w.heap.size w ((w.alloc (.cells #[iv k, iv t, iv c, iv u, iv o] 46)).alloc (.cells #[iv 0, iv 0, iv 0, iv 0] 42))) := ((Below.refl _ _).alloc (Nat.le_refl _) _).alloc (by simp) _
 go_wp2_with fail
 generalize (w.alloc (.cells #[iv k, iv t, iv c, iv u, iv o] 46)).alloc (.cells #[iv 0, iv 0, iv 0, iv 0] 42) = W0 at qb rb hbl ⊢
 have lw : w.heap.size < W0.heap.size := (blt qb.out)
 have lv : w.heap.size + 1 < W0.heap.size := (blt rb.out)
 refine (HF.out _ hbl.out).mono ?_
 rintro e W1 ⟨rfl, b⟩
 have hbl1 : Hid (Below w.heap.size w W1) := Below.trans hbl.out (b.mono hbl.out.size)
 have rb1 : Hid _ := (b.block (w.heap.size + 1) lv).trans rb.out
 have lv1 : w.heap.size + 1 < W1.heap.size := Nat.lt_of_lt_of_le lv b.size
 have lw1 : w.heap.size < W1.heap.size := by omega
 clear b qb rb hbl lw lv HF
 obtain ⟨s0, s1, s2, s3⟩ := four_cells rb1.out
 have f0 := row_free rb1.out 0
 have f1 := row_free rb1.out 1
 have f2 := row_free rb1.out 2
 have f3 := row_free rb1.out 3
 go_wp2
 refine bodyPost_ret (v := .agg #[iv 9, iv 0, iv 0, iv 0]) (by simp [results, Tryz.results134, go_sem, s0, s1, s2, s3, lv1]) rfl ⟨rfl, ?_⟩
 exact belowS1 hbl1.out (by omega) (by omega)
theorem confirm_yes (x : Nat) (own : Nat → Prop) (P0 P1 P2 P3 : World → (Nat → Prop) → Prop) (K0 : Keeps P0) (K3 : Keeps P3) (k t c u o num cust units cents up up1 m : Int) (w : World) (hm : IntKind.i64.wrap (units * cents) = m) (hw : ∀ k, own k → k < w.heap.size) (h : P0 w own)
 (HF : Hid (doesL w own P0 P0 99 #[pt x 0, .agg #[iv k, iv t, iv c, iv u, iv o]] (.tuple #[.agg #[iv num, iv cust, iv units, iv 13, iv cents, iv up], .bool true])))
 (H0 : Hid (doesL w own P0 P1 157 #[pt x 0, .agg #[iv num, iv cust, iv units, iv 13, iv cents, iv up], iv 14] (.agg #[iv num, iv cust, iv units, iv 14, iv cents, iv up1])))
 (H1 : Hid (doesL w own P1 P2 158 #[pt x 0] (.tuple #[])))
 (H2 : Hid (doesL w own P2 P3 137 #[pt x 0] (.tuple #[]))) :
 Calls Tryz.prog 133 #[pt x 0, .agg #[iv k, iv t, iv c, iv u, iv o]] w fun e w' => e = .returned (.agg #[iv 7, iv num, iv m, iv 0]) ∧ ansP P3 w w' own := by
 replace hw : Hid _ := hw
 go_enter Tryz.func133, Tryz.ntmps133
 have hT0 : Hid (seenL P0 w own (fun j => j = w.heap.size ∨ j = w.heap.size + 1) ((w.alloc (.cells #[iv k, iv t, iv c, iv u, iv o] 46)).alloc (.cells #[iv 0, iv 0, iv 0, iv 0] 42))) := seenL_start K0 h (((Below.refl _ _).alloc (Nat.le_refl _) _).alloc (by simp) _) (fun j e => by rcases e with e | e <;> (subst e; simp; try omega))
 have rb0 : Hid (((w.alloc (.cells #[iv k, iv t, iv c, iv u, iv o] 46)).alloc (.cells #[iv 0, iv 0, iv 0, iv 0] 42)).heap[w.heap.size + 1]? = some (.cells #[iv 0, iv 0, iv 0, iv 0] 42 (0, 0))) := by
  have h := heap_alloc_new (w.alloc (.cells #[iv k, iv t, iv c, iv u, iv o] 46)) (.cells #[iv 0, iv 0, iv 0, iv 0] 42)
  rwa [show (w.alloc (.cells #[iv k, iv t, iv c, iv u, iv o] 46)).heap.size = w.heap.size + 1 by simp] at h
 clear h
 go_wp2_with fail
 generalize (w.alloc (.cells #[iv k, iv t, iv c, iv u, iv o] 46)).alloc (.cells #[iv 0, iv 0, iv 0, iv 0] 42) = W0 at hT0 rb0 ⊢
 refine (HF.out _ _ hT0.out).mono ?_
 rintro e W1 ⟨rfl, hT1, hk⟩
 have rb1 : Hid (W1.heap[w.heap.size + 1]? = some (.cells #[iv 0, iv 0, iv 0, iv 0] 42 (0, 0))) := (hk _ (.inr rfl)).trans rb0.out
 have lv1 : w.heap.size + 1 < W1.heap.size := (blt rb1.out)
 have hT2 : Hid (seenL P0 w own (fun j => (j = w.heap.size ∨ j = w.heap.size + 1) ∨ j = W1.heap.size) (W1.alloc (.cells #[iv num, iv cust, iv units, iv 13, iv cents, iv up] 184))) := seenL_alloc K0 hT1 _
 have ob2 : Hid ((W1.alloc (.cells #[iv num, iv cust, iv units, iv 13, iv cents, iv up] 184)).heap[W1.heap.size]? = some (.cells #[iv num, iv cust, iv units, iv 13, iv cents, iv up] 184 (0, 0))) := heap_alloc_new W1 _
 have rb2 : Hid ((W1.alloc (.cells #[iv num, iv cust, iv units, iv 13, iv cents, iv up] 184)).heap[w.heap.size + 1]? = some (.cells #[iv 0, iv 0, iv 0, iv 0] 42 (0, 0))) := (Below.heap_alloc _ _ _ lv1).trans rb1.out
 clear hk hT0 hT1 rb0 rb1 lv1
 go_wp2_with fail
 refine (H0.out _ _ hT2.out).mono ?_
 rintro e W2 ⟨rfl, hT3, hk⟩
 have ob3 : Hid (W2.heap[W1.heap.size]? = some (.cells #[iv num, iv cust, iv units, iv 13, iv cents, iv up] 184 (0, 0))) := (hk _ (.inr rfl)).trans ob2.out
 have rb3 : Hid (W2.heap[w.heap.size + 1]? = some (.cells #[iv 0, iv 0, iv 0, iv 0] 42 (0, 0))) := (hk _ (.inl (.inr rfl))).trans rb2.out
 clear hk hT2 ob2 rb2
 go_wp2_with fail
 refine (H1.out _ _ hT3).mono ?_
 rintro e W3 ⟨rfl, hT4, hk⟩
 have ob4 : Hid (W3.heap[W1.heap.size]? = some (.cells #[iv num, iv cust, iv units, iv 13, iv cents, iv up] 184 (0, 0))) := (hk _ (.inr rfl)).trans ob3.out
 have rb4 : Hid (W3.heap[w.heap.size + 1]? = some (.cells #[iv 0, iv 0, iv 0, iv 0] 42 (0, 0))) := (hk _ (.inl (.inr rfl))).trans rb3.out
 clear hk hT3 ob3 rb3
 go_wp2_with fail
 refine (H2.out _ _ hT4).mono ?_
 rintro e W4 ⟨rfl, hT5, hk⟩
 have ob5 : Hid (W4.heap[W1.heap.size]? = some (.cells #[iv num, iv cust, iv units, iv 13, iv cents, iv up] 184 (0, 0))) := (hk _ (.inr rfl)).trans ob4.out
 have rb5 : Hid (W4.heap[w.heap.size + 1]? = some (.cells #[iv 0, iv 0, iv 0, iv 0] 42 (0, 0))) := (hk _ (.inl (.inr rfl))).trans rb4.out
 clear hk hT4 ob4 rb4
 have HE : Hid (∀ v0 v1 v2 v3, ansP P3 w ((((W4.setCell (aq (w.heap.size + 1) 0) v0).setCell (aq (w.heap.size + 1) 1) v1).setCell (aq (w.heap.size + 1) 2) v2).setCell (aq (w.heap.size + 1) 3) v3) own) := fun v0 v1 v2 v3 => seenL_end (seenL_set4 K3 hT5 hw.out (.inl (.inr rfl)) v0 v1 v2 v3)
 obtain ⟨r0, r1, r2, r3⟩ := four_cells rb5.out
 obtain ⟨s0, s1, s2, s3, s4, s5⟩ := six_cells ob5.out
 have g0 := row_free rb5.out 0
 have g1 := row_free rb5.out 1
 have g2 := row_free rb5.out 2
 have g3 := row_free rb5.out 3
 have lv : w.heap.size + 1 < W4.heap.size := (blt rb5.out)
 have lo : W1.heap.size < W4.heap.size := (blt ob5.out)
 clear hT5
 go_wp2
 refine bodyPost_ret (v := .agg #[iv 7, iv num, iv m, iv 0]) (by simp [results, Tryz.results133, go_sem, r0, r1, r2, r3]) rfl ⟨rfl, ?_⟩
 exact HE.out _ _ _ _
theorem cancel_held (x : Nat) (own : Nat → Prop) (P0 P1 P2 : World → (Nat → Prop) → Prop) (K0 : Keeps P0) (K2 : Keeps P2) (k t c u o num cust units cents up up1 : Int) (w : World) (hw : ∀ k, own k → k < w.heap.size) (h : P0 w own)
 (HF : Hid (doesL w own P0 P0 99 #[pt x 0, .agg #[iv k, iv t, iv c, iv u, iv o]] (.tuple #[.agg #[iv num, iv cust, iv units, iv 13, iv cents, iv up], .bool true])))
 (H0 : Hid (doesL w own P0 P1 157 #[pt x 0, .agg #[iv num, iv cust, iv units, iv 13, iv cents, iv up], iv 16] (.agg #[iv num, iv cust, iv units, iv 16, iv cents, iv up1])))
 (H1 : Hid (doesL w own P1 P2 137 #[pt x 0] (.tuple #[]))) :
 Calls Tryz.prog 134 #[pt x 0, .agg #[iv k, iv t, iv c, iv u, iv o]] w fun e w' => e = .returned (.agg #[iv 8, iv num, iv 0, iv 0]) ∧ ansP P2 w w' own := by
 replace hw : Hid _ := hw
 go_enter Tryz.func134, Tryz.ntmps134
 have hT0 : Hid (seenL P0 w own (fun j => j = w.heap.size ∨ j = w.heap.size + 1) ((w.alloc (.cells #[iv k, iv t, iv c, iv u, iv o] 46)).alloc (.cells #[iv 0, iv 0, iv 0, iv 0] 42))) := seenL_start K0 h (((Below.refl _ _).alloc (Nat.le_refl _) _).alloc (by simp) _) (fun j e => by rcases e with e | e <;> (subst e; simp; try omega))
 have rb0 : Hid (((w.alloc (.cells #[iv k, iv t, iv c, iv u, iv o] 46)).alloc (.cells #[iv 0, iv 0, iv 0, iv 0] 42)).heap[w.heap.size + 1]? = some (.cells #[iv 0, iv 0, iv 0, iv 0] 42 (0, 0))) := by
  have h := heap_alloc_new (w.alloc (.cells #[iv k, iv t, iv c, iv u, iv o] 46)) (.cells #[iv 0, iv 0, iv 0, iv 0] 42)
  rwa [show (w.alloc (.cells #[iv k, iv t, iv c, iv u, iv o] 46)).heap.size = w.heap.size + 1 by simp] at h
 clear h
 go_wp2_with fail
 generalize (w.alloc (.cells #[iv k, iv t, iv c, iv u, iv o] 46)).alloc (.cells #[iv 0, iv 0, iv 0, iv 0] 42) = W0 at hT0 rb0 ⊢
 refine (HF.out _ _ hT0.out).mono ?_
 rintro e W1 ⟨rfl, hT1, hk⟩
 have rb1 : Hid (W1.heap[w.heap.size + 1]? = some (.cells #[iv 0, iv 0, iv 0, iv 0] 42 (0, 0))) := (hk _ (.inr rfl)).trans rb0.out
 have lv1 : w.heap.size + 1 < W1.heap.size := (blt rb1.out)
 have hT2 : Hid (seenL P0 w own (fun j => (j = w.heap.size ∨ j = w.heap.size + 1) ∨ j = W1.heap.size) (W1.alloc (.cells #[iv num, iv cust, iv units, iv 13, iv cents, iv up] 184))) := seenL_alloc K0 hT1 _
 have ob2 : Hid ((W1.alloc (.cells #[iv num, iv cust, iv units, iv 13, iv cents, iv up] 184)).heap[W1.heap.size]? = some (.cells #[iv num, iv cust, iv units, iv 13, iv cents, iv up] 184 (0, 0))) := heap_alloc_new W1 _
 have rb2 : Hid ((W1.alloc (.cells #[iv num, iv cust, iv units, iv 13, iv cents, iv up] 184)).heap[w.heap.size + 1]? = some (.cells #[iv 0, iv 0, iv 0, iv 0] 42 (0, 0))) := (Below.heap_alloc _ _ _ lv1).trans rb1.out
 clear hk hT0 hT1 rb0 rb1 lv1
 go_wp2_with fail
 refine (H0.out _ _ hT2.out).mono ?_
 rintro e W2 ⟨rfl, hT3, hk⟩
 have ob3 : Hid (W2.heap[W1.heap.size]? = some (.cells #[iv num, iv cust, iv units, iv 13, iv cents, iv up] 184 (0, 0))) := (hk _ (.inr rfl)).trans ob2.out
 have rb3 : Hid (W2.heap[w.heap.size + 1]? = some (.cells #[iv 0, iv 0, iv 0, iv 0] 42 (0, 0))) := (hk _ (.inl (.inr rfl))).trans rb2.out
 clear hk hT2 ob2 rb2
 go_wp2_with fail
 refine (H1.out _ _ hT3).mono ?_
 rintro e W3 ⟨rfl, hT4, hk⟩
 have ob4 : Hid (W3.heap[W1.heap.size]? = some (.cells #[iv num, iv cust, iv units, iv 13, iv cents, iv up] 184 (0, 0))) := (hk _ (.inr rfl)).trans ob3.out
 have rb4 : Hid (W3.heap[w.heap.size + 1]? = some (.cells #[iv 0, iv 0, iv 0, iv 0] 42 (0, 0))) := (hk _ (.inl (.inr rfl))).trans rb3.out
 clear hk hT3 ob3 rb3
 have HE : Hid (∀ v0 v1 v2 v3, ansP P2 w ((((W3.setCell (aq (w.heap.size + 1) 0) v0).setCell (aq (w.heap.size + 1) 1) v1).setCell (aq (w.heap.size + 1) 2) v2).setCell (aq (w.heap.size + 1) 3) v3) own) := fun v0 v1 v2 v3 => seenL_end (seenL_set4 K2 hT4 hw.out (.inl (.inr rfl)) v0 v1 v2 v3)
 obtain ⟨r0, r1, r2, r3⟩ := four_cells rb4.out
 obtain ⟨s0, s1, s2, s3, s4, s5⟩ := six_cells ob4.out
 have g0 := row_free rb4.out 0
 have g1 := row_free rb4.out 1
 have g2 := row_free rb4.out 2
 have g3 := row_free rb4.out 3
 have lv : w.heap.size + 1 < W3.heap.size := (blt rb4.out)
 have lo : W1.heap.size < W3.heap.size := (blt ob4.out)
 clear hT4
 go_wp2
 refine bodyPost_ret (v := .agg #[iv 8, iv num, iv 0, iv 0]) (by simp [results, Tryz.results134, go_sem, r0, r1, r2, r3]) rfl ⟨rfl, ?_⟩
 exact HE.out _ _ _ _
theorem cancel_wait (x : Nat) (own : Nat → Prop) (P0 P1 P2 : World → (Nat → Prop) → Prop) (K0 : Keeps P0) (K2 : Keeps P2) (k t c u o num cust units cents up up1 : Int) (w : World) (hw : ∀ k, own k → k < w.heap.size) (h : P0 w own)
 (HF : Hid (doesL w own P0 P0 99 #[pt x 0, .agg #[iv k, iv t, iv c, iv u, iv o]] (.tuple #[.agg #[iv num, iv cust, iv units, iv 12, iv cents, iv up], .bool true])))
 (H0 : Hid (doesL w own P0 P1 157 #[pt x 0, .agg #[iv num, iv cust, iv units, iv 12, iv cents, iv up], iv 16] (.agg #[iv num, iv cust, iv units, iv 16, iv cents, iv up1])))
 (H1 : Hid (doesL w own P1 P2 137 #[pt x 0] (.tuple #[]))) :
 Calls Tryz.prog 134 #[pt x 0, .agg #[iv k, iv t, iv c, iv u, iv o]] w fun e w' => e = .returned (.agg #[iv 8, iv num, iv 0, iv 0]) ∧ ansP P2 w w' own := by
 replace hw : Hid _ := hw
 go_enter Tryz.func134, Tryz.ntmps134
 have hT0 : Hid (seenL P0 w own (fun j => j = w.heap.size ∨ j = w.heap.size + 1) ((w.alloc (.cells #[iv k, iv t, iv c, iv u, iv o] 46)).alloc (.cells #[iv 0, iv 0, iv 0, iv 0] 42))) := seenL_start K0 h (((Below.refl _ _).alloc (Nat.le_refl _) _).alloc (by simp) _) (fun j e => by rcases e with e | e <;> (subst e; simp; try omega))
 have rb0 : Hid (((w.alloc (.cells #[iv k, iv t, iv c, iv u, iv o] 46)).alloc (.cells #[iv 0, iv 0, iv 0, iv 0] 42)).heap[w.heap.size + 1]? = some (.cells #[iv 0, iv 0, iv 0, iv 0] 42 (0, 0))) := by
  have h := heap_alloc_new (w.alloc (.cells #[iv k, iv t, iv c, iv u, iv o] 46)) (.cells #[iv 0, iv 0, iv 0, iv 0] 42)
  rwa [show (w.alloc (.cells #[iv k, iv t, iv c, iv u, iv o] 46)).heap.size = w.heap.size + 1 by simp] at h
 clear h
 go_wp2_with fail
 generalize (w.alloc (.cells #[iv k, iv t, iv c, iv u, iv o] 46)).alloc (.cells #[iv 0, iv 0, iv 0, iv 0] 42) = W0 at hT0 rb0 ⊢
 refine (HF.out _ _ hT0.out).mono ?_
 rintro e W1 ⟨rfl, hT1, hk⟩
 have rb1 : Hid (W1.heap[w.heap.size + 1]? = some (.cells #[iv 0, iv 0, iv 0, iv 0] 42 (0, 0))) := (hk _ (.inr rfl)).trans rb0.out
 have lv1 : w.heap.size + 1 < W1.heap.size := (blt rb1.out)
 have hT2 : Hid (seenL P0 w own (fun j => (j = w.heap.size ∨ j = w.heap.size + 1) ∨ j = W1.heap.size) (W1.alloc (.cells #[iv num, iv cust, iv units, iv 12, iv cents, iv up] 184))) := seenL_alloc K0 hT1 _
 have ob2 : Hid ((W1.alloc (.cells #[iv num, iv cust, iv units, iv 12, iv cents, iv up] 184)).heap[W1.heap.size]? = some (.cells #[iv num, iv cust, iv units, iv 12, iv cents, iv up] 184 (0, 0))) := heap_alloc_new W1 _
 have rb2 : Hid ((W1.alloc (.cells #[iv num, iv cust, iv units, iv 12, iv cents, iv up] 184)).heap[w.heap.size + 1]? = some (.cells #[iv 0, iv 0, iv 0, iv 0] 42 (0, 0))) := (Below.heap_alloc _ _ _ lv1).trans rb1.out
 clear hk hT0 hT1 rb0 rb1 lv1
 go_wp2_with fail
 refine (H0.out _ _ hT2.out).mono ?_
 rintro e W2 ⟨rfl, hT3, hk⟩
 have ob3 : Hid (W2.heap[W1.heap.size]? = some (.cells #[iv num, iv cust, iv units, iv 12, iv cents, iv up] 184 (0, 0))) := (hk _ (.inr rfl)).trans ob2.out
 have rb3 : Hid (W2.heap[w.heap.size + 1]? = some (.cells #[iv 0, iv 0, iv 0, iv 0] 42 (0, 0))) := (hk _ (.inl (.inr rfl))).trans rb2.out
 clear hk hT2 ob2 rb2
 go_wp2_with fail
 refine (H1.out _ _ hT3).mono ?_
 rintro e W3 ⟨rfl, hT4, hk⟩
 have ob4 : Hid (W3.heap[W1.heap.size]? = some (.cells #[iv num, iv cust, iv units, iv 12, iv cents, iv up] 184 (0, 0))) := (hk _ (.inr rfl)).trans ob3.out
 have rb4 : Hid (W3.heap[w.heap.size + 1]? = some (.cells #[iv 0, iv 0, iv 0, iv 0] 42 (0, 0))) := (hk _ (.inl (.inr rfl))).trans rb3.out
 clear hk hT3 ob3 rb3
 have HE : Hid (∀ v0 v1 v2 v3, ansP P2 w ((((W3.setCell (aq (w.heap.size + 1) 0) v0).setCell (aq (w.heap.size + 1) 1) v1).setCell (aq (w.heap.size + 1) 2) v2).setCell (aq (w.heap.size + 1) 3) v3) own) := fun v0 v1 v2 v3 => seenL_end (seenL_set4 K2 hT4 hw.out (.inl (.inr rfl)) v0 v1 v2 v3)
 obtain ⟨r0, r1, r2, r3⟩ := four_cells rb4.out
 obtain ⟨s0, s1, s2, s3, s4, s5⟩ := six_cells ob4.out
 have g0 := row_free rb4.out 0
 have g1 := row_free rb4.out 1
 have g2 := row_free rb4.out 2
 have g3 := row_free rb4.out 3
 have lv : w.heap.size + 1 < W3.heap.size := (blt rb4.out)
 have lo : W1.heap.size < W3.heap.size := (blt ob4.out)
 clear hT4
 go_wp2
 refine bodyPost_ret (v := .agg #[iv 8, iv num, iv 0, iv 0]) (by simp [results, Tryz.results134, go_sem, r0, r1, r2, r3]) rfl ⟨rfl, ?_⟩
 exact HE.out _ _ _ _
section
section
variable {w : World} {x : Nat} {own : Nat → Prop} {S : Sal} {last : Nat} {an : Int}
theorem psx_below {W : World} (h : psx an x S last w own) (hW : Below w.heap.size w W) : psx an x S last W own := (keepX an x S last).keep h hW.size (fun k e => hW.block k ((keepX an x S last).lt h k e))
theorem findS_some {os : List Ord} {c o : Int} {i : Nat} (ho : 1 ≤ o) (h : findS os c o = some i) : i < os.length ∧ (os.getD i ord0).cust = c ∧ o = (i : Int) + 1 := by
 unfold findS at h
 split at h
 ·next hc =>
  simp only [Option.some.injEq] at h
  subst h
  exact ⟨by omega, hc.2, by omega⟩
 ·cases h
theorem findS_none {os : List Ord} {c : Int} {i : Nat} (hi : i < os.length) (h : findS os c ((i : Int) + 1) = none) : (os.getD i ord0).cust ≠ c := by
 intro e
 unfold findS at h
 rw [if_pos] at h
 ·cases h
 ·refine ⟨by omega, ?_⟩
  rw [show ((i : Int) + 1 - 1).toNat = i by omega]
  exact e
theorem find_s (r : Req) (ho : 1 ≤ r.order) :
 (∃ i, findS S.os r.cust r.order = some i ∧ S.knows i ∧ r.order = (i : Int) + 1 ∧ ∀ W o, psx an x S last W o → Calls Tryz.prog 99 #[pt x 0, r.val] W fun e w' => e = .returned (.tuple #[(pordOf S.C i (S.os.getD i ord0)).val, .bool true]) ∧ Below W.heap.size W w') ∨
 ((∀ i, findS S.os r.cust r.order = some i → ¬ S.knows i) ∧ ∀ W o, psx an x S last W o → Calls Tryz.prog 99 #[pt x 0, r.val] W fun e w' => e = .returned (.tuple #[pord0.val, .bool false]) ∧ Below W.heap.size W w') := by
 by_cases hk : ∃ i, S.knows i ∧ r.order = (i : Int) + 1
 ·obtain ⟨i, hi, he⟩ := hk
  cases hf : findS S.os r.cust r.order with
  | some j =>
    obtain ⟨_, h2, h3⟩ := findS_some ho hf
    have e : j = i := by omega
    subst e
    refine .inl ⟨j, rfl, hi, he, fun W o hp => ?_⟩
    have e : (pordOf S.C j (S.os.getD j ord0)).val = .agg #[iv ((j : Int) + 1), iv r.cust, iv (S.os.getD j ord0).units, iv (S.os.getD j ord0).state, iv (S.os.getD j ord0).cents, iv ((S.os.getD j ord0).untl S.C)] := by rw [← h2]; rfl
    rw [e]
    refine find_yes x r.kind r.token r.cust r.units r.order _ _ _ _ _ W (fun W' hW' => ?_)
    have := get_s (psx_below hp hW') hi
    rw [e] at this
    rw [he]
    exact this
  | none =>
    refine .inr ⟨fun i e => (by cases e), fun W o hp => ?_⟩
    refine find_other x r.kind r.token r.cust r.units r.order ((i : Int) + 1) (S.os.getD i ord0).cust (S.os.getD i ord0).units (S.os.getD i ord0).state (S.os.getD i ord0).cents ((S.os.getD i ord0).untl S.C) W (findS_none hi.1 (he ▸ hf)) (fun W' hW' => ?_)
    have := get_s (psx_below hp hW') hi
    rw [he]
    exact this
 ·refine .inr ⟨fun i e c => hk ⟨i, c, (findS_some ho e).2.2⟩, fun W o hp => ?_⟩
  exact find_no x r.kind r.token r.cust r.units r.order W (fun W' hW' => get_none_s (psx_below hp hW') (fun i hi e => hk ⟨i, hi, e⟩))
theorem poll_s (h : psx an x S last w own) (hK : saleK S) (r : Req) (ho : 1 ≤ r.order) :
 Calls Tryz.prog 63 #[pt x 0, r.val] w fun e w' => e = .returned (S.poll r).val ∧ Below w.heap.size w w' := by
 rcases find_s (x := x) (last := last) (S := S) (an := an) r ho with ⟨i, hf, hi, he, H⟩ | ⟨hn, H⟩
 ·have H' : ∀ W, Below w.heap.size w W → Calls Tryz.prog 99 #[pt x 0, r.val] W fun e w' => e = .returned (.tuple #[(pordOf S.C i (S.os.getD i ord0)).val, .bool true]) ∧ Below W.heap.size W w' := fun W hW => H W own (psx_below h hW)
  have hu := hK.I.units _ (ord_mem hi.1)
  have hc := (hK.I.ords _ (ord_mem hi.1)).1
  have hp : S.poll r = if (S.os.getD i ord0).state = 12 then ⟨12, r.order, 0, (S.os.getD i ord0).upto⟩
   else if (S.os.getD i ord0).state = 13 then ⟨13, r.order, (S.os.getD i ord0).cents, (S.os.getD i ord0).upto⟩
   else if S.C.keep ≤ S.now - (S.os.getD i ord0).ended then { rep0 with kind := 19 }
   else if (S.os.getD i ord0).state = 14 then ⟨14, r.order, (S.os.getD i ord0).units * (S.os.getD i ord0).cents, 0⟩
   else ⟨(S.os.getD i ord0).state, r.order, 0, 0⟩ := by unfold Sal.poll; rw [hf]
  rw [hp, he]
  unfold pordOf at H'
  by_cases h12 : (S.os.getD i ord0).state = 12
  ·rw [if_pos h12]
   rw [h12, untl_alive (.inl h12)] at H'
   exact poll_wait x r.kind r.token r.cust r.units r.order _ _ _ _ _ w H'
  ·rw [if_neg h12]
   by_cases h13 : (S.os.getD i ord0).state = 13
   ·rw [if_pos h13]
    rw [h13, untl_alive (.inr h13)] at H'
    exact poll_held x r.kind r.token r.cust r.units r.order _ _ _ _ _ w H'
   ·have hna : ¬ (S.os.getD i ord0).alive := fun c => c.elim h12 h13
    have hlt := hi.2.resolve_left hna
    rw [untl_ended hna] at hlt
    rw [if_neg h13, if_neg (by omega)]
    by_cases h14 : (S.os.getD i ord0).state = 14
    ·rw [if_pos h14]
     rw [h14] at H'
     have hm0 : 0 ≤ (S.os.getD i ord0).units * (S.os.getD i ord0).cents := Int.mul_nonneg (by omega) hc.1
     have hm1 : (S.os.getD i ord0).units * (S.os.getD i ord0).cents ≤ 4294967296 * 1073741824 := Int.mul_le_mul hu.2 hc.2 hc.1 (by omega)
     exact poll_sold x r.kind r.token r.cust r.units r.order _ _ _ _ _ _ w (wrap_in (by omega) (by omega)) H'
    ·rw [if_neg h14]
     exact poll_ended x r.kind r.token r.cust r.units r.order _ _ _ _ _ _ w (by simpa using h12) (by simpa using h13) (by simpa using h14) H'
 ·have hp : S.poll r = { rep0 with kind := 19 } := by
   unfold Sal.poll
   cases hf : findS S.os r.cust r.order with
   | none => rfl
   | some i =>
     have hk := hn i hf
     obtain ⟨h1, _, _⟩ := findS_some ho hf
     have hna : ¬ (S.os.getD i ord0).alive := fun c => hk ⟨h1, .inl c⟩
     have hlt : ¬ S.now < (S.os.getD i ord0).untl S.C := fun c => hk ⟨h1, .inr c⟩
     rw [untl_ended hna] at hlt
     simp only
     rw [if_neg (fun c => hna (.inl c)), if_neg (fun c => hna (.inr c)), if_pos (by omega)]
  rw [hp]
  exact poll_none x r.kind r.token r.cust r.units r.order w (fun W hW => H W own (psx_below h hW))
theorem promoteN_far {k : Nat} : ∀ (n : Nat) (S : Sal), (S.os.getD k ord0).state ≠ 12 → (promoteN n S).os.getD k ord0 = S.os.getD k ord0
 | 0, _, _ => rfl
 | n + 1, S, h => by
   unfold promoteN
   split
   ·rfl
   ·next q qs hq =>
    split
    ·rfl
    ·obtain ⟨_, hl, hs⟩ := queue_tail hq ord0 (by decide)
     have hne : k ≠ q := fun e => h (e ▸ hs)
     have hg : (S.holds q).os.getD k ord0 = S.os.getD k ord0 := by
      show (S.os.set q _).getD k ord0 = _
      rw [getD_set _ hl, if_neg hne]
     rw [promoteN_far n _ (by rw [hg]; exact h), hg]
theorem promote_far {k : Nat} (S : Sal) (h : (S.os.getD k ord0).state ≠ 12) : S.promote.os.getD k ord0 = S.os.getD k ord0 := promoteN_far _ S h
theorem drained_far {k : Nat} (S : Sal) (h : (S.os.getD k ord0).state ≠ 12) : S.drained.os.getD k ord0 = S.os.getD k ord0 := by
 show (S.os.map (dry S.left S.now)).getD k ord0 = _
 by_cases hk : k < S.os.length
 ·have e1 : S.os[k]? = some (S.os.getD k ord0) := by simp [List.getD, List.getElem?_eq_getElem hk]
  have e2 : (S.os.map (dry S.left S.now)).getD k ord0 = dry S.left S.now (S.os.getD k ord0) := by
   simp only [List.getD, List.getElem?_map]
   rw [show S.os[k]? = some (S.os[k]?.getD ord0) from e1]
   rfl
  rw [e2]
  unfold dry
  rw [if_neg (fun c => h c.1)]
 ·simp [List.getD, List.getElem?_eq_none (Nat.le_of_not_lt hk)]
theorem saleK.drained {S : Sal} (h : saleK S) : saleK S.drained := by
 have := drain_inv (n := S.os.length) (queueS S.os) S h.I rfl (fun q hq => (queueT_lt S.os _ q hq))
 rw [drainS_queue] at this
 exact ⟨this.1, by rw [this.2]; exact h.len, h.lease, h.wait, h.keep⟩
theorem saleK.promote {S : Sal} (h : saleK S) : saleK S.promote := by
 obtain ⟨a, _, _⟩ := promote_keep S
 exact ⟨promote_inv S h.I, by rw [promote_len]; exact h.len, by rw [a]; exact h.lease, by rw [a]; exact h.wait, by rw [a]; exact h.keep⟩
theorem confirm_s (h : psx an x S last w own) (hK : saleK S) (r : Req) (ho : 1 ≤ r.order) :
 Calls Tryz.prog 133 #[pt x 0, r.val] w fun e w' => e = .returned (S.confirm r).1.val ∧ ansP (psx an x (S.confirm r).2 last) w w' own := by
 have K := keepX an x S last
 have hw := K.lt h
 have stay : S.confirm r = (⟨9, 0, 0, 0⟩, S) → ∀ (e : Ending) (w' : World), e = .returned (.agg #[iv 9, iv 0, iv 0, iv 0]) ∧ Below w.heap.size w w' → e = .returned (S.confirm r).1.val ∧ ansP (psx an x (S.confirm r).2 last) w w' own := by
  rintro hc e w' ⟨rfl, hb⟩
  rw [hc]
  exact ⟨rfl, ansP_below K h hb⟩
 rcases find_s (x := x) (last := last) (S := S) (an := an) r ho with ⟨i, hf, hi, he, H⟩ | ⟨hn, H⟩
 ·by_cases h13 : (S.os.getD i ord0).state = 13
  ·have hu := hK.I.units _ (ord_mem hi.1)
   have hc := (hK.I.ords _ (ord_mem hi.1)).1
   have hm0 : 0 ≤ (S.os.getD i ord0).units * (S.os.getD i ord0).cents := Int.mul_nonneg (by omega) hc.1
   have hm1 : (S.os.getD i ord0).units * (S.os.getD i ord0).cents ≤ 4294967296 * 1073741824 := Int.mul_le_mul hu.2 hc.2 hc.1 (by omega)
   have K1 := hK.ends hi.1 14 (.inl rfl) (fun _ => h13)
   have hend : ((S.ends i 14).drained.promote.os.getD i ord0) = { S.os.getD i ord0 with state := 14, ended := S.now } := by
    have e1 : (S.ends i 14).os.getD i ord0 = { S.os.getD i ord0 with state := 14, ended := S.now } := by
     show (S.os.set i _).getD i ord0 = _
     rw [getD_set _ hi.1, if_pos rfl]
    have e2 := drained_far (k := i) (S.ends i 14) (by rw [e1]; exact (show (14 : Int) ≠ 12 by decide))
    rw [promote_far _ (by rw [e2, e1]; exact (show (14 : Int) ≠ 12 by decide)), e2, e1]
   have hcf : S.confirm r = (⟨7, (i : Int) + 1, (S.os.getD i ord0).units * (S.os.getD i ord0).cents, 0⟩, (S.ends i 14).drained.promote) := by
    unfold Sal.confirm
    rw [hf]
    simp only
    rw [if_neg (fun c => c h13), drainS_queue, hend, he]
   rw [hcf]
   have ep : pordOf S.C i (S.os.getD i ord0) = ⟨(i : Int) + 1, (S.os.getD i ord0).cust, (S.os.getD i ord0).units, 13, (S.os.getD i ord0).cents, (S.os.getD i ord0).untl S.C⟩ := by rw [← h13]; rfl
   refine confirm_yes x own (psx an x S last) (psx an x (S.ends i 14) last) (psx an x (S.ends i 14).drained last) (psx an x (S.ends i 14).drained.promote last) K (keepX _ _ _ _) r.kind r.token r.cust r.units r.order ((i : Int) + 1) (S.os.getD i ord0).cust (S.os.getD i ord0).units (S.os.getD i ord0).cents ((S.os.getD i ord0).untl S.C) (S.now + S.C.keep) _ w (wrap_in (by omega) (by omega)) hw h (fun loc W hW => ?_) (fun loc W hW => ?_) (fun loc W hW => seenL_call hw (fun W o hp => drain_s hp K1) W hW) (fun loc W hW => seenL_call hw (fun W o hp => promote_s hp K1.drained) W hW)
   ·refine seenL_look K hw (fun W o hp => ?_) W hW
    have := H W o hp
    rw [ep] at this
    exact this
   ·refine seenL_call hw (fun W o hp => ?_) W hW
    have := ends_s hp hK hi 14 (by decide)
    rw [ep] at this
    exact this
  ·have hcf : S.confirm r = (⟨9, 0, 0, 0⟩, S) := by
    unfold Sal.confirm
    rw [hf]
    simp only
    rw [if_pos h13]
   exact (confirm_gone x r.kind r.token r.cust r.units r.order _ _ _ _ _ _ w (bne_iff_ne.2 h13) (fun W hW => H W own (psx_below h hW))).mono (stay hcf)
 ·have hcf : S.confirm r = (⟨9, 0, 0, 0⟩, S) := by
   unfold Sal.confirm
   cases hf : findS S.os r.cust r.order with
   | none => rfl
   | some i =>
     obtain ⟨h1, _, _⟩ := findS_some ho hf
     simp only
     rw [if_pos (fun c => hn i hf ⟨h1, .inl (.inr c)⟩)]
  exact (confirm_none x r.kind r.token r.cust r.units r.order w (fun W hW => H W own (psx_below h hW))).mono (stay hcf)
theorem cancel_s (h : psx an x S last w own) (hK : saleK S) (r : Req) (ho : 1 ≤ r.order) :
 Calls Tryz.prog 134 #[pt x 0, r.val] w fun e w' => e = .returned (S.cancel r).1.val ∧ ansP (psx an x (S.cancel r).2 last) w w' own := by
 have K := keepX an x S last
 have hw := K.lt h
 have stay : S.cancel r = (⟨9, 0, 0, 0⟩, S) → ∀ (e : Ending) (w' : World), e = .returned (.agg #[iv 9, iv 0, iv 0, iv 0]) ∧ Below w.heap.size w w' → e = .returned (S.cancel r).1.val ∧ ansP (psx an x (S.cancel r).2 last) w w' own := by
  rintro hc e w' ⟨rfl, hb⟩
  rw [hc]
  exact ⟨rfl, ansP_below K h hb⟩
 rcases find_s (x := x) (last := last) (S := S) (an := an) r ho with ⟨i, hf, hi, he, H⟩ | ⟨hn, H⟩
 ·by_cases hal : (S.os.getD i ord0).state ≠ 13 ∧ (S.os.getD i ord0).state ≠ 12
  ·have hcf : S.cancel r = (⟨9, 0, 0, 0⟩, S) := by
    unfold Sal.cancel
    rw [hf]
    simp only
    rw [if_pos hal]
   exact (cancel_gone x r.kind r.token r.cust r.units r.order _ _ _ _ _ _ w (bne_iff_ne.2 hal.1) (bne_iff_ne.2 hal.2) (fun W hW => H W own (psx_below h hW))).mono (stay hcf)
  ·have K1 := hK.ends hi.1 16 (.inr (by decide)) (fun c => absurd c (by decide))
   have hcf : S.cancel r = (⟨8, (i : Int) + 1, 0, 0⟩, (S.ends i 16).promote) := by
    unfold Sal.cancel
    rw [hf]
    simp only
    rw [if_neg hal, he]
   rw [hcf]
   by_cases h13 : (S.os.getD i ord0).state = 13
   ·have ep : pordOf S.C i (S.os.getD i ord0) = ⟨(i : Int) + 1, (S.os.getD i ord0).cust, (S.os.getD i ord0).units, 13, (S.os.getD i ord0).cents, (S.os.getD i ord0).untl S.C⟩ := by rw [← h13]; rfl
    refine cancel_held x own (psx an x S last) (psx an x (S.ends i 16) last) (psx an x (S.ends i 16).promote last) K (keepX _ _ _ _) r.kind r.token r.cust r.units r.order ((i : Int) + 1) (S.os.getD i ord0).cust (S.os.getD i ord0).units (S.os.getD i ord0).cents ((S.os.getD i ord0).untl S.C) (S.now + S.C.keep) w hw h (fun loc W hW => ?_) (fun loc W hW => ?_) (fun loc W hW => seenL_call hw (fun W o hp => promote_s hp K1) W hW)
    ·refine seenL_look K hw (fun W o hp => ?_) W hW
     have := H W o hp
     rw [ep] at this
     exact this
    ·refine seenL_call hw (fun W o hp => ?_) W hW
     have := ends_s hp hK hi 16 (by decide)
     rw [ep] at this
     exact this
   ·have h12 : (S.os.getD i ord0).state = 12 := Classical.byContradiction (fun c => hal ⟨h13, c⟩)
    have ep : pordOf S.C i (S.os.getD i ord0) = ⟨(i : Int) + 1, (S.os.getD i ord0).cust, (S.os.getD i ord0).units, 12, (S.os.getD i ord0).cents, (S.os.getD i ord0).untl S.C⟩ := by rw [← h12]; rfl
    refine cancel_wait x own (psx an x S last) (psx an x (S.ends i 16) last) (psx an x (S.ends i 16).promote last) K (keepX _ _ _ _) r.kind r.token r.cust r.units r.order ((i : Int) + 1) (S.os.getD i ord0).cust (S.os.getD i ord0).units (S.os.getD i ord0).cents ((S.os.getD i ord0).untl S.C) (S.now + S.C.keep) w hw h (fun loc W hW => ?_) (fun loc W hW => ?_) (fun loc W hW => seenL_call hw (fun W o hp => promote_s hp K1) W hW)
    ·refine seenL_look K hw (fun W o hp => ?_) W hW
     have := H W o hp
     rw [ep] at this
     exact this
    ·refine seenL_call hw (fun W o hp => ?_) W hW
     have := ends_s hp hK hi 16 (by decide)
     rw [ep] at this
     exact this
 ·have hcf : S.cancel r = (⟨9, 0, 0, 0⟩, S) := by
   unfold Sal.cancel
   cases hf : findS S.os r.cust r.order with
   | none => rfl
   | some i =>
     obtain ⟨h1, _, _⟩ := findS_some ho hf
     simp only
     rw [if_pos ⟨fun c => hn i hf ⟨h1, .inl (.inr c)⟩, fun c => hn i hf ⟨h1, .inl (.inl c)⟩⟩]
  exact (cancel_none x r.kind r.token r.cust r.units r.order w (fun W hW => H W own (psx_below h hW))).mono (stay hcf)
end
end
end Go.Proofs.YtfhncfghblkgeaaGreat
