import Derived.Test.YtfhncfghblkgeabGreatL30
import Derived.Test.YtfhncfghblkgeabGreatL35
import Derived.Test.YtfhncfghblkgeabGreatL40
set_option maxRecDepth 100000
set_option maxHeartbeats 2000000
namespace Go.Proofs.YtfhncfghblkgeabGreat
open Go.RowKit
theorem does_out (x : Nat) (n k t c u o : Int) (w : World) (own : Nat → Prop) (P0 : World → (Nat → Prop) → Prop) (K0 : Keeps P0) (h : P0 w own)
 (HS : Hid (∀ W, Calls Tryz.prog 26 #[.agg #[iv k, iv t, iv c, iv u, iv o]] W fun e w' => e = .returned (.bool false) ∧ Below W.heap.size W w')) :
 Calls Tryz.prog 15 #[pt x 0, .agg #[iv n, iv k, iv t, iv c, iv u, iv o]] w fun e w' => e = .returned (.tuple #[.agg #[iv 0, iv 0, iv 0, iv 0], .bool true]) ∧ ansP P0 w w' own := by
 have hw := K0.lt h
 have HW : Hid (∀ k, own k → k < w.heap.size) := hw
 go_enter Tryz.func15, Tryz.ntmps15
 have hT0 : Hid (seenT P0 w own 2 ((w.alloc (.cells #[iv n, iv k, iv t, iv c, iv u, iv o] 41)).alloc (.cells #[iv 0, iv 0, iv 0, iv 0] 33))) := seen_start K0 h (((Below.refl _ _).alloc (Nat.le_refl _) _).alloc (by simp) _) (by simp)
 have ob0 : Hid (((w.alloc (.cells #[iv n, iv k, iv t, iv c, iv u, iv o] 41)).alloc (.cells #[iv 0, iv 0, iv 0, iv 0] 33)).heap[w.heap.size]? = some (.cells #[iv n, iv k, iv t, iv c, iv u, iv o] 41 (0, 0))) := (Below.heap_alloc _ _ _ (by simp)).trans (heap_alloc_new w _)
 have rb0 : Hid (((w.alloc (.cells #[iv n, iv k, iv t, iv c, iv u, iv o] 41)).alloc (.cells #[iv 0, iv 0, iv 0, iv 0] 33)).heap[w.heap.size + 1]? = some (.cells #[iv 0, iv 0, iv 0, iv 0] 33 (0, 0))) := alloc_two w _ _
 clear h
 go_wp2_with fail
 generalize (w.alloc (.cells #[iv n, iv k, iv t, iv c, iv u, iv o] 41)).alloc (.cells #[iv 0, iv 0, iv 0, iv 0] 33) = W0 at hT0 ob0 rb0 ⊢
 have lo0 : w.heap.size < W0.heap.size := (blt ob0.out)
 have lr0 : w.heap.size + 1 < W0.heap.size := (blt rb0.out)
 refine (HS.out _).mono ?_
 rintro e W1 ⟨rfl, b1⟩
 have hT1 : Hid _ := seen_below K0 hT0.out b1
 have ob1 : Hid _ := (b1.block _ lo0).trans ob0.out
 have rb1 : Hid _ := (b1.block _ lr0).trans rb0.out
 have lo1 : w.heap.size < W1.heap.size := (blt ob1.out)
 have lr1 : w.heap.size + 1 < W1.heap.size := (blt rb1.out)
 obtain ⟨c10, c11, c12, c13, c14, c15⟩ := six_cells ob1.out
 clear ob0 rb0 lo0 lr0 hT0 b1 HS
 have HE : Hid (∀ v0 v1 v2 v3, ansP P0 w ((((W1.setCell (aq (w.heap.size + 1) 0) v0).setCell (aq (w.heap.size + 1) 1) v1).setCell (aq (w.heap.size + 1) 2) v2).setCell (aq (w.heap.size + 1) 3) v3) own) := fun v0 v1 v2 v3 => seen_end (seen_set4 K0 hT1.out HW.out (by omega) (by omega) v0 v1 v2 v3)
 have f0 := row_free rb1.out 0
 have f1 := row_free rb1.out 1
 have f2 := row_free rb1.out 2
 have f3 := row_free rb1.out 3
 obtain ⟨z0, z1, z2, z3⟩ := fourK rb1.out
 clear hT1 HW
 go_wp2
 refine bodyPost_ret (v := .tuple #[.agg #[iv 0, iv 0, iv 0, iv 0], .bool true]) (by simp [results, Tryz.results15, go_sem, z0, z1, z2, z3]) rfl ⟨rfl, ?_⟩
 exact HE.out _ _ _ _
theorem does_send (x : Nat) (n k t c u o pk po pc pu : Int) (w : World) (own : Nat → Prop) (P0 P1 : World → (Nat → Prop) → Prop) (K0 : Keeps P0) (K1 : Keeps P1) (h : P0 w own) (hk : (k != 0) = true) (Fr : World → Option Addr → Nat → Nat → Prop)
 (HS : Hid (∀ W, Calls Tryz.prog 26 #[.agg #[iv k, iv t, iv c, iv u, iv o]] W fun e w' => e = .returned (.bool true) ∧ Below W.heap.size W w'))
 (HF : Hid (∀ W, Calls Tryz.prog 28 #[.agg #[iv k, iv t, iv c, iv u, iv o]] W fun e w' => ∃ ba bl bc, e = .returned (.slice ba bl bc) ∧ Fr w' ba bl bc ∧ Below W.heap.size W w'))
 (HSend : Hid (∀ W o ba bl bc, P0 W o → Fr W ba bl bc → Calls Tryz.prog 27 #[pt x 0, .slice ba bl bc] W fun e w' => e = .returned (.agg #[iv pk, iv po, iv pc, iv pu]) ∧ ansP P1 W w' o))
 (HFi : Hid (∀ W, Calls Tryz.prog 29 #[.agg #[iv k, iv t, iv c, iv u, iv o], .agg #[iv pk, iv po, iv pc, iv pu]] W fun e w' => e = .returned (.bool true) ∧ Below W.heap.size W w')) :
 Calls Tryz.prog 15 #[pt x 0, .agg #[iv n, iv k, iv t, iv c, iv u, iv o]] w fun e w' => e = .returned (.tuple #[.agg #[iv pk, iv po, iv pc, iv pu], .bool true]) ∧ ansP P1 w w' own := by
 have hw := K0.lt h
 have HW : Hid (∀ k, own k → k < w.heap.size) := hw
 go_enter Tryz.func15, Tryz.ntmps15
 have hT0 : Hid (seenT P0 w own 2 ((w.alloc (.cells #[iv n, iv k, iv t, iv c, iv u, iv o] 41)).alloc (.cells #[iv 0, iv 0, iv 0, iv 0] 33))) := seen_start K0 h (((Below.refl _ _).alloc (Nat.le_refl _) _).alloc (by simp) _) (by simp)
 have ob0 : Hid (((w.alloc (.cells #[iv n, iv k, iv t, iv c, iv u, iv o] 41)).alloc (.cells #[iv 0, iv 0, iv 0, iv 0] 33)).heap[w.heap.size]? = some (.cells #[iv n, iv k, iv t, iv c, iv u, iv o] 41 (0, 0))) := (Below.heap_alloc _ _ _ (by simp)).trans (heap_alloc_new w _)
 have rb0 : Hid (((w.alloc (.cells #[iv n, iv k, iv t, iv c, iv u, iv o] 41)).alloc (.cells #[iv 0, iv 0, iv 0, iv 0] 33)).heap[w.heap.size + 1]? = some (.cells #[iv 0, iv 0, iv 0, iv 0] 33 (0, 0))) := alloc_two w _ _
 clear h
 go_wp2_with fail
 generalize (w.alloc (.cells #[iv n, iv k, iv t, iv c, iv u, iv o] 41)).alloc (.cells #[iv 0, iv 0, iv 0, iv 0] 33) = W0 at hT0 ob0 rb0 ⊢
 have lo0 : w.heap.size < W0.heap.size := (blt ob0.out)
 have lr0 : w.heap.size + 1 < W0.heap.size := (blt rb0.out)
 refine (HS.out _).mono ?_
 rintro e W1 ⟨rfl, b1⟩
 have hT1 : Hid _ := seen_below K0 hT0.out b1
 have ob1 : Hid _ := (b1.block _ lo0).trans ob0.out
 have rb1 : Hid _ := (b1.block _ lr0).trans rb0.out
 have lo1 : w.heap.size < W1.heap.size := (blt ob1.out)
 have lr1 : w.heap.size + 1 < W1.heap.size := (blt rb1.out)
 obtain ⟨c10, c11, c12, c13, c14, c15⟩ := six_cells ob1.out
 clear ob0 rb0 lo0 lr0 hT0 b1 HS
 go_wp2_with fail
 refine (HF.out _).mono ?_
 rintro e W2 ⟨ba, bl, bc, rfl, hFr, b2⟩
 have hT2 : Hid _ := seen_below K0 hT1.out b2
 have ob2 : Hid _ := (b2.block _ lo1).trans ob1.out
 have rb2 : Hid _ := (b2.block _ lr1).trans rb1.out
 have lo2 : w.heap.size < W2.heap.size := (blt ob2.out)
 have lr2 : w.heap.size + 1 < W2.heap.size := (blt rb2.out)
 obtain ⟨c20, c21, c22, c23, c24, c25⟩ := six_cells ob2.out
 clear c10 c11 c12 c13 c14 c15 ob1 rb1 lo1 lr1 hT1
 have hT2' : Hid (seenT (fun W o => P0 W o ∧ Fr W ba bl bc) w own 2 W2) := by
  obtain ⟨o1, a1, a⟩ := hT2.out
  exact ⟨o1, ⟨a1, hFr⟩, a⟩
 have HS2 : Hid (∀ W, seenT (fun W o => P0 W o ∧ Fr W ba bl bc) w own 2 W → Calls Tryz.prog 27 #[pt x 0, .slice ba bl bc] W fun e w' => e = .returned (.agg #[iv pk, iv po, iv pc, iv pu]) ∧ seenT P1 w own 2 w' ∧ ∀ b, w.heap.size ≤ b → b < w.heap.size + 2 → w'.heap[b]? = W.heap[b]?) := fun W hT => seen_call HW.out (fun W o hp => HSend.out W o ba bl bc hp.1 hp.2) W hT
 clear b2 hFr HF HSend
 go_wp2_with fail
 refine (HS2.out _ hT2'.out).mono ?_
 rintro e W3 ⟨rfl, hT3, hk3⟩
 replace hT3 : Hid _ := hT3
 have ob3 : Hid _ := (hk3 _ (Nat.le_refl _) (by omega)).trans ob2.out
 have rb3 : Hid _ := (hk3 _ (by omega) (by omega)).trans rb2.out
 have lo3 : w.heap.size < W3.heap.size := (blt ob3.out)
 have lr3 : w.heap.size + 1 < W3.heap.size := (blt rb3.out)
 obtain ⟨c30, c31, c32, c33, c34, c35⟩ := six_cells ob3.out
 clear c20 c21 c22 c23 c24 c25 ob2 rb2 lo2 lr2 hT2
 clear hk3 hT2' HS2
 have hTa : Hid (seenT P1 w own 2 (W3.alloc (.cells #[iv pk, iv po, iv pc, iv pu] 33))) := seen_below K1 hT3.out ((Below.refl _ _).alloc (Nat.le_refl _) _)
 have oba : Hid ((W3.alloc (.cells #[iv pk, iv po, iv pc, iv pu] 33)).heap[w.heap.size]? = some (.cells #[iv n, iv k, iv t, iv c, iv u, iv o] 41 (0, 0))) := (Below.heap_alloc _ _ _ lo3).trans ob3.out
 have rba : Hid ((W3.alloc (.cells #[iv pk, iv po, iv pc, iv pu] 33)).heap[w.heap.size + 1]? = some (.cells #[iv 0, iv 0, iv 0, iv 0] 33 (0, 0))) := (Below.heap_alloc _ _ _ lr3).trans rb3.out
 have pba : Hid ((W3.alloc (.cells #[iv pk, iv po, iv pc, iv pu] 33)).heap[W3.heap.size]? = some (.cells #[iv pk, iv po, iv pc, iv pu] 33 (0, 0))) := heap_alloc_new W3 _
 go_wp2_with fail
 generalize W3.alloc (.cells #[iv pk, iv po, iv pc, iv pu] 33) = Wa at hTa oba rba pba ⊢
 have hpz1 : w.heap.size ≠ W3.heap.size := by omega
 have hpz2 : w.heap.size + 1 ≠ W3.heap.size := by omega
 generalize W3.heap.size = pz at pba hpz1 hpz2 ⊢
 clear c30 c31 c32 c33 c34 c35 ob3 rb3 lo3 lr3 hT3
 obtain ⟨a0, a1, a2, a3, a4, a5⟩ := six_cells oba.out
 obtain ⟨p0, p1, p2, p3⟩ := fourK pba.out
 have loa : w.heap.size < Wa.heap.size := (blt oba.out)
 have lra : w.heap.size + 1 < Wa.heap.size := (blt rba.out)
 have lpa : pz < Wa.heap.size := (blt pba.out)
 go_region_held3 (fun w' => (w'.cell? (aq w.heap.size 1) = some (iv k) ∧ w'.cell? (aq w.heap.size 2) = some (iv t) ∧ w'.cell? (aq w.heap.size 3) = some (iv c) ∧ w'.cell? (aq w.heap.size 4) = some (iv u) ∧ w'.cell? (aq w.heap.size 5) = some (iv o)) ∧ w'.cell? (aq pz 0) = some (iv pk) ∧ w'.cell? (aq pz 1) = some (iv po) ∧ w'.cell? (aq pz 2) = some (iv pc) ∧ w'.cell? (aq pz 3) = some (iv pu)) (simp [go_sem, *])
  (first
    | (go_at_call 29; refine (HFi.out _).mono ?_; rintro e W4 ⟨rfl, b4⟩
       have hb4 : Below Wa.heap.size Wa W4 := by first | exact b4 | exact Below.trans (show Below Wa.heap.size Wa _ from bL) (b4.mono (by simp))
       have hT4 : Hid _ := seen_below K1 hTa.out hb4
       have ob4 : Hid _ := (hb4.block _ loa).trans oba.out
       have rb4 : Hid _ := (hb4.block _ lra).trans rba.out
       have pb4 : Hid _ := (hb4.block _ lpa).trans pba.out
       obtain ⟨d0, d1, d2, d3, d4, d5⟩ := six_cells ob4.out
       obtain ⟨r0, r1, r2, r3⟩ := fourK pb4.out
       have lo4 : w.heap.size < W4.heap.size := (blt ob4.out)
       have lr4 : w.heap.size + 1 < W4.heap.size := (blt rb4.out)
       have lp4 : pz < W4.heap.size := (blt pb4.out)
       have f0 := row_free rb4.out 0
       have f1 := row_free rb4.out 1
       have f2 := row_free rb4.out 2
       have f3 := row_free rb4.out 3
       obtain ⟨z0, z1, z2, z3⟩ := fourK rb4.out
       clear b4 hb4))
 clear a0 a1 a2 a3 a4 a5 p0 p1 p2 p3 hTa oba rba pba HFi
 have HE : Hid (∀ v0 v1 v2 v3, ansP P1 w ((((W4.setCell (aq (w.heap.size + 1) 0) v0).setCell (aq (w.heap.size + 1) 1) v1).setCell (aq (w.heap.size + 1) 2) v2).setCell (aq (w.heap.size + 1) 3) v3) own) := fun v0 v1 v2 v3 => seen_end (seen_set4 K1 hT4.out HW.out (by omega) (by omega) v0 v1 v2 v3)
 clear hT4 HW
 go_wp2
 refine bodyPost_ret (v := .tuple #[.agg #[iv pk, iv po, iv pc, iv pu], .bool true]) (by simp [results, Tryz.results15, go_sem, z0, z1, z2, z3]) rfl ⟨rfl, ?_⟩
 first | exact HE.out _ _ _ _ | exact ansP_drew (HE.out _ _ _ _)
theorem does_tick (x : Nat) (n t c u o now now' tk er : Int) (w : World) (own : Nat → Prop) (P0 P1 : World → (Nat → Prop) → Prop) (K0 : Keeps P0) (K1 : Keeps P1) (h : P0 w own) (hb : 0 ≤ now ∧ now ≤ 4611686018427387904)
 (hto : (n < 0 ∧ er = 3 ∧ tk = 0 ∧ now' = now) ∨ (¬ n < 0 ∧ n < 4611686018427387904 - now ∧ er = 0 ∧ tk = now + n ∧ now' = now + n) ∨ (¬ n < 0 ∧ ¬ n < 4611686018427387904 - now ∧ er = 0 ∧ tk = 4611686018427387904 ∧ now' = 4611686018427387904))
 (HS : Hid (∀ W, Calls Tryz.prog 26 #[.agg #[iv 0, iv t, iv c, iv u, iv o]] W fun e w' => e = .returned (.bool true) ∧ Below W.heap.size W w'))
 (HC : Hid (∀ W o, P0 W o → Calls Tryz.prog 23 #[pt x 0] W fun e w' => e = .returned (iv now) ∧ ansP P0 W w' o))
 (HT : Hid (∀ W o, P0 W o → Calls Tryz.prog 30 #[pt x 0, iv n] W fun e w' => e = .returned (.tuple #[iv tk, iv er]) ∧ ansP P1 W w' o))
 (HC1 : Hid (∀ W o, P1 W o → Calls Tryz.prog 23 #[pt x 0] W fun e w' => e = .returned (iv now') ∧ ansP P1 W w' o)) :
 Calls Tryz.prog 15 #[pt x 0, .agg #[iv n, iv 0, iv t, iv c, iv u, iv o]] w fun e w' => e = .returned (.tuple #[.agg #[iv 0, iv 0, iv 0, iv 0], .bool true]) ∧ ansP P1 w w' own := by
 have hw := K0.lt h
 have HW : Hid (∀ k, own k → k < w.heap.size) := hw
 go_enter Tryz.func15, Tryz.ntmps15
 have hT0 : Hid (seenT P0 w own 2 ((w.alloc (.cells #[iv n, iv 0, iv t, iv c, iv u, iv o] 41)).alloc (.cells #[iv 0, iv 0, iv 0, iv 0] 33))) := seen_start K0 h (((Below.refl _ _).alloc (Nat.le_refl _) _).alloc (by simp) _) (by simp)
 have ob0 : Hid (((w.alloc (.cells #[iv n, iv 0, iv t, iv c, iv u, iv o] 41)).alloc (.cells #[iv 0, iv 0, iv 0, iv 0] 33)).heap[w.heap.size]? = some (.cells #[iv n, iv 0, iv t, iv c, iv u, iv o] 41 (0, 0))) := (Below.heap_alloc _ _ _ (by simp)).trans (heap_alloc_new w _)
 have rb0 : Hid (((w.alloc (.cells #[iv n, iv 0, iv t, iv c, iv u, iv o] 41)).alloc (.cells #[iv 0, iv 0, iv 0, iv 0] 33)).heap[w.heap.size + 1]? = some (.cells #[iv 0, iv 0, iv 0, iv 0] 33 (0, 0))) := alloc_two w _ _
 clear h
 go_wp2_with fail
 generalize (w.alloc (.cells #[iv n, iv 0, iv t, iv c, iv u, iv o] 41)).alloc (.cells #[iv 0, iv 0, iv 0, iv 0] 33) = W0 at hT0 ob0 rb0 ⊢
 have lo0 : w.heap.size < W0.heap.size := (blt ob0.out)
 have lr0 : w.heap.size + 1 < W0.heap.size := (blt rb0.out)
 refine (HS.out _).mono ?_
 rintro e W1 ⟨rfl, b1⟩
 have hT1 : Hid _ := seen_below K0 hT0.out b1
 have ob1 : Hid _ := (b1.block _ lo0).trans ob0.out
 have rb1 : Hid _ := (b1.block _ lr0).trans rb0.out
 have lo1 : w.heap.size < W1.heap.size := (blt ob1.out)
 have lr1 : w.heap.size + 1 < W1.heap.size := (blt rb1.out)
 obtain ⟨c10, c11, c12, c13, c14, c15⟩ := six_cells ob1.out
 clear ob0 rb0 lo0 lr0 hT0 b1 HS
 have HCa : Hid _ := seen_call (m := 2) HW.out HC.out
 have HTa : Hid _ := seen_call (m := 2) HW.out HT.out
 have HCb : Hid _ := seen_call (m := 2) HW.out HC1.out
 clear HC HT HC1
 go_wp2_with fail
 refine (HCa.out _ hT1.out).mono ?_
 rintro e W2 ⟨rfl, hT2, hk2⟩
 replace hT2 : Hid _ := hT2
 have ob2 : Hid _ := (hk2 _ (Nat.le_refl _) (by omega)).trans ob1.out
 have rb2 : Hid _ := (hk2 _ (by omega) (by omega)).trans rb1.out
 have lo2 : w.heap.size < W2.heap.size := (blt ob2.out)
 have lr2 : w.heap.size + 1 < W2.heap.size := (blt rb2.out)
 obtain ⟨c20, c21, c22, c23, c24, c25⟩ := six_cells ob2.out
 clear c10 c11 c12 c13 c14 c15 ob1 rb1 lo1 lr1 hT1
 clear hk2
 go_wp2_with fail
 refine (HTa.out _ hT2.out).mono ?_
 rintro e W3 ⟨rfl, hT3, hk3⟩
 replace hT3 : Hid _ := hT3
 have ob3 : Hid _ := (hk3 _ (Nat.le_refl _) (by omega)).trans ob2.out
 have rb3 : Hid _ := (hk3 _ (by omega) (by omega)).trans rb2.out
 have lo3 : w.heap.size < W3.heap.size := (blt ob3.out)
 have lr3 : w.heap.size + 1 < W3.heap.size := (blt rb3.out)
 obtain ⟨c30, c31, c32, c33, c34, c35⟩ := six_cells ob3.out
 clear c20 c21 c22 c23 c24 c25 ob2 rb2 lo2 lr2 hT2
 clear hk3
 go_wp2_with fail
 refine (HCb.out _ hT3.out).mono ?_
 rintro e W4 ⟨rfl, hT4, hk4⟩
 replace hT4 : Hid _ := hT4
 have ob4 : Hid _ := (hk4 _ (Nat.le_refl _) (by omega)).trans ob3.out
 have rb4 : Hid _ := (hk4 _ (by omega) (by omega)).trans rb3.out
 have lo4 : w.heap.size < W4.heap.size := (blt ob4.out)
 have lr4 : w.heap.size + 1 < W4.heap.size := (blt rb4.out)
 obtain ⟨c40, c41, c42, c43, c44, c45⟩ := six_cells ob4.out
 clear c30 c31 c32 c33 c34 c35 ob3 rb3 lo3 lr3 hT3
 clear hk4 HCa HTa HCb
 have HE : Hid (∀ v0 v1 v2 v3, ansP P1 w ((((W4.setCell (aq (w.heap.size + 1) 0) v0).setCell (aq (w.heap.size + 1) 1) v1).setCell (aq (w.heap.size + 1) 2) v2).setCell (aq (w.heap.size + 1) 3) v3) own) := fun v0 v1 v2 v3 => seen_end (seen_set4 K1 hT4.out HW.out (by omega) (by omega) v0 v1 v2 v3)
 have f0 := row_free rb4.out 0
 have f1 := row_free rb4.out 1
 have f2 := row_free rb4.out 2
 have f3 := row_free rb4.out 3
 obtain ⟨z0, z1, z2, z3⟩ := fourK rb4.out
 clear hT4 HW
 obtain ⟨hb0, hb1⟩ := hb
 rcases hto with ⟨hn, rfl, rfl, rfl⟩ | ⟨hn, hlt, rfl, rfl, rfl⟩ | ⟨hn, hlt, rfl, rfl, rfl⟩
 ·go_wp2
  refine bodyPost_ret (v := .tuple #[.agg #[iv 0, iv 0, iv 0, iv 0], .bool true]) (by simp [results, Tryz.results15, go_sem, z0, z1, z2, z3]) rfl ⟨rfl, ?_⟩
  exact HE.out _ _ _ _
 ·have hw1 : IntKind.i64.wrap (4611686018427387904 - now) = 4611686018427387904 - now := wrap_in (by omega) (by omega)
  have hw2 : IntKind.i64.wrap (now + n) = now + n := wrap_in (by omega) (by omega)
  go_wp2
  refine bodyPost_ret (v := .tuple #[.agg #[iv 0, iv 0, iv 0, iv 0], .bool true]) (by simp [results, Tryz.results15, go_sem, z0, z1, z2, z3]) rfl ⟨rfl, ?_⟩
  exact HE.out _ _ _ _
 ·have hw1 : IntKind.i64.wrap (4611686018427387904 - now) = 4611686018427387904 - now := wrap_in (by omega) (by omega)
  go_wp2
  refine bodyPost_ret (v := .tuple #[.agg #[iv 0, iv 0, iv 0, iv 0], .bool true]) (by simp [results, Tryz.results15, go_sem, z0, z1, z2, z3]) rfl ⟨rfl, ?_⟩
  exact HE.out _ _ _ _
theorem aforget_walk (x aw : Nat) (now er : Int) (D : List (Int × Int)) (w : World) (own : Nat → Prop) (P0 : World → (Nat → Prop) → Prop) (Q : Nat → World → (Nat → Prop) → Prop) (K0 : Keeps P0) (KQ : ∀ j, Keeps (Q j)) (h : P0 w own) (hn : D.length ≤ 4294967296)
 (HX : Hid (∀ loc W, seenL P0 w own loc W → x < W.heap.size ∧ W.cell? (aq x 23) = some (pt aw 0)))
 (HA : Hid (∀ loc W, seenL P0 w own loc W → Calls Tryz.prog 101 #[pt aw 0, iv now] W fun e w' => ∃ da dc, e = .returned (.tuple #[.slice da D.length dc, iv er]) ∧ seenL (withD (Q 0) da D) w own loc w'))
 (HR : Hid (∀ da j, j < D.length → doesL w own (withD (Q j) da D) (withD (Q (j + 1)) da D) 105 #[pt x 23, iv (D.getD j (0, 0)).2] (.tuple #[]))) :
 Calls Tryz.prog 73 #[pt x 23, iv now] w fun e w' => e = .returned (.tuple #[]) ∧ ansP (Q D.length) w w' own := by
 have hT0 : Hid (seenL P0 w own (fun _ => False) w) := seenL_start K0 h (Below.refl _ _) (fun _ e => e.elim)
 obtain ⟨hx, c23⟩ := HX.out _ _ hT0.out
 clear h HX
 go_enter Tryz.func73, Tryz.ntmps73
 go_wp2_with (go_at_call 101; refine (HA.out _ _ (seenL_below K0 hT0.out bL)).mono ?_; rintro e W1 ⟨da, dc, rfl, hT1⟩
              replace hT1 : Hid (seenL (withD (Q 0) da D) w own (fun _ => False) W1) := hT1
              clear c23 hx)
 clear hT0 HA
 go_loopw [6] (fun i wr => ∃ j : Nat, j ≤ D.length ∧ i = iv j ∧ Hid (seenL (withD (Q j) da D) w own (fun _ => False) wr)) (fun i _ => D.length - (intOf i).toNat)
 case atStart => exact ⟨0, Nat.zero_le _, rfl, hT1⟩
 case round =>
  obtain ⟨j, hj, rfl, HK⟩ := hrel
  clear hT1
  by_cases hlt : j < D.length
  ·obtain ⟨g, rfl, hb, c0, c1⟩ := seenD HK.out j hlt
   have HRj : Hid _ := HR.out (some (aq g 0)) j hlt
   have KJ := keepD (KQ j) (some (aq g 0)) D
   have KJ1 := keepD (KQ (j + 1)) (some (aq g 0)) D
   have HNX : Hid (∀ wr', seenL (withD (Q (j + 1)) (some (aq g 0)) D) w own (fun _ => False) wr' → ∃ j' : Nat, j' ≤ D.length ∧ Value.int .i64 ((j : Int) + 1) = iv j' ∧ Hid (seenL (withD (Q j') (some (aq g 0)) D) w own (fun _ => False) wr')) := fun wr' h => ⟨j + 1, by omega, by simp, h⟩
   have b0 : (0 : Int) ≤ (j : Int) := by omega
   have b1 : (j : Int) < (D.length : Int) := by omega
   have hwj : IntKind.i64.wrap ((j : Int) + 1) = (j : Int) + 1 := wrap_in (by omega) (by omega)
   generalize D.getD j (0, 0) = dj at c0 c1 HRj
   obtain ⟨dt, di⟩ := dj
   simp only at c0 c1 HRj
   clear HR
   go_wp2_with (go_at_call 105; refine (HRj.out _ _ (seenL_below KJ HK.out bL)).mono ?_; rintro e W4 ⟨rfl, hT4, hk⟩
                replace hT4 : Hid _ := hT4
                clear hk c0 c1 hb)
   go_roundw
   case rel => first | exact HNX.out _ (seenL_below KJ1 hT4.out bL) | (rw [hwj]; exact HNX.out _ (seenL_below KJ1 hT4.out bL))
   case measure => simp [intOf]; omega
  ·have hje : j = D.length := by omega
   subst hje
   go_wp2_with fail
   first | go_end0 | refine bodyPost_ret (results_none rfl _ _ _) rfl ?_
   exact ⟨rfl, seenL_endD (seenL_below (keepD (KQ _) da D) HK.out bL)⟩
theorem stop_walk (x tw : Nat) (now er : Int) (D : List (Int × Int)) (w : World) (own : Nat → Prop) (P0 P1 P2 P3 P4 P5 P6 : World → (Nat → Prop) → Prop) (K0 : Keeps P0) (K1 : Keeps P1) (K2 : Keeps P2) (K3 : Keeps P3) (K4 : Keeps P4) (K5 : Keeps P5) (K6 : Keeps P6) (h : P0 w own)
 (HX : Hid (∀ loc W, seenL P0 w own loc W → x < W.heap.size ∧ W.cell? (aq x 10) = some (pt tw 0) ∧ W.cell? (aq x 8) = some (iv now)))
 (HX1 : Hid (∀ da loc W, seenL (withD P1 da D) w own loc W → x < W.heap.size ∧ W.cell? (aq x 10) = some (pt tw 0) ∧ W.cell? (aq x 8) = some (iv now)))
 (HA : Hid (∀ loc W, seenL P0 w own loc W → Calls Tryz.prog 101 #[pt tw 0, iv now] W fun e w' => ∃ da dc, e = .returned (.tuple #[.slice da D.length dc, iv er]) ∧ seenL (withD P1 da D) w own loc w'))
 (HF : Hid (∀ da dc, doesL w own (withD P1 da D) (withD P2 da D) 102 #[pt x 0, .slice da D.length dc] (.tuple #[])))
 (HE : Hid (∀ da dc, doesL w own (withD P2 da D) (withD P3 da D) 103 #[pt x 0, .slice da D.length dc, iv 13, iv 15] (.tuple #[])))
 (HP : Hid (∀ da, doesL w own (withD P3 da D) (withD P4 da D) 104 #[pt x 0] (.tuple #[])))
 (HE2 : Hid (∀ da dc, doesL w own (withD P4 da D) (withD P5 da D) 103 #[pt x 0, .slice da D.length dc, iv 12, iv 17] (.tuple #[])))
 (HP2 : Hid (∀ da, doesL w own (withD P5 da D) (withD P6 da D) 104 #[pt x 0] (.tuple #[]))) :
 Calls Tryz.prog 72 #[pt x 0] w fun e w' => e = .returned (.tuple #[]) ∧ ansP P6 w w' own := by
 have hT0 : Hid (seenL P0 w own (fun _ => False) w) := seenL_start K0 h (Below.refl _ _) (fun _ e => e.elim)
 obtain ⟨hx, c10, c8⟩ := HX.out _ _ hT0.out
 clear h HX
 go_enter Tryz.func72, Tryz.ntmps72
 go_wp2_with fail
 go_region_held3 (fun w' => w'.cell? (aq x 10) = some (pt tw 0) ∧ w'.cell? (aq x 8) = some (iv now)) (simp [go_sem, *])
  (first
    | (go_at_call 101; refine (HA.out _ _ (seenL_below K0 hT0.out bL)).mono ?_; rintro e W1 ⟨da, dc, rfl, hT1⟩
       obtain ⟨hx1, d10, d8⟩ := HX1.out _ _ _ hT1
       replace hT1 : Hid (seenL (withD P1 da D) w own (fun _ => False) W1) := hT1))
 clear c10 c8 d10 d8 hT0 HA HX1
 go_wp2_with (first
  | (go_at_call 102; refine (HF.out _ _ _ _ (seenL_below (keepD K1 _ _) hT1.out bL)).mono ?_; rintro e W2 ⟨rfl, hT2, hk⟩
     replace hT2 : Hid _ := hT2
     clear hk hT1)
  | (go_at_call 103; refine (HE.out _ _ _ _ (seenL_below (keepD K2 _ _) hT2.out bL)).mono ?_; rintro e W3 ⟨rfl, hT3, hk⟩
     replace hT3 : Hid _ := hT3
     clear hk hT2)
  | (go_at_call 104; refine (HP.out _ _ _ (seenL_below (keepD K3 _ _) hT3.out bL)).mono ?_; rintro e W4 ⟨rfl, hT4, hk⟩
     replace hT4 : Hid _ := hT4
     clear hk hT3)
  | (go_at_call 103; refine (HE2.out _ _ _ _ (seenL_below (keepD K4 _ _) hT4.out bL)).mono ?_; rintro e W5 ⟨rfl, hT5, hk⟩
     replace hT5 : Hid _ := hT5
     clear hk hT4)
  | (go_at_call 104; refine (HP2.out _ _ _ (seenL_below (keepD K5 _ _) hT5.out bL)).mono ?_; rintro e W6 ⟨rfl, hT6, hk⟩
     replace hT6 : Hid _ := hT6
     clear hk hT5))
 first | go_end0 | refine bodyPost_ret (results_none rfl _ _ _) rfl ?_
 exact ⟨rfl, seenL_endD (seenL_below (keepD K6 _ _) hT6.out bL)⟩
def goonI {σ : Type} (P PE : σ → World → (Nat → Prop) → Prop) (Inv : σ → Prop) (fs : σ → Int × Int) (fb : σ → Bool) (μ : σ → Nat) (s : σ) (w1 : World) (own : Nat → Prop) (v : Value) (wr : World) (n : Nat) : Prop :=
 ∃ s', Inv s' ∧ μ s' = n ∧ PE s' = PE s ∧ seenT (P s') w1 own 1 wr ∧ v = .bool (fb s') ∧ wr.heap[w1.heap.size]? = some (.cells #[iv (fs s').1, iv (fs s').2] 123 (0, 0))
theorem seen_clock {P P' : World → (Nat → Prop) → Prop} {w W W' : World} {own : Nat → Prop} {m : Nat} (h : seenT P w own m W) (hx : ∀ o, P W o → ansP P' W W' o) : seenT P' w own m W' := by
 obtain ⟨o1, a1, a2, a3, a4⟩ := h
 obtain ⟨o2, b1, b2, b3⟩ := hx o1 a1
 have z1 := a2.size
 have z2 := b2.size
 exact ⟨o2, b1, Same.trans a2 b2 (fun k hk e => e.elim id (fun e => (a3 k e).elim id (fun e => by omega))), fun k e => (b3 k e).elim (a3 k) (fun e => .inr (by omega)), by omega⟩
theorem goOn_walk {σ : Type} (x : Nat) (to : Int) (P PE : σ → World → (Nat → Prop) → Prop) (PC : σ → Int → World → (Nat → Prop) → Prop) (KP : ∀ s, Keeps (P s)) (KC : ∀ s t, Keeps (PC s t)) (KE : ∀ s, Keeps (PE s)) (Inv : σ → Prop) (fs : σ → Int × Int) (fb : σ → Bool) (nx : σ → σ) (μ : σ → Nat) (cd : σ → Prop) (hcd : Hid (∀ s, cd s ↔ (fs s).1 ≤ to))
 (lo : σ → Int) (hLo : Hid (∀ s, Inv s → lo s ≤ to ∧ (fb s = true → lo s ≤ (fs s).1)))
 (hX : Hid (∀ s, Inv s → ∀ W o, P s W o → o x ∧ ∀ t, lo s ≤ t → ansP (PC s t) W (W.setCell (aq x 8) (iv t)) o))
 (hY : Hid (∀ s, Inv s → ∀ W o, P s W o → x < W.heap.size ∧ (∃ u, W.cell? (aq x 8) = some u) ∧ W.frozen? (aq x 8) = false))
 (hF : Hid (∀ s, Inv s → ∀ W o, P s W o → ∃ tw, W.cell? (aq x 10) = some (pt tw 0) ∧ ∀ W', Below W.heap.size W W' → Calls Tryz.prog 71 #[pt tw 0] W' fun e w' => e = .returned (.tuple #[.agg #[iv (fs s).1, iv (fs s).2], .bool (fb s)]) ∧ Below W'.heap.size W' w'))
 (hS : Hid (∀ s, Inv s → fb s = true → cd s → ∀ W o, PC s (fs s).1 W o → Calls Tryz.prog 72 #[pt x 0] W fun e w' => e = .returned (.tuple #[]) ∧ ansP (P (nx s)) W w' o))
 (hN : Hid (∀ s, Inv s → fb s = true → cd s → Inv (nx s) ∧ μ (nx s) < μ s ∧ PE (nx s) = PE s))
 (hE : Hid (∀ s, Inv s → (fb s = true → ¬ cd s) → ∀ W o, PC s to W o → Calls Tryz.prog 73 #[pt x 23, iv to] W fun e w' => e = .returned (.tuple #[]) ∧ ansP (PE s) W w' o)) (s : σ) (w : World) (own : Nat → Prop) (hi : Inv s) (h : P s w own) :
 Calls Tryz.prog 47 #[pt x 0, iv to] w fun e w' => e = .returned (.tuple #[]) ∧ ansP (PE s) w w' own := by
 have hw := (KP s).lt h
 obtain ⟨tw, c10, HF0⟩ := hF.out s hi w own h
 obtain ⟨hxw, _, _⟩ := hY.out s hi w own h
 replace HF0 : Hid _ := HF0
 go_enter Tryz.func47, Tryz.ntmps47
 go_wp2_with fail
 refine (HF0.out _ bL).mono ?_
 rintro e w1 ⟨rfl, b1⟩
 replace b1 : Below w.heap.size w w1 := b1
 have h1 : P s w1 own := (KP s).keep h b1.size (fun k e => b1.block k (hw k e))
 have hw1 : Hid (∀ k, own k → k < w1.heap.size) := fun k e => Nat.lt_of_lt_of_le (hw k e) b1.size
 have HFRONT : Hid (∀ w', ansP (PE s) w1 w' own → ansP (PE s) w w' own) := fun w' ha => ansP_front b1 ha
 have HI0 : Hid (goonI P PE Inv fs fb μ s w1 own (.bool (fb s)) (w1.alloc (.cells #[iv (fs s).1, iv (fs s).2] 123)) (μ s)) := ⟨s, hi, rfl, rfl, seen_start (KP s) h1 ((Below.refl _ _).alloc (Nat.le_refl _) _) (by simp), rfl, heap_alloc_new w1 _⟩
 clear h h1 hi hw b1 c10 HF0 hxw
 generalize (fs s).1 = p1 at HI0 ⊢
 generalize (fs s).2 = p2 at HI0 ⊢
 generalize fb s = b0 at HI0 ⊢
 go_wp2_with fail
 go_loopw [5] (fun v wr => ∃ n, goonI P PE Inv fs fb μ s w1 own v wr n) (fun v wr => fuel (goonI P PE Inv fs fb μ s w1 own v wr))
 case atStart => exact ⟨_, HI0.out⟩
 case round =>
  have hfu := fuel_at hrel
  obtain ⟨s', i1, i2, i3, hT, rfl, ob⟩ := hfu
  replace hT : Hid _ := hT
  replace i1 : Hid _ := i1
  replace ob : Hid _ := ob
  have HM : Hid (∀ v' w' m, goonI P PE Inv fs fb μ s w1 own v' w' m → m < μ s' → (∃ n, goonI P PE Inv fs fb μ s w1 own v' w' n) ∧ fuel (goonI P PE Inv fs fb μ s w1 own v' w') < fuel (goonI P PE Inv fs fb μ s w1 own (.bool (fb s')) wr)) := fun v' w' m h1 h2 => ⟨⟨m, h1⟩, by rw [← i2]; exact Nat.lt_of_le_of_lt (fuel_le h1) h2⟩
  clear hrel i2 HI0
  obtain ⟨hlo1, hlo2⟩ := hLo.out s' i1.out
  have HXs : Hid (∀ W o, P s' W o → o x ∧ ∀ t, lo s' ≤ t → ansP (PC s' t) W (W.setCell (aq x 8) (iv t)) o) := hX.out s' i1.out
  have hy : x < wr.heap.size ∧ (∃ u, wr.cell? (aq x 8) = some u) ∧ wr.frozen? (aq x 8) = false := by
   obtain ⟨o1, a1, _⟩ := hT.out
   exact hY.out s' i1.out wr o1 a1
  have hne : x ≠ w1.heap.size := by
   obtain ⟨o1, a1, a2, a3, a4⟩ := hT.out
   rcases a3 x (HXs.out wr o1 a1).1 with e | e
   ·have := hw1.out x e; omega
   ·omega
  obtain ⟨hxr, ⟨u8, c8⟩, fz8⟩ := hy
  obtain ⟨s0, s1⟩ := two_cells ob.out
  have lw : w1.heap.size < wr.heap.size := (blt ob.out)
  have HEs : Hid ((fb s' = true → ¬ cd s') → ∀ W, seenT (PC s' to) w1 own 1 W → Calls Tryz.prog 73 #[pt x 23, iv to] W fun e w' => e = .returned (.tuple #[]) ∧ seenT (PE s) w1 own 1 w' ∧ ∀ b, w1.heap.size ≤ b → b < w1.heap.size + 1 → w'.heap[b]? = W.heap[b]?) := fun hc W hW => by
   rw [← i3]
   exact seen_call hw1.out (hE.out s' i1.out hc) W hW
  cases hb : fb s' with
  | false =>
    have HEs : Hid _ := HEs.out (fun c => by rw [hb] at c; cases c)
    replace hlo1 : Hid _ := hlo1
    clear HM hN hE hF hS hX hY ob s0 s1 hlo2 hLo
    go_wp2_with fail
    try go_quiet (fail)
    go_wp2_with fail
    have hC := seen_clock hT.out (fun o hp => (HXs.out wr o hp).2 to hlo1.out)
    have hTc : Hid (seenT (PC s' to) w1 own 1 (wr.setCell (aq x 8) (iv to))) := hC
    refine (HEs.out _ (seen_below (KC s' to) hTc.out bL)).mono ?_
    rintro e W1 ⟨rfl, hT1, hk⟩
    go_wp2
    first | go_end0 | refine bodyPost_ret (results_none rfl _ _ _) rfl ?_
    exact ⟨rfl, HFRONT.out _ (seen_end (seen_below (KE s) hT1 bL))⟩
  | true =>
    rw [hb] at HM
    by_cases hle : cd s'
    ·have HSs : Hid (∀ W, seenT (PC s' (fs s').1) w1 own 1 W → Calls Tryz.prog 72 #[pt x 0] W fun e w' => e = .returned (.tuple #[]) ∧ seenT (P (nx s')) w1 own 1 w' ∧ ∀ b, w1.heap.size ≤ b → b < w1.heap.size + 1 → w'.heap[b]? = W.heap[b]?) := fun W hW => seen_call hw1.out (hS.out s' i1.out hb hle) W hW
     obtain ⟨n1, n2, n3⟩ := hN.out s' i1.out hb hle
     have HFs : Hid (∀ W, seenT (P (nx s')) w1 own 1 W → ∃ tw, (x < W.heap.size ∧ W.cell? (aq x 10) = some (pt tw 0)) ∧ ∀ W', Below W.heap.size W W' → Calls Tryz.prog 71 #[pt tw 0] W' fun e w' => e = .returned (.tuple #[.agg #[iv (fs (nx s')).1, iv (fs (nx s')).2], .bool (fb (nx s'))]) ∧ Below W'.heap.size W' w') := fun W hW => by
      obtain ⟨o1, a1, _⟩ := hW
      obtain ⟨tw, q1, q2⟩ := hF.out (nx s') n1 W o1 a1
      exact ⟨tw, ⟨(hY.out (nx s') n1 W o1 a1).1, q1⟩, q2⟩
     have HR : Hid (∀ W', seenT (P (nx s')) w1 own 1 W' → W'.heap[w1.heap.size]? = some (.cells #[iv (fs (nx s')).1, iv (fs (nx s')).2] 123 (0, 0)) → (∃ n, goonI P PE Inv fs fb μ s w1 own (.bool (fb (nx s'))) W' n) ∧ fuel (goonI P PE Inv fs fb μ s w1 own (.bool (fb (nx s'))) W') < fuel (goonI P PE Inv fs fb μ s w1 own (.bool true) wr)) := fun W' h1 h2 => HM.out _ W' _ ⟨nx s', n1, rfl, n3.trans i3, h1, rfl, h2⟩ n2
     have hC := seen_clock hT.out (fun o hp => (HXs.out wr o hp).2 (fs s').1 (hlo2 hb))
     have hTc : Hid (seenT (PC s' (fs s').1) w1 own 1 (wr.setCell (aq x 8) (iv (fs s').1))) := hC
     have obc : Hid ((wr.setCell (aq x 8) (iv (fs s').1)).heap[w1.heap.size]? = some (.cells #[iv (fs s').1, iv (fs s').2] 123 (0, 0))) := (Below.heap_setCell _ (aq x 8) _ _ (Ne.symm hne)).trans ob.out
     have hle2 := (hcd.out s').1 hle
     clear HM hN hE hF hS hX hY HEs hcd hle n1 n2 n3 i3 HXs hT hC ob hLo hlo1 hlo2
     have KPc := KC s' (fs s').1
     have KPb := KP (nx s')
     generalize (fs s').1 = f1 at *
     generalize (fs s').2 = f2 at *
     generalize (fs (nx s')).1 = q1 at HFs HR
     generalize (fs (nx s')).2 = q2 at HFs HR
     generalize fb (nx s') = b1 at HFs HR
     generalize PC s' f1 = Pc at hTc HSs KPc
     generalize P (nx s') = Pb at HSs HFs HR KPb
     go_wp2_with fail
     try go_quiet (fail)
     go_wp2_with fail
     refine (HSs.out _ (seen_below KPc hTc.out bL)).mono ?_
     rintro e W2 ⟨rfl, hT2, hk⟩
     have ob2 : Hid _ := (hk _ (Nat.le_refl _) (by omega)).trans obc.out
     obtain ⟨tw, ⟨hx2, c10⟩, HF2⟩ := HFs.out _ hT2
     replace HF2 : Hid _ := HF2
     clear hk hTc obc s0 s1 c8 fz8
     go_wp2_with fail
     refine (HF2.out _ bL).mono ?_
     rintro e W3 ⟨rfl, b3⟩
     replace b3 : Below W2.heap.size W2 W3 := b3
     have ob3 := (b3.block _ (blt ob2.out)).trans ob2.out
     have hT3 := seen_below KPb hT2 b3
     have HS2 : Hid (((W3.setCell (aq w1.heap.size 0) (iv q1)).setCell (aq w1.heap.size 1) (iv q2)).heap[w1.heap.size]? = some (.cells #[iv q1, iv q2] 123 (0, 0))) := Joins.block_setCell (i := 1) (Joins.block_setCell (i := 0) ob3 _) _
     have hT4 : Hid (seenT Pb w1 own 1 ((W3.setCell (aq w1.heap.size 0) (iv q1)).setCell (aq w1.heap.size 1) (iv q2))) := seen_set KPb (seen_set KPb hT3 hw1.out (Nat.le_refl _) (by omega) _) hw1.out (Nat.le_refl _) (by omega) _
     obtain ⟨s0, s1⟩ := two_cells ob3
     have f0 := row_free ob3 0
     have f1' := row_free ob3 1
     have lw3 : w1.heap.size < W3.heap.size := (blt ob3)
     replace ob3 : Hid _ := ob3
     clear hT2 ob2 hT3 b3 c10
     go_wp2
     exact HR.out _ hT4.out HS2.out
    ·have HEs : Hid _ := HEs.out (fun _ => hle)
     have hle2 : ¬ (fs s').1 ≤ to := fun c => hle ((hcd.out s').2 c)
     replace hlo1 : Hid _ := hlo1
     clear HM hN hE hF hS hX hY hcd hle ob hlo2 hLo
     generalize (fs s').1 = f1 at s0 hle2
     go_wp2_with fail
     try go_quiet (fail)
     go_wp2_with fail
     have hC := seen_clock hT.out (fun o hp => (HXs.out wr o hp).2 to hlo1.out)
     have hTc : Hid (seenT (PC s' to) w1 own 1 (wr.setCell (aq x 8) (iv to))) := hC
     refine (HEs.out _ (seen_below (KC s' to) hTc.out bL)).mono ?_
     rintro e W1 ⟨rfl, hT1, hk⟩
     go_wp2
     first | go_end0 | refine bodyPost_ret (results_none rfl _ _ _) rfl ?_
     exact ⟨rfl, HFRONT.out _ (seen_end (seen_below (KE s) hT1 bL))⟩
section
section
variable {w W W' : World} {x : Nat} {own loc : Nat → Prop} {V : PV} {P' : World → (Nat → Prop) → Prop}
theorem seenL_step {o1 : Nat → Prop} (a2 : Same own w W) (a3 : ∀ k, o1 k → own k ∨ (w.heap.size ≤ k ∧ ¬ loc k)) (a4 : ∀ k, loc k → w.heap.size ≤ k ∧ k < W.heap.size) (h : ansP P' W W' o1) : seenL P' w own loc W' := by
 obtain ⟨o2, b1, b2, b3⟩ := h
 have z1 := a2.size
 have z2 := b2.size
 exact ⟨o2, b1, Same.trans a2 b2 (fun k hk e => e.elim id (fun e => (a3 k e).elim id (fun e => by omega))), fun k e => (b3 k e).elim (a3 k) (fun e => .inr ⟨by omega, fun c => by have := (a4 k c).2; omega⟩), fun k e => ⟨(a4 k e).1, by have := (a4 k e).2; omega⟩⟩
theorem tadv_x (h : psm W x own V) (t : Int) (hl : V.tl.length ≤ 4294967296) :
 Calls Tryz.prog 101 #[pt V.tw 0, iv t] W fun e w' => ∃ da dc, e = .returned (.tuple #[.slice da (advO V.tn t V.tl).length dc, iv (advE V.tn t)]) ∧ ansP (withD (pv x { V with tn := advT V.tn t, tl := advL V.tn t V.tl }) da (advO V.tn t V.tl)) W w' own := by
 obtain ⟨g, h⟩ := h
 refine (advance_any t h.tw (by omega)).mono ?_
 rintro e w' ⟨out, two', rfl, a1, a2, a3, a4, a5, a6⟩
 obtain ⟨da, dc, rfl, b1, b2⟩ := dues_of a1
 have hz := a4.size
 have hm := h.turnT0 a3 a4 a5
 refine ⟨da, dc, rfl, fun k => (own k ∨ two' k) ∨ ∃ off, da = some (aq k off), ⟨fun k => own k ∨ two' k, ⟨_, hm⟩, fun k e => .inl e, b1, fun k => ⟨fun e => ⟨.inr e, ?_⟩, fun e => e.1.elim (fun c => absurd c e.2) id⟩, fun k e => ?_⟩, ⟨a4.os, a4.tape, a4.output, a4.size, fun k hk hn => a4.block k hk (fun e => hn (h.fp k (.inl e)))⟩, fun k e => ?_⟩
 ·obtain ⟨off, e⟩ := e
  obtain ⟨c1, c2, c3⟩ := b2 k off e
  rintro (d | d)
  ·have := h.lt k d; omega
  ·exact a6 k c3 d
 ·rcases e with e | ⟨off, e⟩
  ·exact hm.lt k e
  ·exact (b2 k off e).2.1
 ·rcases e with (e | e) | ⟨off, e⟩
  ·exact .inl e
  ·exact (a5 k e).imp (fun e => h.fp k (.inl e)) id
  ·exact .inr (b2 k off e).1
theorem aadv_x (h : psm W x own V) (t : Int) (hl : V.atl.length ≤ 4294967296) :
 Calls Tryz.prog 101 #[pt V.aw 0, iv t] W fun e w' => ∃ da dc, e = .returned (.tuple #[.slice da (advO V.an t V.atl).length dc, iv (advE V.an t)]) ∧ ansP (withD (pv x { V with an := advT V.an t, atl := advL V.an t V.atl }) da (advO V.an t V.atl)) W w' own := by
 obtain ⟨g, h⟩ := h
 refine (advance_any t h.aw (by omega)).mono ?_
 rintro e w' ⟨out, two', rfl, a1, a2, a3, a4, a5, a6⟩
 obtain ⟨da, dc, rfl, b1, b2⟩ := dues_of a1
 have hz := a4.size
 have hm := h.turnA0 a3 a4 a5
 refine ⟨da, dc, rfl, fun k => (own k ∨ two' k) ∨ ∃ off, da = some (aq k off), ⟨fun k => own k ∨ two' k, ⟨_, hm⟩, fun k e => .inl e, b1, fun k => ⟨fun e => ⟨.inr e, ?_⟩, fun e => e.1.elim (fun c => absurd c e.2) id⟩, fun k e => ?_⟩, ⟨a4.os, a4.tape, a4.output, a4.size, fun k hk hn => a4.block k hk (fun e => hn (h.fp k (.inr (.inl e))))⟩, fun k e => ?_⟩
 ·obtain ⟨off, e⟩ := e
  obtain ⟨c1, c2, c3⟩ := b2 k off e
  rintro (d | d)
  ·have := h.lt k d; omega
  ·exact a6 k c3 d
 ·rcases e with e | ⟨off, e⟩
  ·exact hm.lt k e
  ·exact (b2 k off e).2.1
 ·rcases e with (e | e) | ⟨off, e⟩
  ·exact .inl e
  ·exact (a5 k e).imp (fun e => h.fp k (.inr (.inl e))) id
  ·exact .inr (b2 k off e).1
end
theorem getD_inj {D : List (Int × Int)} (h : onceT D) {i j : Nat} (hi : i < D.length) (hj : j < D.length) (e : (D.getD i (0, 0)).2 = (D.getD j (0, 0)).2) : i = j := by
 have hp := (List.pairwise_iff_getElem).1 (show (D.map (·.2)).Pairwise (· ≠ ·) from h)
 have gi : (D.getD i (0, 0)).2 = (D.map (·.2))[i]'(by simpa using hi) := by simp [List.getD, List.getElem?_eq_getElem hi]
 have gj : (D.getD j (0, 0)).2 = (D.map (·.2))[j]'(by simpa using hj) := by simp [List.getD, List.getElem?_eq_getElem hj]
 rw [gi, gj] at e
 rcases Nat.lt_trichotomy i j with c | c | c
 ·exact absurd e (hp i j _ _ c)
 ·exact c
 ·exact absurd e.symm (hp j i _ _ c)
theorem once_adv {now t : Int} {L : List (Int × Int)} (h : onceT L) : onceT (advO now t L) := by
 unfold advO
 split
 ·unfold onceT; simp
 ·exact onceT_perm (adv_spec t _ L rfl).2.1.symm (onceT_filter _ h)
section
variable {w W : World} {x : Nat} {own : Nat → Prop} {V : PV} {S : Sal} {last : Nat} {an t : Int}
def knowsTo (S : Sal) (D : List (Int × Int)) (j k : Nat) : Prop := S.knows k ∧ ((S.os.getD k ord0).alive ∨ ∀ i, i < j → (D.getD i (0, 0)).2 ≠ (k : Int) + 1)
def psk (an t : Int) (x : Nat) (S : Sal) (last : Nat) (K : Nat → Prop) (w : World) (own : Nat → Prop) : Prop := ∃ V, psm w x own V ∧ relO V ({ S with now := t } : Sal) last K ∧ relA V.an V.atl V.att V.al S.C.keep S.ansL ∧ V.an = an ∧ V.tn = t
theorem keepK (an t : Int) (x : Nat) (S : Sal) (last : Nat) (K : Nat → Prop) : Keeps (psk an t x S last K) := ⟨fun ⟨_, h, _⟩ => psm_lt h, fun ⟨V, h, hr⟩ hz hk => ⟨V, psm_keep h hz hk, hr⟩⟩
theorem psm_x (h : psm W x own V) : x < W.heap.size := by
 obtain ⟨g, h⟩ := h
 exact h.xw
theorem psx_x (h : psx an x S last W own) : x < W.heap.size := by
 obtain ⟨V, h, _⟩ := h
 exact psm_x h
theorem sforget_s (da : Option Addr) (dc : Nat) (D : List (Int × Int)) (hlen : S.os.length ≤ 4294967296) (hR : restS S) (ht : S.now < t) (tn : Int) (htn : tn ≤ S.now) (hO : onceT D) (hn : D.length ≤ 4294967296)
 (hD : ∀ p, p ∈ D ↔ ∃ i, S.knows i ∧ tn < (S.os.getD i ord0).untl S.C ∧ (S.os.getD i ord0).untl S.C ≤ t ∧ p = ((S.os.getD i ord0).untl S.C, (i : Int) + 1))
 (h : psk an t x S last S.knows W own) (hd : dueL W da D) (hdis : ∀ b off, da = some (aq b off) → ¬ own b) :
 Calls Tryz.prog 102 #[pt x 0, .slice da D.length dc] W fun e w' => e = .returned (.tuple #[]) ∧ ansP (psx an x ({ S with now := t } : Sal) last) W w' own := by
 have hat : ∀ j, j < D.length → ∃ i, S.knows i ∧ tn < (S.os.getD i ord0).untl S.C ∧ (S.os.getD i ord0).untl S.C ≤ t ∧ D.getD j (0, 0) = ((S.os.getD i ord0).untl S.C, (i : Int) + 1) := fun j hj => (hD _).1 (getD_mem hj)
 have hij : ∀ j, j < D.length → S.knows ((D.getD j (0, 0)).2 - 1).toNat ∧ (S.os.getD ((D.getD j (0, 0)).2 - 1).toNat ord0).untl S.C ≤ t ∧ (D.getD j (0, 0)).2 = (((D.getD j (0, 0)).2 - 1).toNat : Int) + 1 := fun j hj => by
  obtain ⟨i, h1, h2, h3, h4⟩ := hat j hj
  have e : ((D.getD j (0, 0)).2 - 1).toNat = i := by rw [h4]; simp
  rw [e]
  exact ⟨h1, h3, by rw [h4]⟩
 have hK : ∀ j, j < D.length → knowsTo S D j ((D.getD j (0, 0)).2 - 1).toNat := fun j hj => by
  obtain ⟨a, b, c⟩ := hij j hj
  exact ⟨a, .inr (fun i hi e => by
   have := getD_inj hO (i := i) (j := j) (by omega) hj (e.trans c.symm)
   omega)⟩
 have h0 : psk an t x S last (knowsTo S D 0) W own := by
  have e : knowsTo S D 0 = S.knows := by
   funext k
   exact propext ⟨fun c => c.1, fun c => ⟨c, .inr (fun i hi => by omega)⟩⟩
  rw [e]; exact h
 refine (sforget_walk x dc da D W own (fun j => psk an t x S last (knowsTo S D j)) (fun j => keepK _ _ _ _ _ _) (fun j => pordOf S.C ((D.getD j (0, 0)).2 - 1).toNat (S.os.getD ((D.getD j (0, 0)).2 - 1).toNat ord0)) (fun _ => true) (fun j => ((S.os.getD ((D.getD j (0, 0)).2 - 1).toNat ord0).state != 13 && (S.os.getD ((D.getD j (0, 0)).2 - 1).toNat ord0).state != 12)) h0 hn ?_ (fun W' hs => dues_same hd hs hdis) ?_ ?_ ?_ ?_).mono ?_
 ·rintro j loc W' ⟨o1, ⟨V, hm, _⟩, _⟩
  exact psm_x hm
 ·rintro j loc W' hj ⟨o1, ⟨V, hm, hr, _⟩, _⟩
  obtain ⟨q, h1, h2⟩ := hr.known (hK j hj)
  have := oget_yes_x hm hr.ls.srt h2 h1
  rw [← (hij j hj).2.2] at this
  exact this
 ·intro j W' hj
  exact hasEnded_w _ _ _ _ _ _ W'
 ·intro j hj _ he loc W' hT
  refine seenL_call (keepK _ _ _ _ _ _ |>.lt h) (fun W1 o1 hq => ?_) W' hT
  obtain ⟨V, hm, hr, ha, han, htn'⟩ := hq
  obtain ⟨q, h1, h2⟩ := hr.known (hK j hj)
  have hql := (List.getElem?_eq_some_iff.1 h1).1
  obtain ⟨z, hz⟩ : ∃ z, V.ol[V.ol.length - 1]? = some z := ⟨V.ol[V.ol.length - 1], List.getElem?_eq_getElem (by omega)⟩
  have hol : V.ol.length ≤ S.os.length := hr.olen
  obtain ⟨a, b, c⟩ := hij j hj
  have hna : ¬ (S.os.getD ((D.getD j (0, 0)).2 - 1).toNat ord0).alive := by
   simp only [Bool.and_eq_true, bne_iff_ne, ne_eq] at he
   rintro (c | c)
   ·exact he.2 c
   ·exact he.1 c
  refine (oremove_x hm hr.ls (by omega) (listed_len hr.ls) h1 hz).mono ?_
  rintro e w' ⟨rfl, rm, o2, p1, p2, p3⟩
  refine ⟨rfl, o2, ⟨_, p1, ?_, ha, han, htn'⟩, p2, p3⟩
  have hfin := hr.drop hna (by rw [htn']; exact b) h1 hz rm
  have e : knowsTo S D (j + 1) = fun k => knowsTo S D j k ∧ k ≠ ((D.getD j (0, 0)).2 - 1).toNat := by
   funext k
   refine propext ⟨fun ⟨d1, d2⟩ => ⟨⟨d1, d2.imp id (fun d2 i hi => d2 i (by omega))⟩, fun e => ?_⟩, fun ⟨⟨d1, d2⟩, d3⟩ => ⟨d1, d2.imp id (fun d2 i hi => ?_)⟩⟩
   ·rcases d2 with d2 | d2
    ·rw [e] at d2; exact hna d2
    ·exact d2 j (by omega) (by rw [e]; exact c)
   ·by_cases ei : i = j
    ·rw [ei, c]; intro e; apply d3; omega
    ·exact d2 i (by omega)
  rw [e]
  exact hfin
 ·intro j hj hne W' o' hq
  have e : knowsTo S D (j + 1) = knowsTo S D j := by
   obtain ⟨a, b, c⟩ := hij j hj
   have hal : (S.os.getD ((D.getD j (0, 0)).2 - 1).toNat ord0).alive := by
    refine Classical.byContradiction fun hc => hne ⟨rfl, ?_⟩
    simp only [Bool.and_eq_true, bne_iff_ne, ne_eq]
    exact ⟨fun e => hc (.inr e), fun e => hc (.inl e)⟩
   funext k
   refine propext ⟨fun ⟨d1, d2⟩ => ⟨d1, d2.imp id (fun d2 i hi => d2 i (by omega))⟩, fun ⟨d1, d2⟩ => ⟨d1, ?_⟩⟩
   by_cases ek : k = ((D.getD j (0, 0)).2 - 1).toNat
   ·rw [ek]; exact .inl hal
   ·refine d2.imp id (fun d2 i hi => ?_)
    by_cases ei : i = j
    ·rw [ei, c]; omega
    ·exact d2 i (by omega)
  rw [e]
  exact hq
 ·rintro e w' ⟨rfl, hq⟩
  refine ⟨rfl, ansP_mono hq (fun W' o' hp => ?_)⟩
  obtain ⟨V, hm, hr, ha, han, _⟩ := hp
  refine ⟨V, hm, ?_, ha, han⟩
  have e : ({ S with now := t } : Sal).knows = knowsTo S D D.length := by
   funext k
   refine propext ((knows_at (by omega) k).trans ⟨fun ⟨d1, d2⟩ => ⟨d1, ?_⟩, fun ⟨d1, d2⟩ => ⟨d1, ?_⟩⟩)
   ·refine d2.imp id (fun d2 i hi e => ?_)
    obtain ⟨i', h1, h2, h3, h4⟩ := hat i hi
    rw [h4] at e
    have : i' = k := by simp at e; omega
    subst this
    omega
   ·refine Classical.or_iff_not_imp_left.2 (fun hna => ?_)
    have d2 := d2.resolve_left hna
    refine Int.lt_of_not_ge (fun hle => ?_)
    have hm' := (hD ((S.os.getD k ord0).untl S.C, (k : Int) + 1)).2 ⟨k, d1, by have := knows_fut hR d1; omega, hle, rfl⟩
    obtain ⟨i, hi, e⟩ := List.getElem_of_mem hm'
    exact d2 i hi (by simp [List.getD, List.getElem?_eq_getElem hi, e])
  rw [e]
  exact hr
theorem endL_saleK {S : Sal} (hK : saleK S) {st en : Int} (hen : en ≠ 12 ∧ en ≠ 13 ∧ en ≠ 14) : ∀ (ds : List Nat) , (∀ d ∈ ds, d < S.os.length) → saleK (endL S st en ds) := by
 intro ds
 induction ds generalizing S with
 | nil => intro _; exact hK
 | cons d ds ih =>
   intro h
   have e : endL S st en (d :: ds) = endL (if (S.os.getD d ord0).state = st then S.ends d en else S) st en ds := rfl
   rw [e]
   split
   ·exact ih (hK.ends (h d List.mem_cons_self) en (.inr hen) (fun c => absurd c hen.2.2)) (fun x hx => by rw [ends_len]; exact h x (List.mem_cons_of_mem _ hx))
   ·exact ih hK (fun x hx => h x (List.mem_cons_of_mem _ hx))
def idsOf (D : List (Int × Int)) : List Nat := D.map (fun p => (p.2 - 1).toNat)
open Classical in
theorem send_s (da : Option Addr) (dc : Nat) (D : List (Int × Int)) (hK : saleK S) (hn : D.length ≤ 4294967296) (fr into : Int) (hfr : fr = 12 ∨ fr = 13) (hin : into ≠ 12 ∧ into ≠ 13 ∧ into ≠ 14)
 (hD : ∀ p ∈ D, 1 ≤ p.2 ∧ (p.2 - 1).toNat < S.os.length)
 (h : psx an x S last W own) (hd : dueL W da D) (hdis : ∀ b off, da = some (aq b off) → ¬ own b) :
 Calls Tryz.prog 103 #[pt x 0, .slice da D.length dc, iv fr, iv into] W fun e w' => e = .returned (.tuple #[]) ∧ ansP (psx an x (endL S fr into (idsOf D)) last) W w' own := by
 have hat : ∀ j, j < D.length → 1 ≤ (D.getD j (0, 0)).2 ∧ ((D.getD j (0, 0)).2 - 1).toNat < S.os.length := fun j hj => hD _ (getD_mem hj)
 have htk : ∀ j, j < D.length → (idsOf D).take (j + 1) = (idsOf D).take j ++ [((D.getD j (0, 0)).2 - 1).toNat] := fun j hj => by
  unfold idsOf
  rw [← List.map_take, ← List.map_take, take_get D hj, List.map_append]
  rfl
 have hin' : ∀ d ∈ idsOf D, d < S.os.length := fun d hd => by
  obtain ⟨p, hp, rfl⟩ := List.mem_map.1 hd
  exact (hD p hp).2
 have hKj : ∀ j, saleK (endL S fr into ((idsOf D).take j)) := fun j => endL_saleK hK hin _ (fun d hd => hin' d (List.mem_of_mem_take hd))
 have hlj : ∀ j, (endL S fr into ((idsOf D).take j)).os.length = S.os.length := fun j => (endL_keep fr into _ S).2.2.2
 have hlen : (idsOf D).length = D.length := by unfold idsOf; simp
 refine (send_walk x dc da D fr into W own (fun j => psx an x (endL S fr into ((idsOf D).take j)) last) (fun j => keepX _ _ _ _)
  (fun j => if (endL S fr into ((idsOf D).take j)).knows ((D.getD j (0, 0)).2 - 1).toNat then pordOf (endL S fr into ((idsOf D).take j)).C ((D.getD j (0, 0)).2 - 1).toNat ((endL S fr into ((idsOf D).take j)).os.getD ((D.getD j (0, 0)).2 - 1).toNat ord0) else pord0)
  (fun j => decide ((endL S fr into ((idsOf D).take j)).knows ((D.getD j (0, 0)).2 - 1).toNat))
  (fun j => POrd.val ⟨(((D.getD j (0, 0)).2 - 1).toNat : Int) + 1, ((endL S fr into ((idsOf D).take j)).os.getD ((D.getD j (0, 0)).2 - 1).toNat ord0).cust, ((endL S fr into ((idsOf D).take j)).os.getD ((D.getD j (0, 0)).2 - 1).toNat ord0).units, into, ((endL S fr into ((idsOf D).take j)).os.getD ((D.getD j (0, 0)).2 - 1).toNat ord0).cents, (endL S fr into ((idsOf D).take j)).now + (endL S fr into ((idsOf D).take j)).C.keep⟩)
  h hn ?_ (fun W' hs => dues_same hd hs hdis) ?_ ?_ ?_).mono ?_
 ·rintro j loc W' ⟨o1, hp, _⟩
  exact psx_x hp
 ·rintro j loc W' hj ⟨o1, hp, _⟩
  obtain ⟨a, b⟩ := hat j hj
  by_cases hk : (endL S fr into ((idsOf D).take j)).knows ((D.getD j (0, 0)).2 - 1).toNat
  ·have := get_s hp hk
   rw [show (((D.getD j (0, 0)).2 - 1).toNat : Int) + 1 = (D.getD j (0, 0)).2 by omega] at this
   simp only [if_pos hk, decide_eq_true hk]
   exact this
  ·simp only [if_neg hk, decide_eq_false hk]
   exact get_none_s hp (fun i hi e => hk (by
    have : ((D.getD j (0, 0)).2 - 1).toNat = i := by omega
    rw [this]; exact hi))
 ·intro j hj hk hs loc W' hT
  have hk' := of_decide_eq_true hk
  simp only [if_pos hk'] at hs ⊢
  have hs' : ((endL S fr into ((idsOf D).take j)).os.getD ((D.getD j (0, 0)).2 - 1).toNat ord0).state = fr := by simpa [pordOf] using hs
  refine seenL_call ((keepX an x S last).lt h) (fun W1 o1 hq => ?_) W' hT
  have := ends_s hq (hKj j) hk' into ⟨hin.1, hin.2.1⟩
  simp only [htk j hj, endL_snoc]
  rw [if_pos hs']
  exact this
 ·intro j hj hne W' o' hq
  simp only [htk j hj, endL_snoc]
  rw [if_neg]
  ·exact hq
  ·intro hs
   have hk : (endL S fr into ((idsOf D).take j)).knows ((D.getD j (0, 0)).2 - 1).toNat := ⟨by rw [hlj]; exact (hat j hj).2, .inl (by unfold Ord.alive; rw [hs]; exact hfr)⟩
   refine hne ⟨decide_eq_true hk, ?_⟩
   simp only [if_pos hk]
   simpa [pordOf] using hs
 ·rintro e w' ⟨rfl, hq⟩
  refine ⟨rfl, ?_⟩
  rw [show (idsOf D).take D.length = idsOf D from List.take_of_length_le (by omega)] at hq
  exact hq
def pcx (an : Int) (x : Nat) (last : Nat) (S : Sal) (t : Int) (w : World) (own : Nat → Prop) : Prop := ∃ V, psm w x own V ∧ relO V ({ S with now := t } : Sal) last S.knows ∧ relA V.an V.atl V.att V.al S.C.keep S.ansL ∧ V.an = an ∧ V.tn ≤ S.now
theorem keepC (an : Int) (x : Nat) (last : Nat) (S : Sal) (t : Int) : Keeps (pcx an x last S t) := ⟨fun ⟨_, h, _⟩ => psm_lt h, fun ⟨V, h, hr⟩ hz hk => ⟨V, psm_keep h hz hk, hr⟩⟩
theorem stop_s (hJ : salJ S) (hR : restP S) (hS : stopAt S t) (ht : t ≤ 4611686018427387904) (h : pcx an x last S t W own) :
 Calls Tryz.prog 72 #[pt x 0] W fun e w' => e = .returned (.tuple #[]) ∧ ansP (psx an x (S.round t) last) W w' own := by
 obtain ⟨V, hm, hr, ha, han, htn⟩ := h
 have hlt := hS.later hR.R
 have hw := psm_lt hm
 have h0 := hJ.I.now
 have hT : advT V.tn t = t := by unfold advT; rw [if_neg (by omega)]
 have hdue := hr.due (t := t) (by omega)
 have htl : V.tl.length ≤ 4294967296 := by
  have h1 : V.tl.length ≤ S.os.length := hr.tlen
  have := hJ.len
  omega
 have hr1 := hr.advance (t := t) (by omega) (Int.le_refl _)
 have hO := once_adv (now := V.tn) (t := t) hr.once
 have hDl : (advO V.tn t V.tl).length ≤ 4294967296 := by
  refine Nat.le_trans ?_ htl
  unfold advO
  rw [if_neg (by omega)]
  rw [(adv_spec t _ V.tl rfl).2.1.length_eq]
  exact List.length_filter_le _ _
 have hcell : ∀ {W' o'}, psm W' x o' V → x < W'.heap.size ∧ W'.cell? (aq x 10) = some (pt V.tw 0) ∧ W'.cell? (aq x 8) = some (iv t) := fun {W' o'} hp => by
  obtain ⟨g, hp⟩ := hp
  refine ⟨hp.xw, hp.cell 10 _ rfl, ?_⟩
  have : W'.cell? (aq x 8) = some (iv V.now) := hp.cell 8 _ rfl
  rw [hr.now] at this
  exact this
 have hids : ∀ p ∈ advO V.tn t V.tl, 1 ≤ p.2 ∧ (p.2 - 1).toNat < S.os.length := fun p hp => by
  obtain ⟨i, h1, _, _, rfl⟩ := (hdue p).1 hp
  exact ⟨by simp; omega, by simpa using h1.1⟩
 have hmem : ∀ k, k ∈ idsOf (advO V.tn t V.tl) ↔ S.knows k ∧ (S.os.getD k ord0).untl S.C ≤ t := fun k => by
  unfold idsOf
  rw [List.mem_map]
  constructor
  ·rintro ⟨p, hp, rfl⟩
   obtain ⟨i, h1, _, h3, rfl⟩ := (hdue p).1 hp
   have e : ((i : Int) + 1 - 1).toNat = i := by omega
   simp only [e]
   exact ⟨h1, h3⟩
  ·rintro ⟨h1, h2⟩
   refine ⟨_, (hdue _).2 ⟨k, h1, ?_, h2, rfl⟩, by simp⟩
   have := knows_fut hR.R h1
   show V.tn < _
   exact Int.lt_of_le_of_lt htn this
 have hK0 : saleK ({ S with now := t } : Sal) := ⟨salI_now hJ.I ⟨by omega, ht⟩, hJ.len, hR.R.lease, hR.R.wait, hR.R.keep⟩
 have hdue12 : ∀ k, k < S.os.length → (S.os.getD k ord0).alive → (k ∈ idsOf (advO V.tn t V.tl) ↔ (S.os.getD k ord0).upto = t) := fun k hk hal => by
  have hm' := hS.alive _ (ord_mem hk) hal
  rw [hmem, untl_alive hal]
  constructor
  ·rintro ⟨_, h2⟩; omega
  ·intro e; exact ⟨⟨hk, .inl hal⟩, by omega⟩
 have e1 : endL ({ S with now := t } : Sal) 13 15 (idsOf (advO V.tn t V.tl)) = pastN ({ S with now := t } : Sal) 13 15 ({ S with now := t } : Sal).os.length :=
  endL_past (by decide) (fun d hd => ((hmem d).1 hd).1.1) (fun k hk hs => hdue12 k hk (.inr hs))
 have hK1 : saleK (pastN ({ S with now := t } : Sal) 13 15 ({ S with now := t } : Sal).os.length) := by
  rw [← e1]
  exact endL_saleK hK0 (by decide) _ (fun d hd => ((hmem d).1 hd).1.1)
 have hK2 : saleK (({ S with now := t } : Sal).past 13 15) := hK1.promote
 have hl2 : (({ S with now := t } : Sal).past 13 15).os.length = S.os.length := past_len _ 13 15
 have hn2 : (({ S with now := t } : Sal).past 13 15).now = t := (past_keep _ 13 15).2.1
 have e2 : endL (({ S with now := t } : Sal).past 13 15) 12 17 (idsOf (advO V.tn t V.tl)) = pastN (({ S with now := t } : Sal).past 13 15) 12 17 (({ S with now := t } : Sal).past 13 15).os.length :=
  endL_past (by decide) (fun d hd => by rw [hl2]; exact ((hmem d).1 hd).1.1) (fun k hk hs => by
   rw [hl2] at hk
   have e := past_get12 _ hs
   rw [e] at hs ⊢
   rw [hn2]
   exact hdue12 k hk (.inl hs))
 have hK3 : saleK (pastN (({ S with now := t } : Sal).past 13 15) 12 17 (({ S with now := t } : Sal).past 13 15).os.length) := by
  rw [← e2]
  exact endL_saleK hK2 (by decide) _ (fun d hd => by rw [hl2]; exact ((hmem d).1 hd).1.1)
 refine stop_walk x V.tw t (advE V.tn t) (advO V.tn t V.tl) W own (pv x V) (pv x { V with tn := advT V.tn t, tl := advL V.tn t V.tl }) (psx an x ({ S with now := t } : Sal) last) (psx an x (pastN ({ S with now := t } : Sal) 13 15 ({ S with now := t } : Sal).os.length) last) (psx an x (({ S with now := t } : Sal).past 13 15) last) (psx an x (pastN (({ S with now := t } : Sal).past 13 15) 12 17 (({ S with now := t } : Sal).past 13 15).os.length) last) (psx an x (S.round t) last) (keepV _ _) (keepV _ _) (keepX _ _ _ _) (keepX _ _ _ _) (keepX _ _ _ _) (keepX _ _ _ _) (keepX _ _ _ _) hm ?_ ?_ ?_ ?_ ?_ ?_ ?_ ?_
 ·rintro loc W' ⟨o1, hp, _⟩
  exact hcell hp
 ·rintro da loc W' ⟨o1, ⟨o0, hp, _⟩, _⟩
  obtain ⟨g, hp⟩ := (show psm W' x o0 _ from hp)
  refine ⟨hp.xw, hp.cell 10 _ rfl, ?_⟩
  have : W'.cell? (aq x 8) = some (iv V.now) := hp.cell 8 _ rfl
  rw [hr.now] at this
  exact this
 ·rintro loc W' ⟨o1, hp, a2, a3, a4⟩
  refine (tadv_x hp t htl).mono ?_
  rintro e w' ⟨da, dc, rfl, hq⟩
  exact ⟨da, dc, rfl, seenL_step a2 a3 a4 hq⟩
 ·intro da dc loc W' hT'
  refine seenL_call hw (withD_call (keepX _ _ _ _) (fun W1 o1 hp hd hdis => ?_)) W' hT'
  refine sforget_s da dc _ hJ.len hR.R hlt V.tn htn hO hDl hdue ⟨_, hp, ?_, ha, han, hT⟩ hd hdis
  rw [hT]
  exact hr1
 ·intro da dc loc W' hT'
  refine seenL_call hw (withD_call (keepX _ _ _ _) (fun W1 o1 hp hd hdis => ?_)) W' hT'
  rw [← e1]
  exact send_s da dc _ hK0 hDl 13 15 (.inr rfl) (by decide) hids hp hd hdis
 ·intro da loc W' hT'
  exact seenL_call hw (withD_call (keepX _ _ _ _) (fun W1 o1 hp hd hdis => promote_s hp hK1)) W' hT'
 ·intro da dc loc W' hT'
  refine seenL_call hw (withD_call (keepX _ _ _ _) (fun W1 o1 hp hd hdis => ?_)) W' hT'
  rw [← e2]
  exact send_s da dc _ hK2 hDl 12 17 (.inl rfl) (by decide) (fun p hp => by rw [hl2]; exact hids p hp) hp hd hdis
 ·intro da loc W' hT'
  exact seenL_call hw (withD_call (keepX _ _ _ _) (fun W1 o1 hp hd hdis => promote_s hp hK3)) W' hT'
end
end
section
theorem withD_mono {P P' : World → (Nat → Prop) → Prop} {da : Option Addr} {D : List (Int × Int)} (hp : ∀ W o, P W o → P' W o) (W : World) (o : Nat → Prop) (h : withD P da D W o) : withD P' da D W o := by
 obtain ⟨o0, a1, a⟩ := h
 exact ⟨o0, hp _ _ a1, a⟩
theorem PMem.clock {W : World} {x : Nat} {own : Nat → Prop} {V : PV} {g : PG} (h : PMem W x own V g) (t : Int) : psmAns W (W.setCell (aq x 8) (iv t)) x own { V with now := t } := by
 have hs0 : Same (fun k => k = x) W (W.setCell (aq x 8) (iv t)) := same_one (Same.of_below (Below.refl _ _)) x _ _ rfl
 have hs' : Same (g.xs V x) W (W.setCell (aq x 8) (iv t)) := same_mono hs0 (fun k e => .inl e)
 refine h.turn hs' (V' := { V with now := t }) (g' := g) ?_ rfl ⟨rfl, rfl, rfl⟩ ⟨rfl, rfl, rfl, rfl⟩ ⟨rfl, rfl, rfl, rfl⟩ ⟨h.stay hs' h.ot.1, h.ot.2, fun _ e => .inl e⟩ ⟨h.stay hs' h.qt.1, h.qt.2, fun _ e => .inl e⟩ ⟨h.stay hs' h.qz.1, h.qz.2, fun _ e => .inl e⟩ ⟨h.stay hs' h.lu.1, h.lu.2, fun _ e => .inl e⟩ ⟨h.stay hs' h.att.1, h.att.2, fun _ e => .inl e⟩ ⟨owns_keep h.orow (fun k e => Below.heap_setCell _ (aq x 8) _ _ (fun c => own_type h.orow h.blk (by decide) (by rw [e, show k = x from c]))), fun k e => .inl e⟩ ⟨owns_keep h.arow (fun k e => Below.heap_setCell _ (aq x 8) _ _ (fun c => own_type h.arow h.blk (by decide) (by rw [e, show k = x from c]))), fun k e => .inl e⟩
 rw [Joins.block_setCell h.blk]
 unfold pcells
 rfl
section
variable {w W : World} {x : Nat} {own : Nat → Prop} {V : PV} {S : Sal} {last : Nat} {an t : Int}
def paf (x : Nat) (S : Sal) (last : Nat) (V : PV) (to : Int) (D : List (Int × Int)) (j : Nat) (w : World) (own : Nat → Prop) : Prop :=
 ∃ V', psm w x own V' ∧ relO V' ({ S with now := to } : Sal) last S.knows ∧ Listed PAns.t V'.att V'.al ∧ (∀ a, a ∈ V'.al ↔ a ∈ V.al ∧ ∀ i, i < j → a.t ≠ (D.getD i (0, 0)).2) ∧ V'.an = to ∧ V'.atl = advL V.an to V.atl
theorem keepAF (x : Nat) (S : Sal) (last : Nat) (V : PV) (to : Int) (D : List (Int × Int)) (j : Nat) : Keeps (paf x S last V to D j) := ⟨fun ⟨_, h, _⟩ => psm_lt h, fun ⟨V, h, hr⟩ hz hk => ⟨V, psm_keep h hz hk, hr⟩⟩
theorem aforget_s {S00 : Sal} {to : Int} (h00 : restP S00) (hC : S.C = S00.C) (hL : S.ansL = S00.ansL) (hn : S00.now ≤ to) (hnow : S.now ≤ to) (hk : ∀ i, S.knows i → to < (S.os.getD i ord0).untl S.C) (h : pcx S00.now x last S to W own) :
 Calls Tryz.prog 73 #[pt x 23, iv to] W fun e w' => e = .returned (.tuple #[]) ∧ ansP (psx to x ({ S with now := to } : Sal) last) W w' own := by
 obtain ⟨V, hm, hr, ha, han, htn⟩ := h
 have hw := psm_lt hm
 have hle : V.an ≤ to := by rw [han]; exact hn
 have ha0 : relA S00.now V.atl V.att V.al S00.C.keep S00.ansL := by rw [← han, ← hC, ← hL]; exact ha
 have hcnt := answers_count ha0
 have hal : V.al.length ≤ 4294967296 := by have := h00.alen; have := h00.R.tokens.2; omega
 have hz2 : V.atl.length ≤ V.al.length := by
  have := nodup_sub_len (V.atl.map (fun p : Int × Int => p.2)) (V.al.map PAns.t) (show (V.atl.map (fun p : Int × Int => p.2)).Nodup from ha.once) (fun y hy => by
   obtain ⟨p, hp, rfl⟩ := List.mem_map.1 hy
   obtain ⟨j, j1, j2, rfl⟩ := (ha.tl p).1 hp
   obtain ⟨b, hb', e, _⟩ := ha.reqs j j1 j2
   exact List.mem_map.2 ⟨b, hb', e⟩)
  simpa using this
 have hO := once_adv (now := V.an) (t := to) ha.once
 have hperm : (advO V.an to V.atl).Perm (V.atl.filter (fun p => decide (p.1 ≤ to))) := by
  unfold advO
  rw [if_neg (by omega)]
  exact (adv_spec to _ V.atl rfl).2.1
 have hDl : (advO V.an to V.atl).length ≤ 4294967296 := by
  rw [hperm.length_eq]
  have := List.length_filter_le (fun p : Int × Int => decide (p.1 ≤ to)) V.atl
  omega
 have hD : ∀ p ∈ advO V.an to V.atl, ∃ a ∈ V.al, a.t = p.2 := fun p hp => by
  obtain ⟨j, j1, j2, rfl⟩ := (ha.tl p).1 (List.mem_filter.1 (hperm.mem_iff.1 hp)).1
  obtain ⟨b, hb', e, _⟩ := ha.reqs j j1 j2
  exact ⟨b, hb', e⟩
 have hT : advT V.an to = to := by unfold advT; rw [if_neg (by omega)]
 refine (aforget_walk x V.aw to (advE V.an to) (advO V.an to V.atl) W own (pv x V) (paf x S last V to (advO V.an to V.atl)) (keepV _ _) (fun j => keepAF _ _ _ _ _ _ _) hm hDl ?_ ?_ ?_).mono ?_
 ·rintro loc W' ⟨o1, ⟨g, hp⟩, _⟩
  exact ⟨hp.xw, hp.cell 23 _ rfl⟩
 ·rintro loc W' ⟨o1, hp, a2, a3, a4⟩
  refine (aadv_x hp to (by omega)).mono ?_
  rintro e w' ⟨da, dc, rfl, hq⟩
  refine ⟨da, dc, rfl, seenL_step a2 a3 a4 (ansP_mono hq (withD_mono (fun W1 o1 hp => ?_)))⟩
  exact ⟨_, hp, ⟨hr.C, hr.now, hr.last, hr.tn, hr.once, hr.tl, hr.kin, hr.live, hr.ls, hr.ol, hr.turns, hr.sizes, hr.held, hr.sold, hr.lu, hr.cust⟩, ha.ls, fun a => ⟨fun c => ⟨c, fun i hi => by omega⟩, fun c => c.1⟩, hT, rfl⟩
 ·intro da j hj loc W' hT'
  refine seenL_call hw (withD_call (keepAF _ _ _ _ _ _ _) (fun W1 o1 hp hd hdis => ?_)) W' hT'
  obtain ⟨V', q1, q2, q3, q4, q5, q6⟩ := hp
  obtain ⟨a, b1, b2⟩ := hD _ (getD_mem hj)
  have hin : a ∈ V'.al := (q4 a).2 ⟨b1, fun i hi e => by
   have := getD_inj hO (i := i) (j := j) (by omega) hj (e.symm.trans b2)
   omega⟩
  obtain ⟨q, hq⟩ := List.mem_iff_getElem?.1 hin
  have hql := (List.getElem?_eq_some_iff.1 hq).1
  obtain ⟨z, hz⟩ : ∃ z, V'.al[V'.al.length - 1]? = some z := ⟨V'.al[V'.al.length - 1], List.getElem?_eq_getElem (by omega)⟩
  have hl' : V'.al.length ≤ V.al.length := by
   have := nodup_sub_len (V'.al.map PAns.t) (V.al.map PAns.t) q3.once (fun y hy => by
    obtain ⟨p, hp, rfl⟩ := List.mem_map.1 hy
    exact List.mem_map.2 ⟨p, ((q4 p).1 hp).1, rfl⟩)
   simpa using this
  rw [← b2]
  refine (aremove_x q1 q3 (by omega) (listed_len q3) hq hz).mono ?_
  rintro e w' ⟨rfl, rm, o2, p1, p2, p3⟩
  refine ⟨rfl, o2, ⟨_, p1, ⟨q2.C, q2.now, q2.last, q2.tn, q2.once, q2.tl, q2.kin, q2.live, q2.ls, q2.ol, q2.turns, q2.sizes, q2.held, q2.sold, q2.lu, q2.cust⟩, listed_drop q3 hq hz, fun c => ?_, q5, q6⟩, p2, p3⟩
  show c ∈ dropAt V'.al q z ↔ _
  rw [mem_dropAt q3.once hq hz, q4]
  constructor
  ·rintro ⟨⟨d1, d2⟩, d3⟩
   refine ⟨d1, fun i hi => ?_⟩
   by_cases ei : i = j
   ·rw [ei, ← b2]; exact d3
   ·exact d2 i (by omega)
  ·rintro ⟨d1, d2⟩
   exact ⟨⟨d1, fun i hi => d2 i (by omega)⟩, by rw [b2]; exact d2 j (by omega)⟩
 ·rintro e w' ⟨rfl, hq⟩
  refine ⟨rfl, ansP_mono hq (fun W' o' hp => ?_)⟩
  obtain ⟨V', q1, q2, q3, q4, q5, q6⟩ := hp
  refine ⟨V', q1, ?_, ?_, q5⟩
  ·rw [last_knows hnow hk]; exact q2
  ·have := ha.forget hle q3 (fun a => (q4 a).trans ⟨fun c => ⟨c.1, fun d hd => ?_⟩, fun c => ⟨c.1, fun i hi => c.2 _ (getD_mem hi)⟩⟩)
   ·rw [q5, q6]; exact this
   ·obtain ⟨i, hi, e⟩ := List.getElem_of_mem hd
    have := c.2 i hi
    simpa [List.getD, List.getElem?_eq_getElem hi, e] using this
theorem goOn_s {to : Int} (hJ : salJ S) (hR : restP S) (hto : S.now ≤ to) (hmax : to ≤ 4611686018427387904) (h : psx S.now x S last W own) :
 Calls Tryz.prog 47 #[pt x 0, iv to] W fun e w' => e = .returned (.tuple #[]) ∧ ansP (fun W o => psx to x (S.tickTo to) last W o ∧ restP (S.tickTo to)) W w' own := by
 refine goOn_walk (σ := Sal) x to (fun T => psx S.now x T last) (fun T W o => psx to x (T.tickTo to) last W o ∧ restP (T.tickTo to)) (pcx S.now x last) (fun T => keepX _ _ _ _) (fun T t => keepC _ _ _ _ _) (fun T => ⟨fun h => (keepX _ _ _ _).lt h.1, fun h hz hk => ⟨(keepX _ _ _ _).keep h.1 hz hk, h.2⟩⟩) (fun T => (salJ T ∧ restP T) ∧ T.now ≤ to ∧ T.ansL = S.ansL ∧ T.C = S.C) (fun T => firstT T.tset) (fun T => firstB T.tset) (fun T => T.round (firstT T.tset).1) Sal.todo (fun T => (firstT T.tset).1 ≤ to) (fun _ => Iff.rfl) Sal.now (fun T hT => ⟨hT.2.1, fun hb => Int.le_of_lt ((first_stop hb).later hT.1.2.R)⟩) ?_ ?_ ?_ ?_ ?_ ?_ S W own ⟨⟨hJ, hR⟩, hto, rfl, rfl⟩ h
 ·rintro T ⟨⟨hJ', hR'⟩, h1, h2, h3⟩ W' o' ⟨V, ⟨g, hm⟩, hr, ha, han⟩
  refine ⟨hm.ownx, fun t hlt => ?_⟩
  obtain ⟨o2, p1, p2, p3⟩ := hm.clock t
  refine ⟨o2, ⟨_, p1, ⟨hr.C, rfl, hr.last, Int.le_trans hr.tn hlt, hr.once, hr.tl, hr.kin, hr.live, hr.ls, hr.ol, hr.turns, hr.sizes, hr.held, hr.sold, hr.lu, hr.cust⟩, ha, han, hr.tn⟩, p2, p3⟩
 ·rintro T _ W' o' ⟨V, ⟨g, hm⟩, _⟩
  exact ⟨hm.xw, ⟨_, hm.cell 8 _ rfl⟩, row_free hm.blk 8⟩
 ·rintro T ⟨⟨hJ', hR'⟩, h1, h2, h3⟩ W' o' ⟨V, ⟨g, hm⟩, hr, ha, han⟩
  refine ⟨V.tw, hm.cell 10 _ rfl, fun W2 hb => ?_⟩
  have := wfirst_any (pw_below hm.tw hb)
  rw [(hr.firstK hR'.R).1, (hr.firstK hR'.R).2] at this
  exact this
 ·rintro T ⟨⟨hJ', hR'⟩, h1, h2, h3⟩ hb hc W' o' hp
  exact stop_s hJ' hR' (first_stop hb) (by omega) hp
 ·rintro T ⟨⟨hJ', hR'⟩, h1, h2, h3⟩ hb hc
  have hS := first_stop hb
  have hlt := hS.later hR'.R
  have h0 := hJ'.I.now
  obtain ⟨a, b, c, d⟩ := round_keeps T (firstT T.tset).1
  have ht := tick_stopAt hR'.R h0.1 hc hS.alive
  refine ⟨⟨⟨round_salJ hJ' ⟨by omega, by omega⟩, round_restP hS hR'⟩, by rw [b]; exact hc, c.trans h2, a.trans h3⟩, stop_todo hS hR'.R h0.1, ?_⟩
  simp only [← ht]
 ·rintro T ⟨⟨hJ', hR'⟩, h1, h2, h3⟩ hc W' o' hp
  have hk : ∀ i, T.knows i → to < (T.os.getD i ord0).untl T.C := fun i hi => by
   cases hb : firstB T.tset with
   | false => exact absurd hi (first_none hb i)
   | true =>
     have := (first_stop hb).min i hi
     have := hc hb
     omega
  rw [show (fun W o => psx to x (T.tickTo to) last W o ∧ restP (T.tickTo to)) = (fun W o => psx to x ({ T with now := to } : Sal) last W o ∧ restP ({ T with now := to } : Sal)) by rw [last_tick hk]]
  refine (aforget_s hR h3 h2 hto h1 hk hp).mono ?_
  rintro e w' ⟨rfl, hq⟩
  exact ⟨rfl, ansP_mono hq (fun W o hp => ⟨hp, last_restP h1 hk hR'⟩)⟩
end
end
end Go.Proofs.YtfhncfghblkgeabGreat
