import Derived.Test.YtfhncfghblkgeabGreatL46
set_option maxRecDepth 100000
set_option maxHeartbeats 2000000
namespace Go.Proofs.YtfhncfghblkgeabGreat
open Go.RowKit
theorem again_walk (i' j' : Int) (n m1 d : Nat) (n0 n1 n2 n3 n4 n5 n6 : Int) (v7 : Value) (sa : Option Addr) (sc : Nat) (ps : List Stp) (rl : List Rep) (w : World) (Q : Nat → World → (Nat → Prop) → Prop) (KQ : ∀ x, Keeps (Q x)) (A0 A1 A2 : Nat → Nat → World → (Nat → Prop) → Prop) (KA0 : ∀ a b, Keeps (A0 a b)) (KA1 : ∀ a b, Keeps (A1 a b)) (KA2 : ∀ a b, Keeps (A2 a b)) (vb fb : Bool) (far : Int) (hn : n ≤ 4611686018427387904) (hps : stepsAt w sa n ps) (hm : 0 < n → m1 < n ∧ m1 + d < n)
 (HO : Hid (∀ W, Below w.heap.size w W → Calls Tryz.prog 7 #[.agg #[iv n0, iv n1, iv n2, iv n3, iv n4, iv n5, iv n6, v7, .slice sa n sc]] W fun e w' => ∃ x own, e = .returned (.tuple #[pt x 0, .bool true]) ∧ Q x w' own ∧ (∀ k, own k → W.heap.size ≤ k) ∧ Below W.heap.size W w'))
 (HP0 : Hid (∀ a b W o1 o2 o, Q a W o1 → Q b W o2 → (∀ k, o1 k → ¬ o2 k) → (∀ k, o k ↔ o1 k ∨ o2 k) → A0 a b W o))
 (HRa : Hid (∀ a b W o, A0 a b W o → stepsAt W sa n ps → (∀ c off, sa = some (aq c off) → ps ≠ [] → ¬ o c) → Calls Tryz.prog 8 #[.agg #[iv n0, iv n1, iv n2, iv n3, iv n4, iv n5, iv n6, v7, .slice sa n sc], pt a 0, iv (-1), iv 0] W fun e w' => ∃ la lc, e = .returned (.tuple #[.slice la n lc, .agg #[iv 0, iv 0, iv 0, iv 0], .bool true]) ∧ repsAt w' la n rl ∧ (∀ g off, la = some (aq g off) → W.heap.size ≤ g ∧ g < w'.heap.size) ∧ ∃ own', A1 a b w' own' ∧ Same o W w' ∧ (∀ k, own' k → o k ∨ W.heap.size ≤ k) ∧ (∀ g off, la = some (aq g off) → ¬ own' g)))
 (HPk1 : Hid (0 < n → ∀ W, Calls Tryz.prog 9 #[iv i', iv n] W fun e w' => e = .returned (iv m1) ∧ Below W.heap.size W w'))
 (HPk2 : Hid (0 < n → ∀ W, Calls Tryz.prog 9 #[iv j', iv ((n : Int) - m1)] W fun e w' => e = .returned (iv d) ∧ Below W.heap.size W w'))
 (HIs : Hid (∀ W, Calls Tryz.prog 10 #[.agg #[iv (ps.getD m1 stp0).k, iv (ps.getD m1 stp0).t, iv (ps.getD m1 stp0).c, iv (ps.getD m1 stp0).u, iv (ps.getD m1 stp0).o]] W fun e w' => e = .returned (.bool vb) ∧ Below W.heap.size W w'))
 (HFr : Hid (0 < n → ∀ W, stepsAt W sa n ps → Calls Tryz.prog 11 #[.agg #[iv n0, iv n1, iv n2, iv n3, iv n4, iv n5, iv n6, v7, .slice sa n sc], iv m1] W fun e w' => e = .returned (.bool fb) ∧ Below W.heap.size W w'))
 (HSp : Hid (0 < n → ∀ W, stepsAt W sa n ps → Calls Tryz.prog 12 #[.agg #[iv n0, iv n1, iv n2, iv n3, iv n4, iv n5, iv n6, v7, .slice sa n sc], iv m1, iv ((m1 : Int) + d)] W fun e w' => e = .returned (iv far) ∧ Below W.heap.size W w'))
 (HRb : Hid (0 < n → vb = true → (ps.getD m1 stp0).k ≠ 4 → fb = true → far < n5 → (rl.getD m1 rep0).kind ≠ 11 → ∀ a b W o, A1 a b W o → stepsAt W sa n ps → (∀ c off, sa = some (aq c off) → ps ≠ [] → ¬ o c) → Calls Tryz.prog 8 #[.agg #[iv n0, iv n1, iv n2, iv n3, iv n4, iv n5, iv n6, v7, .slice sa n sc], pt b 0, iv m1, iv ((m1 : Int) + d)] W fun e w' => ∃ la lc, e = .returned (.tuple #[.slice la n lc, .agg #[iv (rl.getD m1 rep0).kind, iv (rl.getD m1 rep0).order, iv (rl.getD m1 rep0).cents, iv (rl.getD m1 rep0).upto], .bool true]) ∧ repsAt w' la n rl ∧ (∀ g off, la = some (aq g off) → W.heap.size ≤ g ∧ g < w'.heap.size) ∧ ∃ own', A2 a b w' own' ∧ Same o W w' ∧ (∀ k, own' k → o k ∨ W.heap.size ≤ k) ∧ (∀ g off, la = some (aq g off) → ¬ own' g)))
 (HSm : Hid (∀ W la lb ca cb, repsAt W la n rl → repsAt W lb n rl → Calls Tryz.prog 13 #[.slice la n ca, .slice lb n cb] W fun e w' => e = .returned (.bool true) ∧ Below W.heap.size W w'))
 (HAl : Hid (∀ a b W o, A2 a b W o → stepsAt W sa n ps → (∀ c off, sa = some (aq c off) → ps ≠ [] → ¬ o c) → Calls Tryz.prog 14 #[.agg #[iv n0, iv n1, iv n2, iv n3, iv n4, iv n5, iv n6, v7, .slice sa n sc], pt a 0, pt b 0] W fun e w' => e = .returned (.bool true) ∧ ansP (A2 a b) W w' o)) :
 Calls Tryz.prog 3 #[.agg #[iv n0, iv n1, iv n2, iv n3, iv n4, iv n5, iv n6, v7, .slice sa n sc], iv i', iv j'] w fun e w' => e = .returned (.bool true) ∧ Below w.heap.size w w' := by
 have hlen : ps.length = n := hps.1
 go_enter Tryz.func3, Tryz.ntmps3
 go_wp2_with fail
 refine (HO.out _ ((Below.refl _ _).alloc (Nat.le_refl _) _)).mono ?_
 rintro e W1 ⟨xa, oa, rfl, hqa, hfa, b1⟩
 have hb1 : Below w.heap.size w W1 := Below.trans ((Below.refl _ _).alloc (Nat.le_refl _) _) (b1.mono (by simp))
 have x1 : Hid _ := (b1.block w.heap.size (by simp)).trans (heap_alloc_new w (.cells #[iv n0, iv n1, iv n2, iv n3, iv n4, iv n5, iv n6, v7, .slice sa n sc] 27))
 have hfa1 : ∀ k, oa k → w.heap.size + 1 ≤ k := fun k e => Nat.le_trans (by simp) (hfa k e)
 obtain ⟨k0, k1, k2, k3, k4, k5, k6, k7, k8⟩ := nineK x1.out
 have l1 : w.heap.size < W1.heap.size := (blt x1.out)
 replace hqa : Hid _ := hqa
 replace hfa1 : Hid _ := hfa1
 replace hb1 : Hid _ := hb1
 clear b1 hfa
 go_wp2_with fail
 refine (HO.out _ hb1.out).mono ?_
 rintro e W2 ⟨xb, ob, rfl, hqb, hfb, b2⟩
 clear k0 k1 k2 k3 k4 k5 k6 k7 k8
 have hb2 : Hid (Below w.heap.size w W2) := hb1.out.trans (b2.mono hb1.out.size)
 have x2 : Hid _ := (b2.block w.heap.size l1).trans x1.out
 have hqa2 : Q xa W2 oa := (KQ xa).keep hqa.out b2.size (fun k e => b2.block k ((KQ xa).lt hqa.out k e))
 have hdis2 : ∀ k, oa k → ¬ ob k := fun k e c => by
  have h1 := (KQ xa).lt hqa.out k e
  have h2 := hfb k c
  omega
 obtain ⟨own2, hiff⟩ : ∃ own2 : Nat → Prop, ∀ k, own2 k ↔ oa k ∨ ob k := ⟨fun k => oa k ∨ ob k, fun _ => Iff.rfl⟩
 have hown : Hid (∀ k, own2 k → w.heap.size + 1 ≤ k) := fun k e => ((hiff k).1 e).elim (hfa1.out k) (fun e => by have := hfb k e; omega)
 have hp2 : Hid (A0 xa xb W2 own2) := HP0.out xa xb W2 oa ob own2 hqa2 hqb hdis2 hiff
 have l2 : w.heap.size < W2.heap.size := (blt x2.out)
 have HS2 : Hid (∀ W, Same own2 W2 W → stepsAt W sa n ps) := fun W hs => ⟨hps.1, fun hne => by
  obtain ⟨b, off, e, hb, hc⟩ := hps.2 hne
  have hbW := hb2.out.block b hb
  have hk := (hs.block b (by omega) (fun c => by have := hown.out b c; omega)).trans hbW
  exact ⟨b, off, e, by have := hs.size; omega, fun i hi => stpAt_keep (hc i hi) hk⟩⟩
 have HX2 : Hid (∀ W, Same own2 W2 W → W.heap[w.heap.size]? = some (.cells #[iv n0, iv n1, iv n2, iv n3, iv n4, iv n5, iv n6, v7, .slice sa n sc] 27 (0, 0))) := fun W hs => (hs.block _ l2 (fun e => by have := hown.out _ e; omega)).trans x2.out
 have HD2 : Hid (∀ b off, sa = some (aq b off) → ps ≠ [] → ¬ own2 b) := fun b off e hne c => by
  obtain ⟨b', off', e', hb, _⟩ := hps.2 hne
  rw [e] at e'
  simp only [Option.some.injEq, Addr.mk.injEq] at e'
  have := hown.out b c
  omega
 have HE2 : Hid (∀ W, Same own2 W2 W → Below w.heap.size w W) := fun W hs => hb2.out.trans (hs.toBelow hb2.out.size (fun k e => by have := hown.out k e; omega))
 have HW2 : Hid (∀ k, own2 k → k < W2.heap.size) := (KA0 xa xb).lt hp2.out
 obtain ⟨k0, k1, k2, k3, k4, k5, k6, k7, k8⟩ := nineK x2.out
 clear hqa2 hqb hdis2 hfb b2 hqa hfa1 hb1 x1 hown l1 hiff
 go_wp2_with fail
 refine (HRa.out xa xb W2 own2 hp2.out (HS2.out W2 ⟨rfl, rfl, rfl, Nat.le_refl _, fun _ _ _ => rfl⟩) HD2.out).mono ?_
 rintro e W3 ⟨la, lc, rfl, hra, hla, own3, hA1, hs3, hf3, hno3⟩
 clear k0 k1 k2 k3 k4 k5 k6 k7 k8
 have HX3 : Hid (∀ W, Below W3.heap.size W3 W → W.heap[w.heap.size]? = some (.cells #[iv n0, iv n1, iv n2, iv n3, iv n4, iv n5, iv n6, v7, .slice sa n sc] 27 (0, 0))) := fun W hW => (hW.block _ (Nat.lt_of_lt_of_le l2 hs3.size)).trans (HX2.out W3 hs3)
 have HS3 : Hid (∀ W, Below W3.heap.size W3 W → stepsAt W sa n ps) := fun W hW => (HS2.out W3 hs3).below hW
 have HR3 : Hid (∀ W, Below W3.heap.size W3 W → repsAt W la n rl) := fun W hW => ⟨hra.1, fun i hi => by
  obtain ⟨g, e, hg, c0, c1, c2, c3⟩ := hra.2 i hi
  exact ⟨g, e, Nat.lt_of_lt_of_le hg hW.size, (hW.cell (p := (aq g (i * 4))) hg).trans c0, (hW.cell (p := (aq g (i * 4 + 1))) hg).trans c1, (hW.cell (p := (aq g (i * 4 + 2))) hg).trans c2, (hW.cell (p := (aq g (i * 4 + 3))) hg).trans c3⟩⟩
 have HE3 : Hid (∀ W, Same own3 W3 W → Below w.heap.size w W) := fun W hs => HE2.out W (Same.trans hs3 hs (fun k hk e => e.elim id (fun e => (hf3 k e).elim id (fun e => by omega))))
 have HA1 : Hid (A1 xa xb W3 own3) := hA1
 have HD3 : Hid (∀ c off, sa = some (aq c off) → ps ≠ [] → ¬ own3 c) := fun c off e hne c3 => by
  rcases hf3 c c3 with d | d
  ·exact HD2.out c off e hne d
  ·obtain ⟨b2, off2, e2, hb2', _⟩ := (HS2.out W2 ⟨rfl, rfl, rfl, Nat.le_refl _, fun _ _ _ => rfl⟩).2 hne
   rw [e] at e2
   simp only [Option.some.injEq, Addr.mk.injEq] at e2
   omega
 have HX3s : Hid (∀ W, Same own3 W3 W → W.heap[w.heap.size]? = some (.cells #[iv n0, iv n1, iv n2, iv n3, iv n4, iv n5, iv n6, v7, .slice sa n sc] 27 (0, 0))) := fun W hs => HX2.out W (Same.trans hs3 hs (fun k hk e => e.elim id (fun e => (hf3 k e).elim id (fun e => by omega))))
 have HS3s : Hid (∀ W, Same own3 W3 W → stepsAt W sa n ps) := fun W hs => HS2.out W (Same.trans hs3 hs (fun k hk e => e.elim id (fun e => (hf3 k e).elim id (fun e => by omega))))
 have HRno : Hid (∀ g off, la = some (aq g off) → ¬ own3 g ∧ g < W3.heap.size) := fun g off e => ⟨hno3 g off e, (hla g off e).2⟩
 clear hra hla hA1 hs3 hf3 hno3 HRa HX2 HS2 HD2 HE2 hp2 HP0 HO hb2 x2 l2 HW2
 have hW3 : Hid (Below W3.heap.size W3 W3) := Below.refl _ _
 by_cases hn0 : n = 0
 ·have hEE : Hid (Below w.heap.size w W3) := HE3.out W3 ⟨rfl, rfl, rfl, Nat.le_refl _, fun _ _ _ => rfl⟩
  obtain ⟨k0, k1, k2, k3, k4, k5, k6, k7, k8⟩ := nineK (HX3.out W3 hW3.out)
  have lx : w.heap.size < W3.heap.size := (Array.getElem?_eq_some_iff.1 (HX3.out W3 hW3.out)).1
  subst hn0
  clear HPk1 HPk2 HIs HFr HSp HRb HSm HAl HX3 HS3 HR3 HE3 HD3 HX3s HS3s HRno
  go_wp2
  refine bodyPost_ret (v := .bool true) (by simp [results, Tryz.results3, go_sem]) rfl ⟨rfl, by repeat (first | exact hEE.out | refine Below.alloc ?_ (Nat.le_of_lt lx) _ | refine Below.drew ?_ | refine below_drewN ?_)⟩
 ·have hpos : 0 < n := by omega
  obtain ⟨hm1, hm2⟩ := hm hpos
  obtain ⟨b, off, hsa, _, _⟩ := steps_at (HS3.out W3 hW3.out) hm1
  have HSm1 : Hid (∀ W, Below W3.heap.size W3 W → b < W.heap.size ∧ stpAt W b (off + m1 * 6) (ps.getD m1 stp0)) := fun W hW => by
   obtain ⟨b', off', e, hb', hc⟩ := steps_at (HS3.out W hW) hm1
   rw [hsa] at e
   simp only [Option.some.injEq, Addr.mk.injEq] at e
   obtain ⟨rfl, rfl, _⟩ := e
   exact ⟨hb', hc⟩
  have HRm1 : Hid (∀ W, Below W3.heap.size W3 W → ∃ g, la = some (aq g 0) ∧ g < W.heap.size ∧ W.cell? (aq g (m1 * 4)) = some (iv (rl.getD m1 rep0).kind) ∧ W.cell? (aq g (m1 * 4 + 1)) = some (iv (rl.getD m1 rep0).order) ∧ W.cell? (aq g (m1 * 4 + 2)) = some (iv (rl.getD m1 rep0).cents) ∧ W.cell? (aq g (m1 * 4 + 3)) = some (iv (rl.getD m1 rep0).upto)) := fun W hW => (HR3.out W hW).2 m1 hm1
  have HP1 : Hid _ := HPk1.out hpos
  have HP2 : Hid _ := HPk2.out hpos
  have HF1 : Hid _ := HFr.out hpos
  have HS1 : Hid _ := HSp.out hpos
  have HRb1 : Hid _ := HRb.out hpos
  have hwn : IntKind.i64.wrap ((n : Int) - m1) = (n : Int) - m1 := wrap_in (by omega) (by omega)
  have hwd : IntKind.i64.wrap ((m1 : Int) + d) = (m1 : Int) + d := wrap_in (by omega) (by omega)
  have bn0 : ((n : Int) == 0) = false := by simp; omega
  have bn1 : ¬ (n : Int) = 0 := by omega
  have bm0 : (0 : Int) ≤ (m1 : Int) := by omega
  have bm1 : (m1 : Int) < (n : Int) := by omega
  generalize (ps.getD m1 stp0) = pj at HIs HSm1 HRb1
  obtain ⟨pn, pk, pt, pc, pu, po⟩ := pj
  generalize rl.getD m1 rep0 = rj at HRm1 HRb1
  obtain ⟨r1, r2, r3, r4⟩ := rj
  simp only at HIs HSm1 HRb1 HRm1
  clear HPk1 HPk2 HFr HSp HRb
  subst hsa
  obtain ⟨k0, k1, k2, k3, k4, k5, k6, k7, k8⟩ := nineK (HX3.out W3 hW3.out)
  obtain ⟨hb, s0, s1, s2, s3, s4, s5⟩ := HSm1.out W3 hW3.out
  have lx : w.heap.size < W3.heap.size := (Array.getElem?_eq_some_iff.1 (HX3.out W3 hW3.out)).1
  go_wp2_with fail
  refine (HP1.out _).mono ?_
  rintro e V1 ⟨rfl, b1⟩
  clear k0 k1 k2 k3 k4 k5 k6 k7 k8 hb s0 s1 s2 s3 s4 s5 lx
  have hB1 : Hid (Below W3.heap.size W3 V1) := (Below.alloc (Below.refl _ _) (Nat.le_refl _) _).trans (b1.mono (by simp))
  clear b1 HP1
  obtain ⟨k0, k1, k2, k3, k4, k5, k6, k7, k8⟩ := nineK (HX3.out V1 hB1.out)
  obtain ⟨hb, s0, s1, s2, s3, s4, s5⟩ := HSm1.out V1 hB1.out
  have lx : w.heap.size < V1.heap.size := (Array.getElem?_eq_some_iff.1 (HX3.out V1 hB1.out)).1
  go_wp2_with fail
  refine (HP2.out _).mono ?_
  rintro e V2 ⟨rfl, b2⟩
  clear k0 k1 k2 k3 k4 k5 k6 k7 k8 hb s0 s1 s2 s3 s4 s5 lx
  have hB2 : Hid (Below W3.heap.size W3 V2) := hB1.out.trans (b2.mono hB1.out.size)
  clear b2 HP2 hB1
  obtain ⟨k0, k1, k2, k3, k4, k5, k6, k7, k8⟩ := nineK (HX3.out V2 hB2.out)
  obtain ⟨hb, s0, s1, s2, s3, s4, s5⟩ := HSm1.out V2 hB2.out
  have lx : w.heap.size < V2.heap.size := (Array.getElem?_eq_some_iff.1 (HX3.out V2 hB2.out)).1
  go_wp2_with fail
  refine (HIs.out _).mono ?_
  rintro e V3 ⟨rfl, b3⟩
  clear k0 k1 k2 k3 k4 k5 k6 k7 k8 hb s0 s1 s2 s3 s4 s5 lx
  have hB3 : Hid (Below W3.heap.size W3 V3) := hB2.out.trans (b3.mono hB2.out.size)
  clear b3 HIs hB2
  obtain ⟨k0, k1, k2, k3, k4, k5, k6, k7, k8⟩ := nineK (HX3.out V3 hB3.out)
  obtain ⟨hb, s0, s1, s2, s3, s4, s5⟩ := HSm1.out V3 hB3.out
  have lx : w.heap.size < V3.heap.size := (Array.getElem?_eq_some_iff.1 (HX3.out V3 hB3.out)).1
  go_wp2_with fail
  refine (HF1.out V3 (HS3.out V3 hB3.out)).mono ?_
  rintro e V4 ⟨rfl, b4⟩
  clear k0 k1 k2 k3 k4 k5 k6 k7 k8 hb s0 s1 s2 s3 s4 s5 lx
  have hB4 : Hid (Below W3.heap.size W3 V4) := hB3.out.trans (b4.mono hB3.out.size)
  clear b4 HF1 hB3
  obtain ⟨k0, k1, k2, k3, k4, k5, k6, k7, k8⟩ := nineK (HX3.out V4 hB4.out)
  obtain ⟨hb, s0, s1, s2, s3, s4, s5⟩ := HSm1.out V4 hB4.out
  have lx : w.heap.size < V4.heap.size := (Array.getElem?_eq_some_iff.1 (HX3.out V4 hB4.out)).1
  go_wp2_with fail
  refine (HS1.out V4 (HS3.out V4 hB4.out)).mono ?_
  rintro e V5 ⟨rfl, b5⟩
  clear k0 k1 k2 k3 k4 k5 k6 k7 k8 hb s0 s1 s2 s3 s4 s5 lx
  have hB5 : Hid (Below W3.heap.size W3 V5) := hB4.out.trans (b5.mono hB4.out.size)
  clear b5 HS1 hB4
  obtain ⟨k0, k1, k2, k3, k4, k5, k6, k7, k8⟩ := nineK (HX3.out V5 hB5.out)
  obtain ⟨hb, s0, s1, s2, s3, s4, s5⟩ := HSm1.out V5 hB5.out
  have lx : w.heap.size < V5.heap.size := (Array.getElem?_eq_some_iff.1 (HX3.out V5 hB5.out)).1
  obtain ⟨g, rfl, hg, q0, q1, q2, q3⟩ := HRm1.out V5 hB5.out
  have hEE : Hid (Below w.heap.size w V5) := HE3.out V5 (Same.of_below hB5.out)
  cases vb with
  | false =>
    go_wp2
    refine bodyPost_ret (v := .bool true) (by simp [results, Tryz.results3, go_sem]) rfl ⟨rfl, by repeat (first | exact hEE.out | refine Below.alloc ?_ (Nat.le_of_lt lx) _ | refine Below.drew ?_ | refine below_drewN ?_)⟩
  | true =>
    by_cases h4 : pk = 4
    ·subst h4
     go_wp2
     refine bodyPost_ret (v := .bool true) (by simp [results, Tryz.results3, go_sem]) rfl ⟨rfl, by repeat (first | exact hEE.out | refine Below.alloc ?_ (Nat.le_of_lt lx) _ | refine Below.drew ?_ | refine below_drewN ?_)⟩
    ·have e4 : (pk == 4) = false := by simpa using h4
     cases fb with
     | false =>
       go_wp2
       refine bodyPost_ret (v := .bool true) (by simp [results, Tryz.results3, go_sem]) rfl ⟨rfl, by repeat (first | exact hEE.out | refine Below.alloc ?_ (Nat.le_of_lt lx) _ | refine Below.drew ?_ | refine below_drewN ?_)⟩
     | true =>
       by_cases hfar : n5 ≤ far
       ·skip
        go_wp2
        refine bodyPost_ret (v := .bool true) (by simp [results, Tryz.results3, go_sem]) rfl ⟨rfl, by repeat (first | exact hEE.out | refine Below.alloc ?_ (Nat.le_of_lt lx) _ | refine Below.drew ?_ | refine below_drewN ?_)⟩
       ·by_cases h11 : r1 = 11
        ·subst h11
         go_wp2
         refine bodyPost_ret (v := .bool true) (by simp [results, Tryz.results3, go_sem]) rfl ⟨rfl, by repeat (first | exact hEE.out | refine Below.alloc ?_ (Nat.le_of_lt lx) _ | refine Below.drew ?_ | refine below_drewN ?_)⟩
        ·have e11 : (r1 == 11) = false := by simpa using h11
         go_wp2_with fail
         refine (HRb1.out (by trivial) h4 (by trivial) (by omega) h11 xa xb V5 own3 ((KA1 xa xb).keep HA1.out hB5.out.size (fun k e => hB5.out.block k ((KA1 xa xb).lt HA1.out k e))) (HS3.out V5 hB5.out) HD3.out).mono ?_
         rintro e V6 ⟨lb, lc', rfl, hrb, hlb, own6, hA2, hs6, hf6, hno6⟩
         clear hb s0 s1 s2 s3 s4 s5 q0 q1 q2 q3 k0 k1 k2 k3 k4 k5 k6 k7 k8 lx hEE
         have hS36 : Same own3 W3 V6 := Same.trans (Same.of_below hB5.out) hs6 (fun k _ h => h.elim id id)
         have own6lt : ∀ k, own6 k → k < V6.heap.size := (KA2 xa xb).lt hA2
         have lW3 : W3.heap.size ≤ V6.heap.size := hS36.size
         have HA6 : Hid (∀ W, Below V6.heap.size V6 W → A2 xa xb W own6) := fun W hW => (KA2 xa xb).keep hA2 hW.size (fun k e => hW.block k (own6lt k e))
         have HSc : Hid (∀ W, Same own6 V6 W → Same own3 W3 W) := fun W hs => Same.trans hS36 hs (fun k hk e => e.elim id (fun e => (hf6 k e).elim id (fun e => by have := hB5.out.size; omega)))
         have HLb : Hid (∀ W, Below V6.heap.size V6 W → repsAt W lb n rl) := fun W hW => ⟨hrb.1, fun i hi => by
          obtain ⟨g', e, hg', c0, c1, c2, c3⟩ := hrb.2 i hi
          exact ⟨g', e, Nat.lt_of_lt_of_le hg' hW.size, (hW.cell (p := (aq g' (i * 4))) hg').trans c0, (hW.cell (p := (aq g' (i * 4 + 1))) hg').trans c1, (hW.cell (p := (aq g' (i * 4 + 2))) hg').trans c2, (hW.cell (p := (aq g' (i * 4 + 3))) hg').trans c3⟩⟩
         have HLa : Hid (∀ W, Same own3 W3 W → repsAt W (some (aq g 0)) n rl) := fun W hs => ⟨(HR3.out W3 hW3.out).1, fun i hi => by
          obtain ⟨g', e, hg', c0, c1, c2, c3⟩ := (HR3.out W3 hW3.out).2 i hi
          have hno := (HRno.out g' 0 e).1
          exact ⟨g', e, Nat.lt_of_lt_of_le hg' hs.size, (hs.cell hg' hno).trans c0, (hs.cell hg' hno).trans c1, (hs.cell hg' hno).trans c2, (hs.cell hg' hno).trans c3⟩⟩
         have HD6 : Hid (∀ c off', (some (aq b off) : Option Addr) = some (aq c off') → ps ≠ [] → ¬ own6 c) := fun c off' e hne c6 => by
          rcases hf6 c c6 with d | d
          ·exact HD3.out c off' e hne d
          ·have h1 := (HSm1.out V5 hB5.out).1
           simp only [Option.some.injEq, Addr.mk.injEq] at e
           omega
         have HRm6 : Hid (∀ W, Same own3 W3 W → g < W.heap.size ∧ W.cell? (aq g (m1 * 4)) = some (iv r1) ∧ W.cell? (aq g (m1 * 4 + 1)) = some (iv r2) ∧ W.cell? (aq g (m1 * 4 + 2)) = some (iv r3) ∧ W.cell? (aq g (m1 * 4 + 3)) = some (iv r4)) := fun W hs => by
          obtain ⟨g', e, hg', c0, c1, c2, c3⟩ := HRm1.out W3 hW3.out
          have hno := (HRno.out g' 0 e).1
          simp only [Option.some.injEq, Addr.mk.injEq] at e
          obtain ⟨rfl, _, _⟩ := e
          exact ⟨Nat.lt_of_lt_of_le hg' hs.size, (hs.cell hg' hno).trans c0, (hs.cell hg' hno).trans c1, (hs.cell hg' hno).trans c2, (hs.cell hg' hno).trans c3⟩
         have lx : w.heap.size < V6.heap.size := Nat.lt_of_lt_of_le (Array.getElem?_eq_some_iff.1 (HX3.out W3 hW3.out)).1 lW3
         clear HRb1 HX3 HS3 HR3 HRno HSm1 HRm1 HD3 HA1 hB5 hrb hlb hA2 hs6 hf6 hno6 hg
         obtain ⟨k0, k1, k2, k3, k4, k5, k6, k7, k8⟩ := nineK (HX3s.out V6 hS36)
         go_wp2_with fail
         have hV6 : Hid (Below V6.heap.size V6 (V6.alloc (.cells #[iv r1, iv r2, iv r3, iv r4] 33))) := Below.alloc (Below.refl _ _) (Nat.le_refl _) _
         have hN6 : Hid ((V6.alloc (.cells #[iv r1, iv r2, iv r3, iv r4] 33)).heap[V6.heap.size]? = some (.cells #[iv r1, iv r2, iv r3, iv r4] 33 (0, 0))) := heap_alloc_new V6 _
         clear k0 k1 k2 k3 k4 k5 k6 k7 k8
         generalize V6.alloc (.cells #[iv r1, iv r2, iv r3, iv r4] 33) = U6 at hV6 hN6 ⊢
         refine (HSm.out U6 _ _ _ _ (HLa.out U6 (HSc.out U6 (Same.of_below hV6.out))) (HLb.out U6 hV6.out)).mono ?_
         rintro e V7 ⟨rfl, b7⟩
         have hV7 : Hid (Below V6.heap.size V6 V7) := hV6.out.trans (b7.mono hV6.out.size)
         have hN7 : Hid (V7.heap[V6.heap.size]? = some (.cells #[iv r1, iv r2, iv r3, iv r4] 33 (0, 0))) := (b7.block _ (blt hN6.out)).trans hN6.out
         clear b7 hV6 hN6 HSm HLa HLb
         obtain ⟨k0, k1, k2, k3, k4, k5, k6, k7, k8⟩ := nineK (HX3s.out V7 (HSc.out V7 (Same.of_below hV7.out)))
         go_wp2_with fail
         refine (HAl.out xa xb V7 own6 (HA6.out V7 hV7.out) (HS3s.out V7 (HSc.out V7 (Same.of_below hV7.out))) HD6.out).mono ?_
         rintro e V8 ⟨rfl, own8, hA8, hs8, hf8⟩
         clear k0 k1 k2 k3 k4 k5 k6 k7 k8
         have hS8 : Same own6 V6 V8 := Same.trans (Same.of_below hV7.out) hs8 (fun k _ h => h.elim id id)
         have lN7 := (blt hN7.out)
         have hN8 : V8.heap[V6.heap.size]? = some (.cells #[iv r1, iv r2, iv r3, iv r4] 33 (0, 0)) := (hs8.block _ lN7 (fun e => by have := own6lt _ e; omega)).trans hN7.out
         have lN8 := (blt hN8)
         have hEE : Hid (Below w.heap.size w V8) := HE3.out V8 (HSc.out V8 hS8)
         obtain ⟨hg, q0, q1, q2, q3⟩ := HRm6.out V8 (HSc.out V8 hS8)
         clear hS8 hs8 hf8 hA8 hV7 hN7 HAl HA6 HSc HD6 HRm6 HX3s HS3s own6lt HE3
         have c0 : V8.cell? (aq V6.heap.size 0) = some (iv r1) := by rw [Joins.cell_of_block hN8]; rfl
         have c1 : V8.cell? (aq V6.heap.size 1) = some (iv r2) := by rw [Joins.cell_of_block hN8]; rfl
         have c2 : V8.cell? (aq V6.heap.size 2) = some (iv r3) := by rw [Joins.cell_of_block hN8]; rfl
         have c3 : V8.cell? (aq V6.heap.size 3) = some (iv r4) := by rw [Joins.cell_of_block hN8]; rfl
         clear hN8
         go_wp2_with fail
         try go_quiet (fail)
         go_wp2
         refine bodyPost_ret (v := .bool true) (by simp [results, Tryz.results3, go_sem]) rfl ⟨rfl, by repeat (first | exact hEE.out | refine Below.alloc ?_ (Nat.le_of_lt lx) _ | refine Below.drew ?_ | refine below_drewN ?_)⟩
theorem again_none (v0 v1 v2 v3 v4 v5 v6 v7 : Value) (sa : Option Addr) (n sc : Nat) (i' j' : Int) (w : World)
 (HO : Hid (∀ W, Below w.heap.size w W → Calls Tryz.prog 7 #[.agg #[v0, v1, v2, v3, v4, v5, v6, v7, .slice sa n sc]] W fun e w' => e = .returned (.tuple #[.pointer none, .bool true]) ∧ Below W.heap.size W w')) :
 Calls Tryz.prog 3 #[.agg #[v0, v1, v2, v3, v4, v5, v6, v7, .slice sa n sc], iv i', iv j'] w fun e w' => e = .returned (.bool true) ∧ Below w.heap.size w w' := by
 go_enter Tryz.func3, Tryz.ntmps3
 go_wp2_with fail
 refine (HO.out _ ((Below.refl _ _).alloc (Nat.le_refl _) _)).mono ?_
 rintro e W1 ⟨rfl, b1⟩
 have hb1 : Hid (Below w.heap.size w W1) := Below.trans ((Below.refl _ _).alloc (Nat.le_refl _) _) (b1.mono (by simp))
 clear b1 HO
 go_wp2
 refine bodyPost_ret (v := .bool true) (by simp [results, Tryz.results3, go_sem]) rfl ⟨rfl, bL⟩
section
theorem is_ok {p : Stp} (h : isB p.k p.t p.c p.u p.o = true) : p.ok = true := by
 unfold Stp.ok bareT bareU bareO
 have hk := isB_kind h
 unfold isB at h ⊢
 rcases hk with e | e | e | e <;> simp only [e] at h ⊢ <;> simp at h ⊢ <;> simp [h]
theorem does_now {S : Sal} (h0 : 0 ≤ S.now ∧ S.now ≤ 4611686018427387904) (p : Stp) : (0 ≤ (S.does p).2.now ∧ (S.does p).2.now ≤ 4611686018427387904) ∧ (S.does p).2.C = S.C ∧ (S.does p).2.now ≤ S.now + (if p.k = 0 ∧ 0 < p.n then p.n else 0) ∧ ∃ l, (S.does p).2.ansL = S.ansL ++ l ∧ ∀ a ∈ l, a.token = p.t := by
 unfold Sal.does
 split
 ·split
  ·next hk =>
   obtain ⟨a, b, _⟩ := tick_keep S p.n
   refine ⟨?_, a, ?_, [], by rw [b, List.append_nil], fun _ h => by simp at h⟩
   ·show 0 ≤ (S.tick p.n).2.now ∧ (S.tick p.n).2.now ≤ 4611686018427387904
    unfold Sal.tick
    split
    ·exact h0
    split
    ·show 0 ≤ (tickN _ _ _).now ∧ (tickN _ _ _).now ≤ 4611686018427387904
     rw [tickN_at]; omega
    ·show 0 ≤ (tickN _ _ _).now ∧ (tickN _ _ _).now ≤ 4611686018427387904
     rw [tickN_at]; omega
   ·show (S.tick p.n).2.now ≤ _
    unfold Sal.tick
    split
    ·next hn => rw [if_neg (by omega)]; show S.now ≤ _; omega
    split
    ·show (tickN _ _ _).now ≤ _
     rw [tickN_at]
     split <;> omega
    ·show (tickN _ _ _).now ≤ _
     rw [tickN_at]
     split <;> omega
  ·next hk =>
   rw [if_neg (fun c => hk c.1)]
   unfold Sal.sendK
   split
   ·unfold Sal.send
    rw [if_neg (fun c => c rfl)]
    split
    ·exact ⟨h0, rfl, by show S.now ≤ _; omega, [], by simp, fun _ h => by simp at h⟩
    ·next h4 =>
     split
     ·split
      ·exact ⟨h0, rfl, by show S.now ≤ _; omega, [], by simp, fun _ h => by simp at h⟩
      ·exact ⟨h0, rfl, by show S.now ≤ _; omega, [], by simp, fun _ h => by simp at h⟩
     ·split
      ·exact ⟨h0, rfl, by show S.now ≤ _; omega, [], by simp, fun _ h => by simp at h⟩
      ·obtain ⟨c, d, e⟩ := doS_same S p.req
       refine ⟨by show 0 ≤ (S.doS p.req).2.now ∧ (S.doS p.req).2.now ≤ _; rw [d]; exact h0, c, by show (S.doS p.req).2.now ≤ _; rw [d]; omega, [_], by show (S.doS p.req).2.ansL ++ _ = _; rw [e], fun a ha => ?_⟩
       rw [List.mem_singleton.1 ha]
       exact if_neg h4
   ·exact ⟨h0, rfl, by show S.now ≤ _; omega, [], by simp, fun _ h => by simp at h⟩
 ·next hk =>
  rw [if_neg (by omega)]
  exact ⟨h0, rfl, by show S.now ≤ _; omega, [], by simp, fun _ h => by simp at h⟩
section
variable {S0 : Sal} (ps : List Stp) (h0 : 0 ≤ S0.now ∧ S0.now ≤ 4611686018427387904)
include h0
theorem run_now : ∀ j, (0 ≤ (runS S0 ps j).now ∧ (runS S0 ps j).now ≤ 4611686018427387904) ∧ (runS S0 ps j).C = S0.C
 | 0 => ⟨h0, rfl⟩
 | j + 1 => by
   obtain ⟨a, b⟩ := run_now j
   obtain ⟨c, d, _⟩ := does_now a (ps.getD j stp0)
   exact ⟨c, d.trans b⟩
theorem run_tokens (e0 : S0.ansL = []) : ∀ j, ∀ a ∈ (runS S0 ps j).ansL, ∃ k, k < j ∧ a.token = (ps.getD k stp0).t
 | 0 => fun a ha => by
   have : a ∈ S0.ansL := ha
   rw [e0] at this
   simp at this
 | j + 1 => fun a ha => by
   obtain ⟨_, _, _, l, e, hl⟩ := does_now (run_now ps h0 j).1 (ps.getD j stp0)
   rw [show (runS S0 ps (j + 1)).ansL = _ from e] at ha
   rcases List.mem_append.1 ha with ha | ha
   ·obtain ⟨k, hk, e⟩ := run_tokens e0 j a ha
    exact ⟨k, by omega, e⟩
   ·exact ⟨j, by omega, hl a ha⟩
theorem run_more (i : Nat) : ∀ d, (∃ l, (runS S0 ps (i + d)).ansL = (runS S0 ps i).ansL ++ l)
 | 0 => ⟨[], by simp⟩
 | d + 1 => by
   obtain ⟨l, e⟩ := run_more i d
   obtain ⟨_, _, _, l', e', _⟩ := does_now (run_now ps h0 (i + d)).1 (ps.getD (i + d) stp0)
   refine ⟨l ++ l', ?_⟩
   rw [show (runS S0 ps (i + (d + 1))).ansL = _ from e', e, List.append_assoc]
theorem run_spent (i : Nat) : ∀ d, (runS S0 ps (i + 1 + d)).now ≤ (runS S0 ps (i + 1)).now + sumT ps i d
 | 0 => by show (runS S0 ps (i + 1)).now ≤ (runS S0 ps (i + 1)).now + 0; omega
 | d + 1 => by
   have ih := run_spent i d
   obtain ⟨_, _, h, _⟩ := does_now (run_now ps h0 (i + 1 + d)).1 (ps.getD (i + 1 + d) stp0)
   rw [sumT]
   have : (runS S0 ps (i + 1 + (d + 1))).now ≤ _ := h
   omega
theorem again_same (e0 : S0.ansL = []) {i d : Nat} {p : Stp} (hp : ps.getD i stp0 = p) (hv : isB p.k p.t p.c p.u p.o = true) (h4 : p.k ≠ 4) (hf : ∀ k, k < i → (ps.getD k stp0).t ≠ p.t) {far : Int} (hfar : (sumT ps i d < 4611686018427387904 → far = sumT ps i d) ∧ (4611686018427387904 ≤ sumT ps i d → far = 4611686018427387904)) (hk : far < S0.C.keep) (h11 : ((runS S0 ps i).does p).1.kind ≠ 11) :
 (runS S0 ps (i + 1 + d)).does p = (((runS S0 ps i).does p).1, runS S0 ps (i + 1 + d)) := by
 have hok := is_ok hv
 have hkind := isB_kind hv
 have hT := run_tokens ps h0 e0 i
 obtain ⟨hni, hCi⟩ := run_now ps h0 i
 obtain ⟨hnj, hCj⟩ := run_now ps h0 (i + 1 + d)
 obtain ⟨l, hl⟩ := run_more ps h0 (i + 1) d
 have hsp := run_spent ps h0 i d
 have hS : runS S0 ps (i + 1) = ((runS S0 ps i).does p).2 := by rw [← hp]; rfl
 have htok : p.req.token = p.t := if_neg h4
 have hnone : (runS S0 ps i).used p.req.token = none := by
  unfold Sal.used
  rw [List.find?_eq_none]
  intro a ha hc
  simp only [Bool.and_eq_true, beq_iff_eq] at hc
  obtain ⟨k, hk, e⟩ := hT a ha
  exact hf k hk (e.symm.trans (hc.2.trans htok))
 have hd : ∀ S : Sal, S.does p = S.send p.bytes p.req 0 := fun S => by
  unfold Sal.does
  rw [if_pos (by omega), if_neg (by omega)]
  unfold Sal.sendK
  rw [if_pos hok]
 have h4' : ¬ p.req.kind = 4 := h4
 rw [hd (runS S0 ps i)] at hS h11
 rw [hd, hd]
 generalize runS S0 ps (i + 1 + d) = Sj at *
 generalize hSi : runS S0 ps i = Si at *
 have e1 : Si.send p.bytes p.req 0 = ((Si.doS p.req).1, { (Si.doS p.req).2 with ansL := (Si.doS p.req).2.ansL ++ [⟨strOfNums p.bytes, p.req.token, (Si.doS p.req).1, Si.now⟩] }) := by
  unfold Sal.send at h11 ⊢
  rw [if_neg (fun c => c rfl), if_neg h4', hnone] at h11 ⊢
  simp only at h11 ⊢
  split
  ·next hfu => rw [if_pos hfu] at h11; exact absurd rfl h11
  ·rfl
 rw [e1] at hS ⊢
 obtain ⟨c1, c2, c3⟩ := doS_same Si p.req
 have hl' : Sj.ansL = Si.ansL ++ ([⟨strOfNums p.bytes, p.req.token, (Si.doS p.req).1, Si.now⟩] ++ l) := by rw [hl, hS, ← List.append_assoc]; simp only; rw [c3]
 have hn1 : (runS S0 ps (i + 1)).now = Si.now := by rw [hS]; exact c2
 rw [hn1] at hsp
 have hused : Sj.used p.req.token = some ⟨strOfNums p.bytes, p.req.token, (Si.doS p.req).1, Si.now⟩ := by
  unfold Sal.used
  rw [hl', List.find?_append]
  have e2 : Si.ansL.find? (fun a => Sj.remem a && a.token == p.req.token) = none := by
   rw [List.find?_eq_none]
   intro a ha hc
   simp only [Bool.and_eq_true, beq_iff_eq] at hc
   obtain ⟨k, hk, e⟩ := hT a ha
   exact hf k hk (e.symm.trans (hc.2.trans htok))
  rw [e2]
  have e3 : Sj.remem ⟨strOfNums p.bytes, p.req.token, (Si.doS p.req).1, Si.now⟩ = true := by
   unfold Sal.remem
   refine decide_eq_true ?_
   show Sj.now - Si.now < Sj.C.keep
   rw [hCj]
   by_cases hs : sumT ps i d < 4611686018427387904
   ·have := hfar.1 hs; omega
   ·have := hfar.2 (by omega); omega
  simp [e3]
 unfold Sal.send
 rw [if_neg (fun c => c rfl), if_neg h4', hused]
 simp
end
end
end Go.Proofs.YtfhncfghblkgeabGreat
