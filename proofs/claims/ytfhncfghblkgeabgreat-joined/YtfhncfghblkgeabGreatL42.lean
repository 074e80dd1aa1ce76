import Derived.Test.YtfhncfghblkgeabGreatL36
import Derived.Test.YtfhncfghblkgeabGreatL37
import Derived.Test.YtfhncfghblkgeabGreatL38
import Derived.Test.YtfhncfghblkgeabGreatL41
set_option maxRecDepth 100000
set_option maxHeartbeats 2000000
namespace Go.Proofs.YtfhncfghblkgeabGreat
open Go.RowKit
theorem nothing_walk (x : Nat) (i : Int) (hi0 : 0 ≤ i) (hi1 : i ≤ 4611686018427387904) (va : Array Value) (w : World) (own : Nat → Prop) (P : World → (Nat → Prop) → Prop) (K : Keeps P) (h : P w own) (rp : Rep)
 (HS0 : Hid (doesL w own P P 27 #[pt x 0, .slice none 0 0] (.agg #[iv 1, iv 0, iv 0, iv 0])))
 (HS1 : Hid (∀ g loc W, seenL P w own loc W → W.heap[g]? = some (.cells #[.int .u8 1, .int .u8 1, .int .u8 1] 5 (0, 0)) → Calls Tryz.prog 27 #[pt x 0, .slice (some (aq g 0)) 3 3] W fun e w' => e = .returned (.agg #[iv 1, iv 0, iv 0, iv 0]) ∧ seenL P w own loc w' ∧ ∀ b, loc b → w'.heap[b]? = W.heap[b]?))
 (HS2 : Hid (∀ g loc W, seenL P w own loc W → W.heap[g]? = some (.cells #[.int .u8 2, .int .u8 1, .int .u8 1, .int .u8 129, .int .u8 0] 5 (0, 0)) → Calls Tryz.prog 27 #[pt x 0, .slice (some (aq g 0)) 5 5] W fun e w' => e = .returned (.agg #[iv 1, iv 0, iv 0, iv 0]) ∧ seenL P w own loc w' ∧ ∀ b, loc b → w'.heap[b]? = W.heap[b]?))
 (HD1 : Hid (doesL w own P P 15 #[pt x 0, .agg #[iv (-1 - i), iv 0, iv 0, iv 0, iv 0, iv 0]] (.tuple #[.agg #[iv 0, iv 0, iv 0, iv 0], .bool true])))
 (HD2 : Hid (doesL w own P P 15 #[pt x 0, .agg #[iv 0, iv 0, iv 0, iv 0, iv 0, iv 0]] (.tuple #[.agg #[iv 0, iv 0, iv 0, iv 0], .bool true])))
 (HP : Hid (doesL w own P P 25 #[pt x 0, iv 1, iv (i + 1)] (.tuple #[.agg #[iv rp.kind, iv rp.order, iv rp.cents, iv rp.upto], .bool true])))
 (HA0 : Hid (doesL w own P P 24 #[pt x 0, iv 0] (.tuple #[.agg #[iv 0, iv 0, iv 0], iv 3])))
 (HA1 : Hid (doesL w own P P 24 #[pt x 0, iv 4294967297] (.tuple #[.agg #[iv 0, iv 0, iv 0], iv 3]))) :
 Calls Tryz.prog 16 #[.agg va, pt x 0, iv i] w fun e w' => e = .returned (.bool true) ∧ ansP P w w' own := by
 have HW : Hid (∀ k, own k → k < w.heap.size) := K.lt h
 have hw1 : IntKind.i64.wrap (-1 - i) = -1 - i := wrap_in (by omega) (by omega)
 have hw2 : IntKind.i64.wrap (i + 1) = i + 1 := wrap_in (by omega) (by omega)
 have hT0 : Hid (seenL P w own (fun _ => False) (w.alloc (.cells va 27))) := seenL_start K h ((Below.refl _ _).alloc (Nat.le_refl _) _) (fun k e => e.elim)
 clear h
 go_enter Tryz.func16, Tryz.ntmps16
 go_wp2_with fail
 refine (HS0.out _ _ hT0.out).mono ?_
 rintro e V1 ⟨rfl, hV, hk⟩
 have hU1 : Hid (seenL P w own (fun k => False ∨ k = V1.heap.size) (V1.alloc (.cells #[iv 1, iv 0, iv 0, iv 0] 33))) := seenL_alloc K hV _
 have g1 : Hid ((V1.alloc (.cells #[iv 1, iv 0, iv 0, iv 0] 33)).heap[V1.heap.size]? = some (.cells #[iv 1, iv 0, iv 0, iv 0] 33 (0, 0))) := heap_alloc_new V1 _
 clear hk hV hT0 HS0
 go_wp2_with fail
 have hR1 : Hid (seenL P w own (fun k => False ∨ k = V1.heap.size) ((V1.alloc (.cells #[iv 1, iv 0, iv 0, iv 0] 33)).alloc (.cells #[.int .u8 1, .int .u8 1, .int .u8 1] 5))) := seenL_below K hU1.out ((Below.refl _ _).alloc (Nat.le_refl _) _)
 have p1 : Hid (((V1.alloc (.cells #[iv 1, iv 0, iv 0, iv 0] 33)).alloc (.cells #[.int .u8 1, .int .u8 1, .int .u8 1] 5)).heap[V1.heap.size]? = some (.cells #[iv 1, iv 0, iv 0, iv 0] 33 (0, 0))) := (Below.heap_alloc _ _ _ (by simp)).trans g1.out
 have r1 : Hid (((V1.alloc (.cells #[iv 1, iv 0, iv 0, iv 0] 33)).alloc (.cells #[.int .u8 1, .int .u8 1, .int .u8 1] 5)).heap[V1.heap.size + 1]? = some (.cells #[.int .u8 1, .int .u8 1, .int .u8 1] 5 (0, 0))) := alloc_two V1 _ _
 generalize (V1.alloc (.cells #[iv 1, iv 0, iv 0, iv 0] 33)).alloc (.cells #[.int .u8 1, .int .u8 1, .int .u8 1] 5) = U1 at hR1 p1 r1 ⊢
 generalize V1.heap.size + 1 = gz at r1 ⊢
 clear g1 hU1
 generalize V1.heap.size = pz at hR1 p1 ⊢
 refine (HS1.out _ _ _ hR1.out r1.out).mono ?_
 rintro e V2 ⟨rfl, hV, hk⟩
 have p2 : Hid _ := (hk _ (.inr rfl)).trans p1.out
 have lp2 : pz < V2.heap.size := (blt p2.out)
 have hU2 : Hid (seenL P w own (fun k => (False ∨ k = pz) ∨ k = V2.heap.size) (V2.alloc (.cells #[iv 1, iv 0, iv 0, iv 0] 33))) := seenL_alloc K hV _
 clear hk hV hR1 HS1 p1 r1
 go_wp2_with fail
 have hR2 : Hid (seenL P w own (fun k => (False ∨ k = pz) ∨ k = V2.heap.size) ((V2.alloc (.cells #[iv 1, iv 0, iv 0, iv 0] 33)).alloc (.cells #[.int .u8 2, .int .u8 1, .int .u8 1, .int .u8 129, .int .u8 0] 5))) := seenL_below K hU2.out ((Below.refl _ _).alloc (Nat.le_refl _) _)
 have p3 : Hid (((V2.alloc (.cells #[iv 1, iv 0, iv 0, iv 0] 33)).alloc (.cells #[.int .u8 2, .int .u8 1, .int .u8 1, .int .u8 129, .int .u8 0] 5)).heap[pz]? = some (.cells #[iv 1, iv 0, iv 0, iv 0] 33 (0, 0))) := (Below.heap_alloc _ _ _ (by simp; omega)).trans ((Below.heap_alloc _ _ _ lp2).trans p2.out)
 have q3 : Hid (((V2.alloc (.cells #[iv 1, iv 0, iv 0, iv 0] 33)).alloc (.cells #[.int .u8 2, .int .u8 1, .int .u8 1, .int .u8 129, .int .u8 0] 5)).heap[V2.heap.size]? = some (.cells #[iv 1, iv 0, iv 0, iv 0] 33 (0, 0))) := (Below.heap_alloc _ _ _ (by simp)).trans (heap_alloc_new V2 _)
 have r3 : Hid (((V2.alloc (.cells #[iv 1, iv 0, iv 0, iv 0] 33)).alloc (.cells #[.int .u8 2, .int .u8 1, .int .u8 1, .int .u8 129, .int .u8 0] 5)).heap[V2.heap.size + 1]? = some (.cells #[.int .u8 2, .int .u8 1, .int .u8 1, .int .u8 129, .int .u8 0] 5 (0, 0))) := alloc_two V2 _ _
 generalize (V2.alloc (.cells #[iv 1, iv 0, iv 0, iv 0] 33)).alloc (.cells #[.int .u8 2, .int .u8 1, .int .u8 1, .int .u8 129, .int .u8 0] 5) = U2 at hR2 p3 q3 r3 ⊢
 generalize V2.heap.size + 1 = gz at r3 ⊢
 have ne1 : V2.heap.size ≠ pz := by omega
 clear hU2 p2 lp2
 generalize V2.heap.size = qz at hR2 q3 ne1 ⊢
 refine (HS2.out _ _ _ hR2.out r3.out).mono ?_
 rintro e V3 ⟨rfl, hV, hk⟩
 have p4 : Hid _ := (hk _ (.inl (.inr rfl))).trans p3.out
 have q4 : Hid _ := (hk _ (.inr rfl)).trans q3.out
 obtain ⟨c0, c1, c2, c3⟩ := fourK p4.out
 obtain ⟨d0, d1, d2, d3⟩ := fourK q4.out
 have lp4 : pz < V3.heap.size := (blt p4.out)
 have lq4 : qz < V3.heap.size := (blt q4.out)
 have ne2 : V3.heap.size ≠ pz := by omega
 have ne3 : V3.heap.size ≠ qz := by omega
 have hU3 : Hid (seenL P w own (fun _ => False) (V3.alloc (.cells #[iv 1, iv 0, iv 0, iv 0] 33))) := by
  obtain ⟨o1, a1, a2, a3, a4⟩ := hV
  exact seenL_below K ⟨o1, a1, a2, fun k e => (a3 k e).imp id (fun c => ⟨c.1, fun d => d⟩), fun k e => e.elim⟩ ((Below.refl _ _).alloc (Nat.le_refl _) _)
 clear hk hV hR2 HS2 p3 q3 r3
 go_wp2_with fail
 clear c0 c1 c2 c3 d0 d1 d2 d3 lp4 lq4 ne1 ne2 ne3 p4 q4
 refine (HD1.out _ _ (seenL_below K hU3.out bL)).mono ?_
 rintro e V4 ⟨rfl, hV4, hk⟩
 replace hV4 : Hid _ := hV4
 clear hU3 HD1 hk
 go_wp2_with fail
 refine (HD2.out _ _ (seenL_below K hV4.out bL)).mono ?_
 rintro e V5 ⟨rfl, hV5, hk⟩
 replace hV5 : Hid _ := hV5
 clear hV4 HD2 hk
 go_wp2_with fail
 refine (HP.out _ _ (seenL_below K hV5.out bL)).mono ?_
 rintro e V6 ⟨rfl, hV6, hk⟩
 replace hV6 : Hid _ := hV6
 clear hV5 HP hk
 go_wp2_with fail
 refine (HA0.out _ _ (seenL_below K hV6.out bL)).mono ?_
 rintro e V7 ⟨rfl, hV7, hk⟩
 have hU7 : Hid (seenL P w own (fun k => False ∨ k = V7.heap.size) (V7.alloc (.cells #[iv 0, iv 0, iv 0] 65))) := seenL_alloc K hV7 _
 have a7 : Hid ((V7.alloc (.cells #[iv 0, iv 0, iv 0] 65)).heap[V7.heap.size]? = some (.cells #[iv 0, iv 0, iv 0] 65 (0, 0))) := heap_alloc_new V7 _
 clear hV6 HA0 hk hV7
 go_wp2_with fail
 generalize V7.alloc (.cells #[iv 0, iv 0, iv 0] 65) = U7 at hU7 a7 ⊢
 generalize V7.heap.size = az at hU7 a7 ⊢
 refine (HA1.out _ _ (seenL_below K hU7.out bL)).mono ?_
 rintro e V8 ⟨rfl, hV8, hk⟩
 have a8 : Hid _ := (hk _ (.inr rfl)).trans a7.out
 obtain ⟨c0, c1, c2⟩ := three_cells a8.out
 have la8 : az < V8.heap.size := (blt a8.out)
 have ne : V8.heap.size ≠ az := by omega
 have hE : Hid (ansP P w (V8.alloc (.cells #[iv 0, iv 0, iv 0] 65)) own) := seenL_end (seenL_below K hV8 ((Below.refl _ _).alloc (Nat.le_refl _) _))
 clear hk hV8 hU7 a7 HA1
 go_wp2_with fail
 try go_quiet (fail)
 try go_wp2
 refine bodyPost_ret (v := .bool true) (by simp [results, Tryz.results16, go_sem]) rfl ⟨rfl, ?_⟩
 exact hE.out
theorem right_any (n0 n1 n2 n3 n4 n5 n6 : Int) (a : Option Addr) (len cap : Nat) (ts : List (Int × Int)) (w : World) (h : tiersAt w a len cap ts) :
 Calls Tryz.prog 19 #[.agg #[iv n0, iv n1, iv n2, iv n3, iv n4, iv n5, iv n6, .slice a len cap]] w fun e w' => e = .returned (.bool (cfgB [n0, n1, n2, n3, n4, n5, n6] ts)) ∧ Below w.heap.size w w' := by
 have HC : Hid (∀ W, Below w.heap.size w W → Calls Tryz.prog 37 #[.agg #[iv n0, iv n1, iv n2, iv n3, iv n4, iv n5, iv n6, .slice a len cap]] W fun e w' => e = .returned (iv (errV (cfgB [n0, n1, n2, n3, n4, n5, n6] ts))) ∧ Below W.heap.size W w') := fun W hW => rcheck_any n0 n1 n2 n3 n4 n5 n6 a len cap ts W (h.below hW (Nat.le_refl _))
 clear h
 generalize cfgB [n0, n1, n2, n3, n4, n5, n6] ts = bb at HC ⊢
 cases bb
 all_goals
  simp only [errV, if_true, Bool.false_eq_true, if_false] at HC
  go_enter Tryz.func19, Tryz.ntmps19
  go_wp2_with fail
  refine (HC.out _ bL).mono ?_
  rintro e w1 ⟨rfl, b1⟩
  have hb1 : Below w.heap.size w w1 := Below.trans (show Below w.heap.size w _ from bL) (b1.mono (by simp))
  clear b1
  go_wp2
  go_ret
  exact ⟨rfl, bL⟩
theorem nineK {w : World} {R : Nat} {c0 c1 c2 c3 c4 c5 c6 c7 c8 : Value} {T : TypeId} (h : w.heap[R]? = some (.cells #[c0, c1, c2, c3, c4, c5, c6, c7, c8] T (0, 0))) : w.cell? (aq R 0) = some c0 ∧ w.cell? (aq R 1) = some c1 ∧ w.cell? (aq R 2) = some c2 ∧ w.cell? (aq R 3) = some c3 ∧ w.cell? (aq R 4) = some c4 ∧ w.cell? (aq R 5) = some c5 ∧ w.cell? (aq R 6) = some c6 ∧ w.cell? (aq R 7) = some c7 ∧ w.cell? (aq R 8) = some c8 := by
 refine ⟨?_, ?_, ?_, ?_, ?_, ?_, ?_, ?_, ?_⟩ <;> rw [Joins.cell_of_block h] <;> rfl
theorem Same.toBelow {own : Nat → Prop} {B : Nat} {w w' : World} (h : Same own w w') (hB : B ≤ w.heap.size) (ho : ∀ k, own k → B ≤ k) : Below B w w' := ⟨h.os, h.tape, h.output, h.size, fun k hk => h.block k (by omega) (fun e => by have := ho k e; omega)⟩
theorem sells_walk (n0 n1 n2 n3 n4 n5 n6 f0 c0 : Int) (b off len cap : Nat) (w : World) (hb : b < w.heap.size) (hl : 1 ≤ len) (hl4 : len ≤ 4) (hp0 : w.cell? (aq b off) = some (iv f0)) (hp1 : w.cell? (aq b (off + 1)) = some (iv c0)) (P0 P1 : Nat → World → (Nat → Prop) → Prop) (K0 : ∀ x, Keeps (P0 x)) (Fr : World → Option Addr → Nat → Nat → Prop)
 (HO : Hid (∀ W, Below w.heap.size w W → Calls Tryz.prog 18 #[.agg #[iv n0, iv n1, iv n2, iv n3, iv n4, iv n5, iv n6, .slice (some (aq b off)) len cap]] W fun e w' => ∃ x own, e = .returned (.tuple #[pt x 0, iv 0]) ∧ P0 x w' own ∧ (∀ k, own k → W.heap.size ≤ k) ∧ Below W.heap.size W w'))
 (HF : Hid (∀ W, Calls Tryz.prog 28 #[.agg #[iv 1, iv 1, iv 1, iv 1, iv 0]] W fun e w' => ∃ ba bl bc, e = .returned (.slice ba bl bc) ∧ Fr w' ba bl bc ∧ Below W.heap.size W w'))
 (HSend : Hid (∀ x W o ba bl bc, P0 x W o → Fr W ba bl bc → Calls Tryz.prog 27 #[pt x 0, .slice ba bl bc] W fun e w' => e = .returned (.agg #[iv 2, iv 1, iv c0, iv n3]) ∧ ansP (P1 x) W w' o)) :
 Calls Tryz.prog 20 #[.agg #[iv n0, iv n1, iv n2, iv n3, iv n4, iv n5, iv n6, .slice (some (aq b off)) len cap]] w fun e w' => e = .returned (.bool true) ∧ Below w.heap.size w w' := by
 have HP0 : Hid _ := hp0
 have HP1 : Hid _ := hp1
 go_enter Tryz.func20, Tryz.ntmps20
 go_wp2_with fail
 refine (HO.out _ bL).mono ?_
 rintro e w1 ⟨x, own, rfl, hp, hfr, b1⟩
 have hz1 : w.heap.size + 1 ≤ w1.heap.size := Nat.le_trans (by simp) b1.size
 have hb1 : Below w.heap.size w w1 := Below.trans (show Below w.heap.size w _ from bL) (b1.mono (by simp))
 have hfr1 : Hid (∀ k, own k → w.heap.size + 1 ≤ k) := fun k e => Nat.le_trans (by simp) (hfr k e)
 have cb1 := (b1.block w.heap.size (by simp)).trans (heap_alloc_new w _)
 have q0 := (hb1.cell (p := (aq b off)) hb).trans hp0
 have q1 := (hb1.cell (p := (aq b (off + 1))) hb).trans hp1
 replace hp : Hid (P0 x w1 own) := hp
 replace hb1 : Hid _ := hb1
 have e3 : w1.cell? (aq w.heap.size 3) = some (iv n3) := by rw [Joins.cell_of_block cb1]; rfl
 have e7 : w1.cell? (aq w.heap.size 7) = some (.slice (some (aq b off)) len cap) := by rw [Joins.cell_of_block cb1]; rfl
 replace cb1 : Hid _ := cb1
 have bl0 : ¬ (len : Int) = 0 := by omega
 have bl1 : (0 : Int) < (len : Int) := by omega
 have hbw1 : b < w1.heap.size := Nat.lt_of_lt_of_le hb hb1.out.size
 clear b1 hfr HO
 go_wp2_with fail
 refine (HF.out _).mono ?_
 rintro e w2 ⟨ba, bl, bc, rfl, hFr, b2⟩
 have hp2 : Hid (P0 x w2 own) := (K0 x).keep hp.out b2.size (fun k e => b2.block k ((K0 x).lt hp.out k e))
 have hb2 : Hid (Below w.heap.size w w2) := hb1.out.trans (b2.mono hb1.out.size)
 have cb2 : Hid _ := (b2.block _ (blt cb1.out)).trans cb1.out
 clear e3 e7 q0 q1 hbw1 hp cb1 hb1 b2 HF hp0 hp1
 go_wp2_with fail
 refine (HSend.out x _ own ba bl bc hp2.out hFr).mono ?_
 rintro e w3 ⟨rfl, o3, _, hs3, _⟩
 have hb3 : Hid (Below w.heap.size w w3) := hb2.out.trans (hs3.toBelow hb2.out.size (fun k e => by have := hfr1.out k e; omega))
 have cb3 : Hid _ := (hs3.block w.heap.size (blt cb2.out) (fun e => by have := hfr1.out _ e; omega)).trans cb2.out
 have e3 : w3.cell? (aq w.heap.size 3) = some (iv n3) := by rw [Joins.cell_of_block cb3.out]; rfl
 have e7 : w3.cell? (aq w.heap.size 7) = some (.slice (some (aq b off)) len cap) := by rw [Joins.cell_of_block cb3.out]; rfl
 have q0 := (hb3.out.cell (p := (aq b off)) hb).trans HP0.out
 have q1 := (hb3.out.cell (p := (aq b (off + 1))) hb).trans HP1.out
 have hbw3 : b < w3.heap.size := Nat.lt_of_lt_of_le hb hb3.out.size
 have hww3 : w.heap.size < w3.heap.size := (blt cb3.out)
 clear hs3 hFr hp2 hb2 cb2 HSend
 go_wp2_with fail
 go_quiet (fail)
 go_wp2
 refine bodyPost_ret (v := .bool true) (by simp [results, Tryz.results20, go_sem]) rfl ⟨rfl, ?_⟩
 repeat (first | exact hb3.out | refine Below.drew ?_ | refine below_drewN ?_ | refine Below.alloc ?_ (by omega) _)
theorem open_none (n0 n1 n2 n3 n4 n5 n6 : Int) (a sa : Option Addr) (len cap sl sc : Nat) (w : World)
 (HO : Hid (∀ W, Below w.heap.size w W → Calls Tryz.prog 18 #[.agg #[iv n0, iv n1, iv n2, iv n3, iv n4, iv n5, iv n6, .slice a len cap]] W fun e w' => e = .returned (.tuple #[.pointer none, iv 1]) ∧ Below W.heap.size W w'))
 (HR : Hid (∀ W, Below w.heap.size w W → Calls Tryz.prog 19 #[.agg #[iv n0, iv n1, iv n2, iv n3, iv n4, iv n5, iv n6, .slice a len cap]] W fun e w' => e = .returned (.bool false) ∧ Below W.heap.size W w')) :
 Calls Tryz.prog 7 #[.agg #[iv n0, iv n1, iv n2, iv n3, iv n4, iv n5, iv n6, .slice a len cap, .slice sa sl sc]] w fun e w' => e = .returned (.tuple #[.pointer none, .bool true]) ∧ Below w.heap.size w w' := by
 go_enter Tryz.func7, Tryz.ntmps7
 go_wp2_with fail
 refine (HO.out _ bL).mono ?_
 rintro e w1 ⟨rfl, b1⟩
 have hb1 : Hid (Below w.heap.size w w1) := Below.trans (show Below w.heap.size w _ from bL) (b1.mono (by simp))
 have cb1 := (b1.block w.heap.size (by simp)).trans (heap_alloc_new w _)
 obtain ⟨k0, k1, k2, k3, k4, k5, k6, k7, k8⟩ := nineK cb1
 have l1 : w.heap.size < w1.heap.size := (blt cb1)
 clear b1 HO cb1
 go_wp2_with fail
 refine (HR.out _ hb1.out).mono ?_
 rintro e w2 ⟨rfl, b2⟩
 have hb2 : Hid (Below w.heap.size w w2) := hb1.out.trans (b2.mono hb1.out.size)
 clear b2 hb1 HR k0 k1 k2 k3 k4 k5 k6 k7 k8
 go_wp2
 refine bodyPost_ret (v := .tuple #[.pointer none, .bool true]) (by simp [results, Tryz.results7, go_sem]) rfl ⟨rfl, ?_⟩
 repeat (first | exact hb2.out | refine Below.drew ?_ | refine below_drewN ?_)
theorem open_some (n0 n1 n2 n3 n4 n5 n6 : Int) (a sa : Option Addr) (len cap sl sc : Nat) (w : World) (P0 : Nat → World → (Nat → Prop) → Prop) (K0 : ∀ x, Keeps (P0 x))
 (HO : Hid (∀ W, Below w.heap.size w W → Calls Tryz.prog 18 #[.agg #[iv n0, iv n1, iv n2, iv n3, iv n4, iv n5, iv n6, .slice a len cap]] W fun e w' => ∃ x own, e = .returned (.tuple #[pt x 0, iv 0]) ∧ P0 x w' own ∧ (∀ k, own k → W.heap.size ≤ k) ∧ Below W.heap.size W w'))
 (HR : Hid (∀ W, Below w.heap.size w W → Calls Tryz.prog 19 #[.agg #[iv n0, iv n1, iv n2, iv n3, iv n4, iv n5, iv n6, .slice a len cap]] W fun e w' => e = .returned (.bool true) ∧ Below W.heap.size W w'))
 (HS : Hid (∀ W, Below w.heap.size w W → Calls Tryz.prog 20 #[.agg #[iv n0, iv n1, iv n2, iv n3, iv n4, iv n5, iv n6, .slice a len cap]] W fun e w' => e = .returned (.bool true) ∧ Below W.heap.size W w')) :
 Calls Tryz.prog 7 #[.agg #[iv n0, iv n1, iv n2, iv n3, iv n4, iv n5, iv n6, .slice a len cap, .slice sa sl sc]] w fun e w' => ∃ x own, e = .returned (.tuple #[pt x 0, .bool true]) ∧ P0 x w' own ∧ (∀ k, own k → w.heap.size ≤ k) ∧ Below w.heap.size w w' := by
 go_enter Tryz.func7, Tryz.ntmps7
 go_wp2_with fail
 refine (HO.out _ bL).mono ?_
 rintro e w1 ⟨x, own, rfl, hp, hfr, b1⟩
 have hb1 : Hid (Below w.heap.size w w1) := Below.trans (show Below w.heap.size w _ from bL) (b1.mono (by simp))
 have hfr1 : Hid (∀ k, own k → w.heap.size ≤ k) := fun k e => Nat.le_trans (by simp) (hfr k e)
 have cb1 := (b1.block w.heap.size (by simp)).trans (heap_alloc_new w _)
 obtain ⟨k0, k1, k2, k3, k4, k5, k6, k7, k8⟩ := nineK cb1
 have l1 : w.heap.size < w1.heap.size := (blt cb1)
 replace hp : Hid (P0 x w1 own) := hp
 replace cb1 : Hid _ := cb1
 clear b1 HO hfr
 go_wp2_with fail
 refine (HR.out _ hb1.out).mono ?_
 rintro e w2 ⟨rfl, b2⟩
 have hb2 : Hid (Below w.heap.size w w2) := hb1.out.trans (b2.mono hb1.out.size)
 have hp2 : Hid (P0 x w2 own) := (K0 x).keep hp.out b2.size (fun k e => b2.block k ((K0 x).lt hp.out k e))
 have cb2 := (b2.block w.heap.size l1).trans cb1.out
 clear b2 hb1 HR k0 k1 k2 k3 k4 k5 k6 k7 k8 hp l1 cb1
 obtain ⟨k0, k1, k2, k3, k4, k5, k6, k7, k8⟩ := nineK cb2
 have l2 : w.heap.size < w2.heap.size := (blt cb2)
 clear cb2
 go_wp2_with fail
 refine (HS.out _ hb2.out).mono ?_
 rintro e w3 ⟨rfl, b3⟩
 have hb3 : Hid (Below w.heap.size w w3) := hb2.out.trans (b3.mono hb2.out.size)
 have hp3 : Hid (P0 x w3 own) := (K0 x).keep hp2.out b3.size (fun k e => b3.block k ((K0 x).lt hp2.out k e))
 clear b3 hb2 hp2 k0 k1 k2 k3 k4 k5 k6 k7 k8 HS
 go_wp2
 refine bodyPost_ret (v := .tuple #[pt x 0, .bool true]) (by simp [results, Tryz.results7, go_sem]) rfl ⟨x, own, rfl, hp3.out, hfr1.out, ?_⟩
 exact hb3.out
theorem quiet_walk (n : Nat) (v0 v1 v2 v3 v4 v5 v6 v7 : Value) (sa : Option Addr) (sc : Nat) (ps : List Stp) (w : World) (Q : Nat → World → (Nat → Prop) → Prop) (KQ : ∀ x, Keeps (Q x)) (P Pm : Nat → Nat → Nat → World → (Nat → Prop) → Prop) (KP : ∀ a b j, Keeps (P a b j)) (KPm : ∀ a b j, Keeps (Pm a b j)) (rep : Nat → Rep) (hn : n ≤ 4611686018427387904) (hps : stepsAt w sa n ps)
 (HO : Hid (∀ W, Below w.heap.size w W → Calls Tryz.prog 7 #[.agg #[v0, v1, v2, v3, v4, v5, v6, v7, .slice sa n sc]] W fun e w' => ∃ x own, e = .returned (.tuple #[pt x 0, .bool true]) ∧ Q x w' own ∧ (∀ k, own k → W.heap.size ≤ k) ∧ Below W.heap.size W w'))
 (HP0 : Hid (∀ a b W o1 o2 o, Q a W o1 → Q b W o2 → (∀ k, o1 k → ¬ o2 k) → (∀ k, o k ↔ o1 k ∨ o2 k) → P a b 0 W o))
 (HN : Hid (∀ a b j, j < n → ∀ W o, P a b j W o → Calls Tryz.prog 16 #[.agg #[v0, v1, v2, v3, v4, v5, v6, v7, .slice sa n sc], pt b 0, iv (j : Int)] W fun e w' => e = .returned (.bool true) ∧ ansP (P a b j) W w' o))
 (HDa : Hid (∀ a b j, j < n → ∀ W o, P a b j W o → Calls Tryz.prog 15 #[pt a 0, .agg #[iv (ps.getD j stp0).n, iv (ps.getD j stp0).k, iv (ps.getD j stp0).t, iv (ps.getD j stp0).c, iv (ps.getD j stp0).u, iv (ps.getD j stp0).o]] W fun e w' => e = .returned (.tuple #[.agg #[iv (rep j).kind, iv (rep j).order, iv (rep j).cents, iv (rep j).upto], .bool true]) ∧ ansP (Pm a b j) W w' o))
 (HDb : Hid (∀ a b j, j < n → ∀ W o, Pm a b j W o → Calls Tryz.prog 15 #[pt b 0, .agg #[iv (ps.getD j stp0).n, iv (ps.getD j stp0).k, iv (ps.getD j stp0).t, iv (ps.getD j stp0).c, iv (ps.getD j stp0).u, iv (ps.getD j stp0).o]] W fun e w' => e = .returned (.tuple #[.agg #[iv (rep j).kind, iv (rep j).order, iv (rep j).cents, iv (rep j).upto], .bool true]) ∧ ansP (P a b (j + 1)) W w' o))
 (HAl : Hid (∀ a b W o, P a b n W o → stepsAt W sa n ps → (∀ c off, sa = some (aq c off) → ps ≠ [] → ¬ o c) → Calls Tryz.prog 14 #[.agg #[v0, v1, v2, v3, v4, v5, v6, v7, .slice sa n sc], pt a 0, pt b 0] W fun e w' => e = .returned (.bool true) ∧ ansP (P a b n) W w' o)) :
 Calls Tryz.prog 5 #[.agg #[v0, v1, v2, v3, v4, v5, v6, v7, .slice sa n sc]] w fun e w' => e = .returned (.bool true) ∧ Below w.heap.size w w' := by
 have hlen : ps.length = n := hps.1
 go_enter Tryz.func5, Tryz.ntmps5
 go_wp2_with fail
 refine (HO.out _ ((Below.refl _ _).alloc (Nat.le_refl _) _)).mono ?_
 rintro e W1 ⟨xa, oa, rfl, hqa, hfa, b1⟩
 have hb1 : Below w.heap.size w W1 := Below.trans ((Below.refl _ _).alloc (Nat.le_refl _) _) (b1.mono (by simp))
 have x1 : Hid _ := (b1.block w.heap.size (by simp)).trans (heap_alloc_new w (.cells #[v0, v1, v2, v3, v4, v5, v6, v7, .slice sa n sc] 27))
 have hfa1 : ∀ k, oa k → w.heap.size + 1 ≤ k := fun k e => Nat.le_trans (by simp) (hfa k e)
 obtain ⟨k0, k1, k2, k3, k4, k5, k6, k7, k8⟩ := nineK x1.out
 have l1 : w.heap.size < W1.heap.size := (blt x1.out)
 replace hqa : Hid _ := hqa
 replace hfa1 : Hid _ := hfa1
 replace hb1 : Hid _ := hb1
 clear b1 hfa
 go_wp2_with fail
 refine (HO.out _ hb1.out).mono ?_
 rintro e W2 ⟨xb, ob, rfl, hqb, hfb, b2⟩
 clear k0 k1 k2 k3 k4 k5 k6 k7 k8
 have hb2 : Hid (Below w.heap.size w W2) := hb1.out.trans (b2.mono hb1.out.size)
 have x2 : Hid _ := (b2.block w.heap.size l1).trans x1.out
 have hqa2 : Q xa W2 oa := (KQ xa).keep hqa.out b2.size (fun k e => b2.block k ((KQ xa).lt hqa.out k e))
 have hdis2 : ∀ k, oa k → ¬ ob k := fun k e c => by
  have h1 := (KQ xa).lt hqa.out k e
  have h2 := hfb k c
  omega
 obtain ⟨own2, hiff⟩ : ∃ own2 : Nat → Prop, ∀ k, own2 k ↔ oa k ∨ ob k := ⟨fun k => oa k ∨ ob k, fun _ => Iff.rfl⟩
 have hown : Hid (∀ k, own2 k → w.heap.size + 1 ≤ k) := fun k e => ((hiff k).1 e).elim (hfa1.out k) (fun e => by have := hfb k e; omega)
 have hp2 : Hid (P xa xb 0 W2 own2) := HP0.out xa xb W2 oa ob own2 hqa2 hqb hdis2 hiff
 have l2 : w.heap.size < W2.heap.size := (blt x2.out)
 have HS2 : Hid (∀ W, Same own2 W2 W → stepsAt W sa n ps) := fun W hs => ⟨hps.1, fun hne => by
  obtain ⟨b, off, e, hb, hc⟩ := hps.2 hne
  have hbW := hb2.out.block b hb
  have hk := (hs.block b (by omega) (fun c => by have := hown.out b c; omega)).trans hbW
  exact ⟨b, off, e, by have := hs.size; omega, fun i hi => stpAt_keep (hc i hi) hk⟩⟩
 have HX2 : Hid (∀ W, Same own2 W2 W → W.heap[w.heap.size]? = some (.cells #[v0, v1, v2, v3, v4, v5, v6, v7, .slice sa n sc] 27 (0, 0))) := fun W hs => (hs.block _ l2 (fun e => by have := hown.out _ e; omega)).trans x2.out
 have HD2 : Hid (∀ b off, sa = some (aq b off) → ps ≠ [] → ¬ own2 b) := fun b off e hne c => by
  obtain ⟨b', off', e', hb, _⟩ := hps.2 hne
  rw [e] at e'
  simp only [Option.some.injEq, Addr.mk.injEq] at e'
  have := hown.out b c
  omega
 have HE2 : Hid (∀ W, ansP (P xa xb n) W2 W own2 → Below w.heap.size w W) := fun W h => by
  obtain ⟨_, _, hs, _⟩ := h
  exact hb2.out.trans (hs.toBelow hb2.out.size (fun k e => by have := hown.out k e; omega))
 have HW2 : Hid (∀ k, own2 k → k < W2.heap.size) := (KP xa xb 0).lt hp2.out
 obtain ⟨k0, k1, k2, k3, k4, k5, k6, k7, k8⟩ := nineK x2.out
 clear hqa2 hqb hdis2 hfb b2 hqa hfa1 hb1 x1 hown l1 hiff
 go_wp2_with fail
 clear k0 k1 k2 k3 k4 k5 k6 k7 k8
 have hT2 : Hid (seenL (P xa xb 0) W2 own2 (fun _ => False) W2) := seenL_start (KP xa xb 0) hp2.out (Below.refl _ _) (fun _ e => e.elim)
 go_loopw [6] (fun i wr => ∃ j : Nat, j ≤ n ∧ i = iv j ∧ Hid (seenL (P xa xb j) W2 own2 (fun _ => False) wr)) (fun i _ => n - (intOf i).toNat)
 case atStart => exact ⟨0, Nat.zero_le _, rfl, hT2⟩
 case round =>
  obtain ⟨j, hj, rfl, HK⟩ := hrel
  clear hT2 hp2 HP0 HO hb2 x2 l2
  have HXj : Hid _ := HX2.out
  by_cases hlt : j < n
  ·obtain ⟨b, off, hsa, _, _⟩ := (HS2.out wr (seenL_same HK.out)).2 (by intro e; rw [e] at hlen; simp at hlen; omega)
   have HNj : Hid _ := seenL_call (loc := fun _ => False) HW2.out (HN.out xa xb j hlt)
   have HDaj : Hid _ := seenL_call (loc := fun _ => False) HW2.out (HDa.out xa xb j hlt)
   have HDbj : Hid (∀ pz W, seenL (Pm xa xb j) W2 own2 (fun k => False ∨ k = pz) W → _) := fun pz W hW => seenL_call (loc := fun k => False ∨ k = pz) HW2.out (HDb.out xa xb j hlt) W hW
   have bj0 : (0 : Int) ≤ (j : Int) := by omega
   have bj1 : (j : Int) < (n : Int) := by omega
   have hwj : IntKind.i64.wrap ((j : Int) + 1) = (j : Int) + 1 := wrap_in (by omega) (by omega)
   have HSj : Hid (∀ W, Same own2 W2 W → b < W.heap.size ∧ stpAt W b (off + j * 6) (ps.getD j stp0)) := by
    intro W hs
    obtain ⟨b', off', e, hb', hc⟩ := (HS2.out W hs).2 (by intro e; rw [e] at hlen; simp at hlen; omega)
    rw [hsa] at e
    simp only [Option.some.injEq, Addr.mk.injEq] at e
    obtain ⟨rfl, rfl, _⟩ := e
    exact ⟨hb', hc j hlt⟩
   have KPj := KP xa xb j
   have KMj := KPm xa xb j
   have KPj1 := KP xa xb (j + 1)
   have HNX : Hid (∀ wr', seenL (P xa xb (j + 1)) W2 own2 (fun _ => False) wr' → ∃ j' : Nat, j' ≤ n ∧ Value.int .i64 ((j : Int) + 1) = iv j' ∧ Hid (seenL (P xa xb j') W2 own2 (fun _ => False) wr')) := fun wr' h => ⟨j + 1, by omega, by simp, h⟩
   generalize ps.getD j stp0 = pj at HDaj HDbj HSj
   obtain ⟨pn, pk, pt, pc, pu, po⟩ := pj
   generalize rep j = rj at HDaj HDbj
   obtain ⟨r1, r2, r3, r4⟩ := rj
   simp only at HDaj HDbj HSj
   subst hsa
   clear HN HDa HDb HAl HS2 HX2 HD2 HE2
   generalize P xa xb j = Pj at HK HNj HDaj KPj
   generalize Pm xa xb j = Mj at HDaj HDbj KMj
   generalize P xa xb (j + 1) = Pj1 at HDbj KPj1 HNX
   obtain ⟨k0, k1, k2, k3, k4, k5, k6, k7, k8⟩ := nineK (HXj.out wr (seenL_same HK.out))
   obtain ⟨hb, s0, s1, s2, s3, s4, s5⟩ := HSj.out wr (seenL_same HK.out)
   have lx : w.heap.size < wr.heap.size := (Array.getElem?_eq_some_iff.1 (HXj.out wr (seenL_same HK.out))).1
   go_wp2_with fail
   refine (HNj.out _ (seenL_below KPj HK.out bL)).mono ?_
   rintro e V1 ⟨rfl, hV1, hk⟩
   clear k0 k1 k2 k3 k4 k5 k6 k7 k8 hb s0 s1 s2 s3 s4 s5 lx
   obtain ⟨k0, k1, k2, k3, k4, k5, k6, k7, k8⟩ := nineK (HXj.out V1 (seenL_same hV1))
   obtain ⟨hb, s0, s1, s2, s3, s4, s5⟩ := HSj.out V1 (seenL_same hV1)
   have lx : w.heap.size < V1.heap.size := (Array.getElem?_eq_some_iff.1 (HXj.out V1 (seenL_same hV1))).1
   replace hV1 : Hid _ := hV1
   clear hk HK HNj
   go_wp2_with fail
   refine (HDaj.out _ (seenL_below KPj hV1.out bL)).mono ?_
   rintro e V2 ⟨rfl, hV2, hk⟩
   clear k0 k1 k2 k3 k4 k5 k6 k7 k8 hb s0 s1 s2 s3 s4 s5 lx
   obtain ⟨k0, k1, k2, k3, k4, k5, k6, k7, k8⟩ := nineK (HXj.out V2 (seenL_same hV2))
   obtain ⟨hb, s0, s1, s2, s3, s4, s5⟩ := HSj.out V2 (seenL_same hV2)
   have lx : w.heap.size < V2.heap.size := (Array.getElem?_eq_some_iff.1 (HXj.out V2 (seenL_same hV2))).1
   have hU2 : Hid (seenL Mj W2 own2 (fun k => False ∨ k = V2.heap.size) (V2.alloc (.cells #[iv r1, iv r2, iv r3, iv r4] 33))) := seenL_alloc KMj hV2 _
   have p2 : Hid ((V2.alloc (.cells #[iv r1, iv r2, iv r3, iv r4] 33)).heap[V2.heap.size]? = some (.cells #[iv r1, iv r2, iv r3, iv r4] 33 (0, 0))) := heap_alloc_new V2 _
   clear hk hV1 HDaj hV2
   go_wp2_with fail
   generalize V2.alloc (.cells #[iv r1, iv r2, iv r3, iv r4] 33) = U2 at hU2 p2 ⊢
   clear k0 k1 k2 k3 k4 k5 k6 k7 k8 hb s0 s1 s2 s3 s4 s5 lx
   generalize V2.heap.size = pz at hU2 p2 ⊢
   refine (HDbj.out _ _ (seenL_below KMj hU2.out bL)).mono ?_
   rintro e V3 ⟨rfl, hV3, hk⟩
   have p3 : Hid _ := (hk _ (.inr rfl)).trans p2.out
   obtain ⟨q0, q1, q2, q3⟩ := fourK p3.out
   have lp3 : pz < V3.heap.size := (blt p3.out)
   have ne3 : V3.heap.size ≠ pz := by omega
   have hU3 : Hid (seenL Pj1 W2 own2 (fun _ => False) (V3.alloc (.cells #[iv r1, iv r2, iv r3, iv r4] 33))) := seenL_drop (seenL_alloc KPj1 hV3 _)
   clear hk hU2 p2 HDbj hV3 HXj HSj
   go_wp2_with fail
   go_roundw
   case rel => first | exact HNX.out _ (seenL_below KPj1 hU3.out bL) | (rw [hwj]; exact HNX.out _ (seenL_below KPj1 hU3.out bL))
   case measure => simp [intOf]; omega
  ·have hje : j = n := by omega
   subst hje
   obtain ⟨k0, k1, k2, k3, k4, k5, k6, k7, k8⟩ := nineK (HX2.out wr (seenL_same HK.out))
   have lx : w.heap.size < wr.heap.size := (Array.getElem?_eq_some_iff.1 (HX2.out wr (seenL_same HK.out))).1
   have HAs : Hid (∀ W, seenL (P xa xb j) W2 own2 (fun _ => False) W → Calls Tryz.prog 14 #[.agg #[v0, v1, v2, v3, v4, v5, v6, v7, .slice sa j sc], pt xa 0, pt xb 0] W fun e w' => e = .returned (.bool true) ∧ ansP (P xa xb j) W2 w' own2) := fun W hW => by
    have hst := HS2.out W (seenL_same hW)
    obtain ⟨o1, a1, a2, a3, a4⟩ := hW
    refine (HAl.out xa xb W o1 a1 hst (fun c off e hne c2 => ?_)).mono ?_
    ·rcases a3 c c2 with c3 | c3
     ·exact HD2.out c off e hne c3
     ·obtain ⟨b', off', e', hb', _⟩ := hst.2 hne
      obtain ⟨b2, off2, e2, hb2, _⟩ := (HS2.out W2 ⟨rfl, rfl, rfl, Nat.le_refl _, fun _ _ _ => rfl⟩).2 hne
      rw [e] at e2
      simp only [Option.some.injEq, Addr.mk.injEq] at e2
      omega
    ·rintro e w' ⟨rfl, o2, c1, c2, c3⟩
     have z1 := a2.size
     exact ⟨rfl, o2, c1, Same.trans a2 c2 (fun k hk e => e.elim id (fun e => (a3 k e).elim id (fun e => by omega))), fun k e => (c3 k e).elim (fun d => (a3 k d).imp id (fun e => e.1)) (fun e => .inr (by omega))⟩
   clear HAl HN HDa HDb HS2 HX2 HD2 HXj
   go_wp2_with fail
   refine (HAs.out _ (seenL_below (KP xa xb j) HK.out bL)).mono ?_
   rintro e W5 ⟨rfl, hA⟩
   have hE : Hid _ := HE2.out _ hA
   clear hA HAs
   go_wp2
   refine bodyPost_ret (v := .bool true) (by simp [results, Tryz.results5, go_sem]) rfl ⟨rfl, bL⟩
theorem quiet_none (v0 v1 v2 v3 v4 v5 v6 v7 : Value) (sa : Option Addr) (n sc : Nat) (w : World)
 (HO : Hid (∀ W, Below w.heap.size w W → Calls Tryz.prog 7 #[.agg #[v0, v1, v2, v3, v4, v5, v6, v7, .slice sa n sc]] W fun e w' => e = .returned (.tuple #[.pointer none, .bool true]) ∧ Below W.heap.size W w')) :
 Calls Tryz.prog 5 #[.agg #[v0, v1, v2, v3, v4, v5, v6, v7, .slice sa n sc]] w fun e w' => e = .returned (.bool true) ∧ Below w.heap.size w w' := by
 go_enter Tryz.func5, Tryz.ntmps5
 go_wp2_with fail
 refine (HO.out _ ((Below.refl _ _).alloc (Nat.le_refl _) _)).mono ?_
 rintro e W1 ⟨rfl, b1⟩
 have hb1 : Hid (Below w.heap.size w W1) := Below.trans ((Below.refl _ _).alloc (Nat.le_refl _) _) (b1.mono (by simp))
 clear b1 HO
 go_wp2
 refine bodyPost_ret (v := .bool true) (by simp [results, Tryz.results5, go_sem]) rfl ⟨rfl, bL⟩
theorem fits_yes (k t c u o pk po pc pu : Int) (w : World) (hB : isB k (bareT k t) c (bareU k u) (bareO k o) = true) (hf : fitP k (bareO k o) pk po pc pu) :
 Calls Tryz.prog 29 #[.agg #[iv k, iv t, iv c, iv u, iv o], .agg #[iv pk, iv po, iv pc, iv pu]] w fun e w' => e = .returned (.bool true) ∧ Below w.heap.size w w' := by
 have HIS : ∀ W, Calls Tryz.prog 10 #[.agg #[iv k, iv (bareT k t), iv c, iv (bareU k u), iv (bareO k o)]] W fun e w' => e = .returned (.bool true) ∧ Below W.heap.size W w' := fun W => by
  have := is_any k (bareT k t) c (bareU k u) (bareO k o) W
  rw [hB] at this
  exact this
 rcases hf with ⟨rfl, hf⟩ | ⟨rfl, hf⟩ | ⟨rfl, hf⟩ | ⟨rfl, hf⟩
 ·exact fits_1 t c u o _ _ _ pk po pc pu w (fun W => bare_any 1 t c u o W) HIS hf
 ·exact fits_2 t c u o _ _ _ pk po pc pu w (fun W => bare_any 2 t c u o W) HIS hf
 ·exact fits_3 t c u o _ _ _ pk po pc pu w (fun W => bare_any 3 t c u o W) HIS hf
 ·exact fits_4 t c u o _ _ _ pk po pc pu w (fun W => bare_any 4 t c u o W) HIS hf
theorem fits_no (k t c u o : Int) (w : World) (hB : isB k (bareT k t) c (bareU k u) (bareO k o) = false) :
 Calls Tryz.prog 29 #[.agg #[iv k, iv t, iv c, iv u, iv o], .agg #[iv 1, iv 0, iv 0, iv 0]] w fun e w' => e = .returned (.bool true) ∧ Below w.heap.size w w' :=
 fits_bad k t c u o _ _ _ w (fun W => bare_any k t c u o W) (fun W => by
  have := is_any k (bareT k t) c (bareU k u) (bareO k o) W
  rw [hB] at this
  exact this)
theorem tick_no (x : Nat) (n : Int) (w : World) (hn : n < 0) :
 Calls Tryz.prog 30 #[pt x 0, iv n] w fun e w' => e = .returned (.tuple #[iv 0, iv 3]) ∧ Below w.heap.size w w' := by
 go_enter Tryz.func30, Tryz.ntmps30
 go_wp2
 refine bodyPost_ret (v := .tuple #[iv 0, iv 3]) (by simp [results, Tryz.results30, go_sem]) rfl ⟨rfl, bL⟩
theorem tick_yes (x : Nat) (n now to : Int) (w : World) (own : Nat → Prop) (P0 PE : World → (Nat → Prop) → Prop) (K0 : Keeps P0) (KE : Keeps PE) (h : P0 w own) (hn : ¬ n < 0) (hn2 : n ≤ 9223372036854775807) (hb : 0 ≤ now ∧ now ≤ 4611686018427387904)
 (hto : (n < 4611686018427387904 - now ∧ to = now + n) ∨ (¬ n < 4611686018427387904 - now ∧ to = 4611686018427387904))
 (HX : Hid (∀ W o, P0 W o → x < W.heap.size ∧ W.cell? (aq x 8) = some (iv now)))
 (HY : Hid (∀ W o, PE W o → x < W.heap.size ∧ W.cell? (aq x 8) = some (iv to)))
 (HG : Hid (∀ W o, P0 W o → Calls Tryz.prog 47 #[pt x 0, iv to] W fun e w' => e = .returned (.tuple #[]) ∧ ansP PE W w' o)) :
 Calls Tryz.prog 30 #[pt x 0, iv n] w fun e w' => e = .returned (.tuple #[iv to, iv 0]) ∧ ansP PE w w' own := by
 obtain ⟨hx, c8⟩ := HX.out w own h
 have hw1 : IntKind.i64.wrap (4611686018427387904 - now) = 4611686018427387904 - now := wrap_in (by omega) (by omega)
 obtain ⟨hb0, hb1⟩ := hb
 have hT0 : Hid (seenT P0 w own 0 w) := seen_start K0 h (Below.refl _ _) (Nat.le_refl _)
 have HGs : Hid (∀ W, seenT P0 w own 0 W → Calls Tryz.prog 47 #[pt x 0, iv to] W fun e w' => e = .returned (.tuple #[]) ∧ seenT PE w own 0 w' ∧ ∀ b, w.heap.size ≤ b → b < w.heap.size + 0 → w'.heap[b]? = W.heap[b]?) := fun W hW => seen_call (K0.lt h) HG.out W hW
 clear h HX HG
 rcases hto with ⟨hlt, rfl⟩ | ⟨hlt, rfl⟩
 ·have hw2 : IntKind.i64.wrap (now + n) = now + n := wrap_in (by omega) (by omega)
  go_enter Tryz.func30, Tryz.ntmps30
  go_wp2_with fail
  refine (HGs.out _ (seen_below K0 hT0.out bL)).mono ?_
  rintro e W1 ⟨rfl, hT1, _⟩
  obtain ⟨hx1, d8⟩ : x < W1.heap.size ∧ W1.cell? (aq x 8) = some (iv (now + n)) := by
   obtain ⟨o1, a1, _⟩ := hT1
   exact HY.out W1 o1 a1
  replace hT1 : Hid _ := hT1
  clear hT0 c8 HY
  go_wp2
  refine bodyPost_ret (v := .tuple #[iv (now + n), iv 0]) (by simp [results, Tryz.results30, go_sem]) rfl ⟨rfl, seen_end (seen_below KE hT1.out bL)⟩
 ·go_enter Tryz.func30, Tryz.ntmps30
  go_wp2_with fail
  refine (HGs.out _ (seen_below K0 hT0.out bL)).mono ?_
  rintro e W1 ⟨rfl, hT1, _⟩
  obtain ⟨hx1, d8⟩ : x < W1.heap.size ∧ W1.cell? (aq x 8) = some (iv 4611686018427387904) := by
   obtain ⟨o1, a1, _⟩ := hT1
   exact HY.out W1 o1 a1
  replace hT1 : Hid _ := hT1
  clear hT0 c8 HY
  go_wp2
  refine bodyPost_ret (v := .tuple #[iv 4611686018427387904, iv 0]) (by simp [results, Tryz.results30, go_sem]) rfl ⟨rfl, seen_end (seen_below KE hT1.out bL)⟩
theorem tickTo_keeps (S : Sal) (to : Int) : (S.tickTo to).C = S.C ∧ (S.tickTo to).ansL = S.ansL ∧ (S.tickTo to).os.length = S.os.length := tickN_keep _ S to
theorem tickN_at : ∀ (n : Nat) (S : Sal) (to : Int), (tickN n S to).now = to
 | 0, _, _ => rfl
 | n + 1, S, to => by
   unfold tickN
   split
   ·rfl
   ·exact tickN_at n _ to
theorem tickTo_at (S : Sal) (to : Int) : (S.tickTo to).now = to := tickN_at _ S to
theorem tickW : TickOK PSW where
 tick := by
  intro w x own S n hn1 hn2 h hJ
  obtain ⟨hp, hR⟩ := h
  by_cases hn : n < 0
  ·have e : S.tick n = ((0, 3), S) := by unfold Sal.tick; rw [if_pos hn]
   rw [e]
   refine (tick_no x n w hn).mono ?_
   rintro e w' ⟨rfl, hb⟩
   obtain ⟨o', a1, a2, a3⟩ := ansP_below (keepX S.now x S S.os.length) hp hb
   exact ⟨rfl, o', ⟨a1, hR⟩, a2, a3⟩
  ·have h0 := hJ.I.now
   obtain ⟨to, hto, e⟩ : ∃ to, ((n < 4611686018427387904 - S.now ∧ to = S.now + n) ∨ (¬ n < 4611686018427387904 - S.now ∧ to = 4611686018427387904)) ∧ S.tick n = ((to, 0), S.tickTo to) := by
    unfold Sal.tick
    rw [if_neg hn]
    by_cases hlt : n < 4611686018427387904 - S.now
    ·exact ⟨_, .inl ⟨hlt, rfl⟩, by rw [if_pos hlt]⟩
    ·exact ⟨_, .inr ⟨hlt, rfl⟩, by rw [if_neg hlt]⟩
   have hto1 : S.now ≤ to ∧ to ≤ 4611686018427387904 := by rcases hto with ⟨a, rfl⟩ | ⟨a, rfl⟩ <;> omega
   rw [e]
   have KE : Keeps (fun W o => psx to x (S.tickTo to) S.os.length W o ∧ restP (S.tickTo to)) := ⟨fun h => (keepX _ _ _ _).lt h.1, fun h hz hk => ⟨(keepX _ _ _ _).keep h.1 hz hk, h.2⟩⟩
   refine (tick_yes x n S.now to w own (psx S.now x S S.os.length) _ (keepX _ _ _ _) KE hp hn hn2 h0 hto (fun W o hp => ⟨psx_x hp, (psx_cells hp).2.2.2.1⟩) (fun W o hp => ⟨psx_x hp.1, ?_⟩) (fun W o hp => goOn_s hJ hR hto1.1 hto1.2 hp)).mono ?_
   ·have := (psx_cells hp.1).2.2.2.1
    rwa [tickTo_at] at this
   ·rintro e w' ⟨rfl, o', a1, a2, a3⟩
    refine ⟨rfl, o', ⟨?_, a1.2⟩, a2, a3⟩
    have := a1.1
    show psx (S.tickTo to).now x (S.tickTo to) (S.tickTo to).os.length w' o'
    rw [tickTo_at, (tickTo_keeps S to).2.2]
    exact this
 clock := by
  intro w x own S h hJ
  obtain ⟨hp, hR⟩ := h
  refine (clock_w x S.now w (psx_cells hp).2.2.2.1).mono ?_
  rintro e w' ⟨rfl, hb⟩
  obtain ⟨o', a1, a2, a3⟩ := ansP_below (keepX S.now x S S.os.length) hp hb
  exact ⟨rfl, o', ⟨a1, hR⟩, a2, a3⟩
end Go.Proofs.YtfhncfghblkgeabGreat
