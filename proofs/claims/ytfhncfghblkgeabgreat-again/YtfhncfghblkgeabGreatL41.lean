import Derived.Test.YtfhncfghblkgeabGreatL33
import Derived.Test.YtfhncfghblkgeabGreatL37
import Derived.Test.YtfhncfghblkgeabGreatL38
import Derived.Test.YtfhncfghblkgeabGreatL39
import Derived.Test.YtfhncfghblkgeabGreatL40
set_option maxRecDepth 100000
set_option maxHeartbeats 2000000
namespace Go.Proofs.YtfhncfghblkgeabGreat
open Go.RowKit
theorem alike_walk (xa xb n : Nat) (v0 v1 v2 v3 v4 v5 v6 v7 : Value) (sa : Option Addr) (sc : Nat) (ps : List Stp) (w : World) (own : Nat → Prop) (P : World → (Nat → Prop) → Prop) (K : Keeps P) (h : P w own) (b0 b1 b2 b3 b4 now : Int) (hn : n ≤ 4611686018427387904) (hps : stepsAt w sa n ps) (hdis : ∀ b off, sa = some (aq b off) → ps ≠ [] → ¬ own b)
 (acc : Int → Int × Int × Int × Int) (rep : Int → Int → Rep)
 (HBa : Hid (doesL w own P P 22 #[pt xa 0] (.agg #[iv b0, iv b1, iv b2, iv b3, iv b4])))
 (HBb : Hid (doesL w own P P 22 #[pt xb 0] (.agg #[iv b0, iv b1, iv b2, iv b3, iv b4])))
 (HCa : Hid (doesL w own P P 23 #[pt xa 0] (iv now)))
 (HCb : Hid (doesL w own P P 23 #[pt xb 0] (iv now)))
 (HAa : Hid (∀ c, doesL w own P P 24 #[pt xa 0, iv c] (.tuple #[.agg #[iv (acc c).1, iv (acc c).2.1, iv (acc c).2.2.1], iv (acc c).2.2.2])))
 (HAb : Hid (∀ c, doesL w own P P 24 #[pt xb 0, iv c] (.tuple #[.agg #[iv (acc c).1, iv (acc c).2.1, iv (acc c).2.2.1], iv (acc c).2.2.2])))
 (HPa : Hid (∀ (i : Nat), i < n → doesL w own P P 25 #[pt xa 0, iv (ps.getD i stp0).c, iv ((i : Int) + 1)] (.tuple #[.agg #[iv (rep (ps.getD i stp0).c ((i : Int) + 1)).kind, iv (rep (ps.getD i stp0).c ((i : Int) + 1)).order, iv (rep (ps.getD i stp0).c ((i : Int) + 1)).cents, iv (rep (ps.getD i stp0).c ((i : Int) + 1)).upto], .bool true])))
 (HPb : Hid (∀ (i : Nat), i < n → doesL w own P P 25 #[pt xb 0, iv (ps.getD i stp0).c, iv ((i : Int) + 1)] (.tuple #[.agg #[iv (rep (ps.getD i stp0).c ((i : Int) + 1)).kind, iv (rep (ps.getD i stp0).c ((i : Int) + 1)).order, iv (rep (ps.getD i stp0).c ((i : Int) + 1)).cents, iv (rep (ps.getD i stp0).c ((i : Int) + 1)).upto], .bool true]))) :
 Calls Tryz.prog 14 #[.agg #[v0, v1, v2, v3, v4, v5, v6, v7, .slice sa n sc], pt xa 0, pt xb 0] w fun e w' => e = .returned (.bool true) ∧ ansP P w w' own := by
 have HW : Hid (∀ k, own k → k < w.heap.size) := K.lt h
 have HS : Hid (∀ W, Same own w W → stepsAt W sa n ps) := fun W hs => ⟨hps.1, fun hne => by
  obtain ⟨b, off, e, hb, hc⟩ := hps.2 hne
  exact ⟨b, off, e, Nat.lt_of_lt_of_le hb hs.size, fun i hi => stpAt_keep (hc i hi) (hs.block b hb (hdis b off e hne))⟩⟩
 have hlen : ps.length = n := hps.1
 have hTx : Hid (seenL P w own (fun k => k = w.heap.size) (w.alloc (.cells #[v0, v1, v2, v3, v4, v5, v6, v7, .slice sa n sc] 27))) := seenL_start K h ((Below.refl _ _).alloc (Nat.le_refl _) _) (fun k e => by simp [e])
 have ybx : Hid ((w.alloc (.cells #[v0, v1, v2, v3, v4, v5, v6, v7, .slice sa n sc] 27)).heap[w.heap.size]? = some (.cells #[v0, v1, v2, v3, v4, v5, v6, v7, .slice sa n sc] 27 (0, 0))) := heap_alloc_new w _
 clear h hps hdis
 go_enter Tryz.func14, Tryz.ntmps14
 go_wp2_with fail
 generalize w.alloc (.cells #[v0, v1, v2, v3, v4, v5, v6, v7, .slice sa n sc] 27) = W0 at hTx ybx ⊢
 refine (HBa.out _ _ hTx.out).mono ?_
 rintro e W1 ⟨rfl, hT1, hk1⟩
 have yb1 : Hid _ := (hk1 _ rfl).trans ybx.out
 have lx1 : w.heap.size < W1.heap.size := (blt yb1.out)
 have hTm : Hid (seenL P w own (fun k => k = w.heap.size ∨ k = W1.heap.size) (W1.alloc (.cells #[iv b0, iv b1, iv b2, iv b3, iv b4] 61))) := seenL_alloc K hT1 _
 have ybm : Hid ((W1.alloc (.cells #[iv b0, iv b1, iv b2, iv b3, iv b4] 61)).heap[w.heap.size]? = _) := (Below.heap_alloc _ _ _ lx1).trans yb1.out
 have mbm : Hid ((W1.alloc (.cells #[iv b0, iv b1, iv b2, iv b3, iv b4] 61)).heap[W1.heap.size]? = some (.cells #[iv b0, iv b1, iv b2, iv b3, iv b4] 61 (0, 0))) := heap_alloc_new W1 _
 clear hk1 hT1 hTx ybx HBa yb1
 go_wp2_with fail
 generalize W1.alloc (.cells #[iv b0, iv b1, iv b2, iv b3, iv b4] 61) = Wm at hTm ybm mbm ⊢
 have hmz : W1.heap.size ≠ w.heap.size := by omega
 generalize W1.heap.size = mz at hTm mbm hmz ⊢
 clear lx1
 refine (HBb.out _ _ hTm.out).mono ?_
 rintro e W2 ⟨rfl, hT2, hk2⟩
 have yb2 : Hid _ := (hk2 _ (.inl rfl)).trans ybm.out
 have mb2 : Hid _ := (hk2 _ (.inr rfl)).trans mbm.out
 have lx2 : w.heap.size < W2.heap.size := (blt yb2.out)
 have lm2 : mz < W2.heap.size := (blt mb2.out)
 have hTn : Hid (seenL P w own (fun k => (k = w.heap.size ∨ k = mz) ∨ k = W2.heap.size) (W2.alloc (.cells #[iv b0, iv b1, iv b2, iv b3, iv b4] 61))) := seenL_alloc K hT2 _
 have ybn : Hid ((W2.alloc (.cells #[iv b0, iv b1, iv b2, iv b3, iv b4] 61)).heap[w.heap.size]? = _) := (Below.heap_alloc _ _ _ lx2).trans yb2.out
 have mbn : Hid ((W2.alloc (.cells #[iv b0, iv b1, iv b2, iv b3, iv b4] 61)).heap[mz]? = _) := (Below.heap_alloc _ _ _ lm2).trans mb2.out
 have nbn : Hid ((W2.alloc (.cells #[iv b0, iv b1, iv b2, iv b3, iv b4] 61)).heap[W2.heap.size]? = some (.cells #[iv b0, iv b1, iv b2, iv b3, iv b4] 61 (0, 0))) := heap_alloc_new W2 _
 clear hk2 hT2 hTm ybm mbm HBb yb2 mb2
 go_wp2_with fail
 generalize W2.alloc (.cells #[iv b0, iv b1, iv b2, iv b3, iv b4] 61) = Wn at hTn ybn mbn nbn ⊢
 have hnz1 : W2.heap.size ≠ w.heap.size := by omega
 have hnz2 : W2.heap.size ≠ mz := by omega
 generalize W2.heap.size = nz at hTn nbn hnz1 hnz2 ⊢
 clear lx2 lm2
 refine (HCa.out _ _ hTn.out).mono ?_
 rintro e W3 ⟨rfl, hT3, hk3⟩
 have yb3 : Hid _ := (hk3 _ (.inl (.inl rfl))).trans ybn.out
 have mb3 : Hid _ := (hk3 _ (.inl (.inr rfl))).trans mbn.out
 have nb3 : Hid _ := (hk3 _ (.inr rfl)).trans nbn.out
 replace hT3 : Hid _ := hT3
 clear hk3 hTn ybn mbn nbn HCa
 go_wp2_with fail
 refine (HCb.out _ _ hT3.out).mono ?_
 rintro e W4 ⟨rfl, hT4, hk4⟩
 have yb4 : Hid _ := (hk4 _ (.inl (.inl rfl))).trans yb3.out
 have mb4 : Hid _ := (hk4 _ (.inl (.inr rfl))).trans mb3.out
 have nb4 : Hid _ := (hk4 _ (.inr rfl)).trans nb3.out
 obtain ⟨m0, m1, m2, m3, m4⟩ := fiveK mb4.out
 obtain ⟨n0, n1, n2, n3, n4⟩ := fiveK nb4.out
 have lm4 : mz < W4.heap.size := (blt mb4.out)
 have ln4 : nz < W4.heap.size := (blt nb4.out)
 have hTl : Hid (seenL P w own (fun k => k = w.heap.size) W4) := by
  obtain ⟨o1, a1, a2, a3, a4⟩ := hT4
  exact ⟨o1, a1, a2, fun k e => (a3 k e).imp id (fun c => ⟨c.1, fun d => c.2 (.inl (.inl d))⟩), fun k e => a4 k (.inl (.inl e))⟩
 clear hk4 hT4 hT3 yb3 mb3 nb3 HCb
 go_wp2_with fail
 clear m0 m1 m2 m3 m4 n0 n1 n2 n3 n4 lm4 ln4 mb4 nb4
 go_loopw [11] (fun i wr => ∃ j : Nat, j ≤ n ∧ i = iv j ∧ Hid (seenL P w own (fun k => k = w.heap.size) wr) ∧ Hid (wr.heap[w.heap.size]? = some (.cells #[v0, v1, v2, v3, v4, v5, v6, v7, .slice sa n sc] 27 (0, 0)))) (fun i _ => n - (intOf i).toNat)
 case atStart => exact ⟨0, Nat.zero_le _, rfl, hTl, yb4⟩
 case round =>
  obtain ⟨j, hj, rfl, HK, yb⟩ := hrel
  clear hTl yb4
  have lx : w.heap.size < wr.heap.size := (blt yb.out)
  have c8 : wr.cell? (aq w.heap.size 8) = some (.slice sa n sc) := by rw [Joins.cell_of_block yb.out]; rfl
  by_cases hlt : j < n
  ·obtain ⟨b, off, rfl, hb, hcell⟩ := (HS.out wr (seenL_same HK.out)).2 (by intro e; rw [e] at hlen; simp at hlen; omega)
   obtain ⟨s0, s1, s2, s3, s4, s5⟩ := hcell j hlt
   have HPaj : Hid _ := HPa.out j hlt
   have HPbj : Hid _ := HPb.out j hlt
   have bj0 : (0 : Int) ≤ (j : Int) := by omega
   have bj1 : (j : Int) < (n : Int) := by omega
   have hwj : IntKind.i64.wrap ((j : Int) + 1) = (j : Int) + 1 := wrap_in (by omega) (by omega)
   generalize hpj : ps.getD j stp0 = pj at s0 s1 s2 s3 s4 s5 HPaj HPbj
   obtain ⟨pn, pk, pt, pc, pu, po⟩ := pj
   simp only at s0 s1 s2 s3 s4 s5 HPaj HPbj
   have HAa1 : Hid _ := HAa.out pc
   have HAb1 : Hid _ := HAb.out pc
   generalize acc pc = aj at HAa1 HAb1
   obtain ⟨a1, a2, a3, a4⟩ := aj
   generalize rep pc ((j : Int) + 1) = rj at HPaj HPbj
   obtain ⟨r1, r2, r3, r4⟩ := rj
   simp only at HAa1 HAb1 HPaj HPbj
   have HSj : Hid (∀ W, Same own w W → b < W.heap.size ∧ stpAt W b (off + j * 6) ⟨pn, pk, pt, pc, pu, po⟩) := by
    intro W hs
    obtain ⟨b', off', e, hb', hc⟩ := (HS.out W hs).2 (by intro e; rw [e] at hlen; simp at hlen; omega)
    simp only [Option.some.injEq, Addr.mk.injEq] at e
    obtain ⟨rfl, rfl, _⟩ := e
    have := hc j hlt
    rw [hpj] at this
    exact ⟨hb', this⟩
   clear HAa HAb HPa HPb hcell hpj
   go_wp2_with fail
   refine (HAa1.out _ _ HK.out).mono ?_
   rintro e V1 ⟨rfl, hV, hk⟩
   clear c8 hb s0 s1 s2 s3 s4 s5 lx
   have f10 : Hid _ := (hk _ rfl).trans yb.out
   have l10 : w.heap.size < V1.heap.size := (blt f10.out)
   have hU1 : Hid (seenL P w own (fun k => k = w.heap.size ∨ k = V1.heap.size) (V1.alloc (.cells #[iv a1, iv a2, iv a3] 65))) := seenL_alloc K hV _
   have g10 : Hid ((V1.alloc (.cells #[iv a1, iv a2, iv a3] 65)).heap[w.heap.size]? = _) := (Below.heap_alloc _ _ _ l10).trans f10.out
   have g11 : Hid ((V1.alloc (.cells #[iv a1, iv a2, iv a3] 65)).heap[V1.heap.size]? = some (.cells #[iv a1, iv a2, iv a3] 65 (0, 0))) := heap_alloc_new V1 _
   have ne10 : V1.heap.size ≠ w.heap.size := by omega
   have c8 : V1.cell? (aq w.heap.size 8) = some (.slice (some (aq b off)) n sc) := by rw [Joins.cell_of_block f10.out]; rfl
   obtain ⟨hb, s0, s1, s2, s3, s4, s5⟩ := HSj.out V1 (seenL_same hV)
   have lx : w.heap.size < V1.heap.size := (blt f10.out)
   clear hk hV HAa1 HK yb f10
   go_wp2_with fail
   generalize V1.alloc (.cells #[iv a1, iv a2, iv a3] 65) = U1 at hU1 g10 g11 ⊢
   clear l10 c8 hb s0 s1 s2 s3 s4 s5 lx
   generalize V1.heap.size = cz at hU1 g11 ne10 ⊢
   have c8 : U1.cell? (aq w.heap.size 8) = some (.slice (some (aq b off)) n sc) := by rw [Joins.cell_of_block g10.out]; rfl
   obtain ⟨hb, s0, s1, s2, s3, s4, s5⟩ := HSj.out U1 (seenL_same hU1.out)
   have lx : w.heap.size < U1.heap.size := (blt g10.out)
   refine (HAb1.out _ _ hU1.out).mono ?_
   rintro e V2 ⟨rfl, hV, hk⟩
   clear c8 hb s0 s1 s2 s3 s4 s5 lx
   have f20 : Hid _ := (hk _ (.inl rfl)).trans g10.out
   have l20 : w.heap.size < V2.heap.size := (blt f20.out)
   have f21 : Hid _ := (hk _ (.inr rfl)).trans g11.out
   have l21 : cz < V2.heap.size := (blt f21.out)
   have hU2 : Hid (seenL P w own (fun k => (k = w.heap.size ∨ k = cz) ∨ k = V2.heap.size) (V2.alloc (.cells #[iv a1, iv a2, iv a3] 65))) := seenL_alloc K hV _
   have g20 : Hid ((V2.alloc (.cells #[iv a1, iv a2, iv a3] 65)).heap[w.heap.size]? = _) := (Below.heap_alloc _ _ _ l20).trans f20.out
   have g21 : Hid ((V2.alloc (.cells #[iv a1, iv a2, iv a3] 65)).heap[cz]? = _) := (Below.heap_alloc _ _ _ l21).trans f21.out
   have g22 : Hid ((V2.alloc (.cells #[iv a1, iv a2, iv a3] 65)).heap[V2.heap.size]? = some (.cells #[iv a1, iv a2, iv a3] 65 (0, 0))) := heap_alloc_new V2 _
   have ne20 : V2.heap.size ≠ w.heap.size := by omega
   have ne21 : V2.heap.size ≠ cz := by omega
   have c8 : V2.cell? (aq w.heap.size 8) = some (.slice (some (aq b off)) n sc) := by rw [Joins.cell_of_block f20.out]; rfl
   obtain ⟨hb, s0, s1, s2, s3, s4, s5⟩ := HSj.out V2 (seenL_same hV)
   have lx : w.heap.size < V2.heap.size := (blt f20.out)
   obtain ⟨q0, q1, q2⟩ := three_cells f21.out
   clear hk hV HAb1 hU1 g10 g11 f20 f21
   go_wp2_with fail
   clear q0 q1 q2
   generalize V2.alloc (.cells #[iv a1, iv a2, iv a3] 65) = U2 at hU2 g20 g21 g22 ⊢
   clear l20 l21 c8 hb s0 s1 s2 s3 s4 s5 lx
   generalize V2.heap.size = dz at hU2 g22 ne20 ne21 ⊢
   have c8 : U2.cell? (aq w.heap.size 8) = some (.slice (some (aq b off)) n sc) := by rw [Joins.cell_of_block g20.out]; rfl
   obtain ⟨hb, s0, s1, s2, s3, s4, s5⟩ := HSj.out U2 (seenL_same hU2.out)
   have lx : w.heap.size < U2.heap.size := (blt g20.out)
   refine (HPaj.out _ _ hU2.out).mono ?_
   rintro e V3 ⟨rfl, hV, hk⟩
   clear c8 hb s0 s1 s2 s3 s4 s5 lx
   have f30 : Hid _ := (hk _ (.inl (.inl rfl))).trans g20.out
   have l30 : w.heap.size < V3.heap.size := (blt f30.out)
   have f31 : Hid _ := (hk _ (.inl (.inr rfl))).trans g21.out
   have l31 : cz < V3.heap.size := (blt f31.out)
   have f32 : Hid _ := (hk _ (.inr rfl)).trans g22.out
   have l32 : dz < V3.heap.size := (blt f32.out)
   have hU3 : Hid (seenL P w own (fun k => ((k = w.heap.size ∨ k = cz) ∨ k = dz) ∨ k = V3.heap.size) (V3.alloc (.cells #[iv r1, iv r2, iv r3, iv r4] 33))) := seenL_alloc K hV _
   have g30 : Hid ((V3.alloc (.cells #[iv r1, iv r2, iv r3, iv r4] 33)).heap[w.heap.size]? = _) := (Below.heap_alloc _ _ _ l30).trans f30.out
   have g31 : Hid ((V3.alloc (.cells #[iv r1, iv r2, iv r3, iv r4] 33)).heap[cz]? = _) := (Below.heap_alloc _ _ _ l31).trans f31.out
   have g32 : Hid ((V3.alloc (.cells #[iv r1, iv r2, iv r3, iv r4] 33)).heap[dz]? = _) := (Below.heap_alloc _ _ _ l32).trans f32.out
   have g33 : Hid ((V3.alloc (.cells #[iv r1, iv r2, iv r3, iv r4] 33)).heap[V3.heap.size]? = some (.cells #[iv r1, iv r2, iv r3, iv r4] 33 (0, 0))) := heap_alloc_new V3 _
   have ne30 : V3.heap.size ≠ w.heap.size := by omega
   have ne31 : V3.heap.size ≠ cz := by omega
   have ne32 : V3.heap.size ≠ dz := by omega
   have c8 : V3.cell? (aq w.heap.size 8) = some (.slice (some (aq b off)) n sc) := by rw [Joins.cell_of_block f30.out]; rfl
   obtain ⟨hb, s0, s1, s2, s3, s4, s5⟩ := HSj.out V3 (seenL_same hV)
   have lx : w.heap.size < V3.heap.size := (blt f30.out)
   clear hk hV HPaj hU2 g20 g21 g22 f30 f31 f32
   go_wp2_with fail
   generalize V3.alloc (.cells #[iv r1, iv r2, iv r3, iv r4] 33) = U3 at hU3 g30 g31 g32 g33 ⊢
   clear l30 l31 l32 c8 hb s0 s1 s2 s3 s4 s5 lx
   generalize V3.heap.size = pz at hU3 g33 ne30 ne31 ne32 ⊢
   have c8 : U3.cell? (aq w.heap.size 8) = some (.slice (some (aq b off)) n sc) := by rw [Joins.cell_of_block g30.out]; rfl
   obtain ⟨hb, s0, s1, s2, s3, s4, s5⟩ := HSj.out U3 (seenL_same hU3.out)
   have lx : w.heap.size < U3.heap.size := (blt g30.out)
   refine (HPbj.out _ _ hU3.out).mono ?_
   rintro e V4 ⟨rfl, hV, hk⟩
   clear c8 hb s0 s1 s2 s3 s4 s5 lx
   have f40 : Hid _ := (hk _ (.inl (.inl (.inl rfl)))).trans g30.out
   have l40 : w.heap.size < V4.heap.size := (blt f40.out)
   have f41 : Hid _ := (hk _ (.inl (.inl (.inr rfl)))).trans g31.out
   have l41 : cz < V4.heap.size := (blt f41.out)
   have f42 : Hid _ := (hk _ (.inl (.inr rfl))).trans g32.out
   have l42 : dz < V4.heap.size := (blt f42.out)
   have f43 : Hid _ := (hk _ (.inr rfl)).trans g33.out
   have l43 : pz < V4.heap.size := (blt f43.out)
   have hU4 : Hid (seenL P w own (fun k => (((k = w.heap.size ∨ k = cz) ∨ k = dz) ∨ k = pz) ∨ k = V4.heap.size) (V4.alloc (.cells #[iv r1, iv r2, iv r3, iv r4] 33))) := seenL_alloc K hV _
   have g40 : Hid ((V4.alloc (.cells #[iv r1, iv r2, iv r3, iv r4] 33)).heap[w.heap.size]? = _) := (Below.heap_alloc _ _ _ l40).trans f40.out
   have g41 : Hid ((V4.alloc (.cells #[iv r1, iv r2, iv r3, iv r4] 33)).heap[cz]? = _) := (Below.heap_alloc _ _ _ l41).trans f41.out
   have g42 : Hid ((V4.alloc (.cells #[iv r1, iv r2, iv r3, iv r4] 33)).heap[dz]? = _) := (Below.heap_alloc _ _ _ l42).trans f42.out
   have g43 : Hid ((V4.alloc (.cells #[iv r1, iv r2, iv r3, iv r4] 33)).heap[pz]? = _) := (Below.heap_alloc _ _ _ l43).trans f43.out
   have g44 : Hid ((V4.alloc (.cells #[iv r1, iv r2, iv r3, iv r4] 33)).heap[V4.heap.size]? = some (.cells #[iv r1, iv r2, iv r3, iv r4] 33 (0, 0))) := heap_alloc_new V4 _
   have ne40 : V4.heap.size ≠ w.heap.size := by omega
   have ne41 : V4.heap.size ≠ cz := by omega
   have ne42 : V4.heap.size ≠ dz := by omega
   have ne43 : V4.heap.size ≠ pz := by omega
   have c8 : V4.cell? (aq w.heap.size 8) = some (.slice (some (aq b off)) n sc) := by rw [Joins.cell_of_block f40.out]; rfl
   obtain ⟨hb, s0, s1, s2, s3, s4, s5⟩ := HSj.out V4 (seenL_same hV)
   have lx : w.heap.size < V4.heap.size := (blt f40.out)
   obtain ⟨q0, q1, q2, q3⟩ := fourK f43.out
   clear hk hV HPbj hU3 g30 g31 g32 g33 f40 f41 f42 f43
   have HNX : Hid (∃ j' : Nat, j' ≤ n ∧ Value.int .i64 ((j : Int) + 1) = iv j' ∧ Hid (seenL P w own (fun k => k = w.heap.size) (V4.alloc (.cells #[iv r1, iv r2, iv r3, iv r4] 33))) ∧ Hid ((V4.alloc (.cells #[iv r1, iv r2, iv r3, iv r4] 33)).heap[w.heap.size]? = some (.cells #[v0, v1, v2, v3, v4, v5, v6, v7, .slice (some (aq b off)) n sc] 27 (0, 0)))) := ⟨j + 1, by omega, by simp, by
    obtain ⟨o1, p1, p2, p3, p4⟩ := hU4.out
    exact ⟨o1, p1, p2, fun k e => (p3 k e).imp id (fun c => ⟨c.1, fun d => c.2 (.inl (.inl (.inl (.inl d))))⟩), fun k e => p4 k (.inl (.inl (.inl (.inl e))))⟩, g40⟩
   go_wp2_with fail
   go_roundw
   case rel => first | exact HNX.out | (rw [hwj]; exact HNX.out)
   case measure => simp [intOf]; omega
  ·have hje : j = n := by omega
   subst hje
   clear HPa HPb HAa HAb HS
   go_wp2
   refine bodyPost_ret (v := .bool true) (by simp [results, Tryz.results14, go_sem]) rfl ⟨rfl, seenL_end (seenL_below K HK.out bL)⟩
theorem fits_yes (k t c u o pk po pc pu : Int) (w : World) (hB : isB k (bareT k t) c (bareU k u) (bareO k o) = true) (hf : fitP k (bareO k o) pk po pc pu) :
 Calls Tryz.prog 29 #[.agg #[iv k, iv t, iv c, iv u, iv o], .agg #[iv pk, iv po, iv pc, iv pu]] w fun e w' => e = .returned (.bool true) ∧ Below w.heap.size w w' := by
 have HIS : ∀ W, Calls Tryz.prog 10 #[.agg #[iv k, iv (bareT k t), iv c, iv (bareU k u), iv (bareO k o)]] W fun e w' => e = .returned (.bool true) ∧ Below W.heap.size W w' := fun W => by
  have := is_any k (bareT k t) c (bareU k u) (bareO k o) W
  rw [hB] at this
  exact this
 rcases hf with ⟨rfl, hf⟩ | ⟨rfl, hf⟩ | ⟨rfl, hf⟩ | ⟨rfl, hf⟩
 ·exact fits_1 t c u o _ _ _ pk po pc pu w (fun W => bare_any 1 t c u o W) HIS hf
 ·exact fits_2 t c u o _ _ _ pk po pc pu w (fun W => bare_any 2 t c u o W) HIS hf
 ·exact fits_3 t c u o _ _ _ pk po pc pu w (fun W => bare_any 3 t c u o W) HIS hf
 ·exact fits_4 t c u o _ _ _ pk po pc pu w (fun W => bare_any 4 t c u o W) HIS hf
theorem fits_no (k t c u o : Int) (w : World) (hB : isB k (bareT k t) c (bareU k u) (bareO k o) = false) :
 Calls Tryz.prog 29 #[.agg #[iv k, iv t, iv c, iv u, iv o], .agg #[iv 1, iv 0, iv 0, iv 0]] w fun e w' => e = .returned (.bool true) ∧ Below w.heap.size w w' :=
 fits_bad k t c u o _ _ _ w (fun W => bare_any k t c u o W) (fun W => by
  have := is_any k (bareT k t) c (bareU k u) (bareO k o) W
  rw [hB] at this
  exact this)
theorem does_out (x : Nat) (n k t c u o : Int) (w : World) (own : Nat → Prop) (P0 : World → (Nat → Prop) → Prop) (K0 : Keeps P0) (h : P0 w own)
 (HS : Hid (∀ W, Calls Tryz.prog 26 #[.agg #[iv k, iv t, iv c, iv u, iv o]] W fun e w' => e = .returned (.bool false) ∧ Below W.heap.size W w')) :
 Calls Tryz.prog 15 #[pt x 0, .agg #[iv n, iv k, iv t, iv c, iv u, iv o]] w fun e w' => e = .returned (.tuple #[.agg #[iv 0, iv 0, iv 0, iv 0], .bool true]) ∧ ansP P0 w w' own := by
 have hw := K0.lt h
 have HW : Hid (∀ k, own k → k < w.heap.size) := hw
 go_enter Tryz.func15, Tryz.ntmps15
 have hT0 : Hid (seenT P0 w own 2 ((w.alloc (.cells #[iv n, iv k, iv t, iv c, iv u, iv o] 41)).alloc (.cells #[iv 0, iv 0, iv 0, iv 0] 33))) := seen_start K0 h (((Below.refl _ _).alloc (Nat.le_refl _) _).alloc (by simp) _) (by simp)
 have ob0 : Hid (((w.alloc (.cells #[iv n, iv k, iv t, iv c, iv u, iv o] 41)).alloc (.cells #[iv 0, iv 0, iv 0, iv 0] 33)).heap[w.heap.size]? = some (.cells #[iv n, iv k, iv t, iv c, iv u, iv o] 41 (0, 0))) := (Below.heap_alloc _ _ _ (by simp)).trans (heap_alloc_new w _)
 have rb0 : Hid (((w.alloc (.cells #[iv n, iv k, iv t, iv c, iv u, iv o] 41)).alloc (.cells #[iv 0, iv 0, iv 0, iv 0] 33)).heap[w.heap.size + 1]? = some (.cells #[iv 0, iv 0, iv 0, iv 0] 33 (0, 0))) := alloc_two w _ _
 clear h
 go_wp2_with fail
 generalize (w.alloc (.cells #[iv n, iv k, iv t, iv c, iv u, iv o] 41)).alloc (.cells #[iv 0, iv 0, iv 0, iv 0] 33) = W0 at hT0 ob0 rb0 ⊢
 have lo0 : w.heap.size < W0.heap.size := (blt ob0.out)
 have lr0 : w.heap.size + 1 < W0.heap.size := (blt rb0.out)
 refine (HS.out _).mono ?_
 rintro e W1 ⟨rfl, b1⟩
 have hT1 : Hid _ := seen_below K0 hT0.out b1
 have ob1 : Hid _ := (b1.block _ lo0).trans ob0.out
 have rb1 : Hid _ := (b1.block _ lr0).trans rb0.out
 have lo1 : w.heap.size < W1.heap.size := (blt ob1.out)
 have lr1 : w.heap.size + 1 < W1.heap.size := (blt rb1.out)
 obtain ⟨c10, c11, c12, c13, c14, c15⟩ := six_cells ob1.out
 clear ob0 rb0 lo0 lr0 hT0 b1 HS
 have HE : Hid (∀ v0 v1 v2 v3, ansP P0 w ((((W1.setCell (aq (w.heap.size + 1) 0) v0).setCell (aq (w.heap.size + 1) 1) v1).setCell (aq (w.heap.size + 1) 2) v2).setCell (aq (w.heap.size + 1) 3) v3) own) := fun v0 v1 v2 v3 => seen_end (seen_set4 K0 hT1.out HW.out (by omega) (by omega) v0 v1 v2 v3)
 have f0 := row_free rb1.out 0
 have f1 := row_free rb1.out 1
 have f2 := row_free rb1.out 2
 have f3 := row_free rb1.out 3
 obtain ⟨z0, z1, z2, z3⟩ := fourK rb1.out
 clear hT1 HW
 go_wp2
 refine bodyPost_ret (v := .tuple #[.agg #[iv 0, iv 0, iv 0, iv 0], .bool true]) (by simp [results, Tryz.results15, go_sem, z0, z1, z2, z3]) rfl ⟨rfl, ?_⟩
 exact HE.out _ _ _ _
theorem does_send (x : Nat) (n k t c u o pk po pc pu : Int) (w : World) (own : Nat → Prop) (P0 P1 : World → (Nat → Prop) → Prop) (K0 : Keeps P0) (K1 : Keeps P1) (h : P0 w own) (hk : (k != 0) = true) (Fr : World → Option Addr → Nat → Nat → Prop)
 (HS : Hid (∀ W, Calls Tryz.prog 26 #[.agg #[iv k, iv t, iv c, iv u, iv o]] W fun e w' => e = .returned (.bool true) ∧ Below W.heap.size W w'))
 (HF : Hid (∀ W, Calls Tryz.prog 28 #[.agg #[iv k, iv t, iv c, iv u, iv o]] W fun e w' => ∃ ba bl bc, e = .returned (.slice ba bl bc) ∧ Fr w' ba bl bc ∧ Below W.heap.size W w'))
 (HSend : Hid (∀ W o ba bl bc, P0 W o → Fr W ba bl bc → Calls Tryz.prog 27 #[pt x 0, .slice ba bl bc] W fun e w' => e = .returned (.agg #[iv pk, iv po, iv pc, iv pu]) ∧ ansP P1 W w' o))
 (HFi : Hid (∀ W, Calls Tryz.prog 29 #[.agg #[iv k, iv t, iv c, iv u, iv o], .agg #[iv pk, iv po, iv pc, iv pu]] W fun e w' => e = .returned (.bool true) ∧ Below W.heap.size W w')) :
 Calls Tryz.prog 15 #[pt x 0, .agg #[iv n, iv k, iv t, iv c, iv u, iv o]] w fun e w' => e = .returned (.tuple #[.agg #[iv pk, iv po, iv pc, iv pu], .bool true]) ∧ ansP P1 w w' own := by
 have hw := K0.lt h
 have HW : Hid (∀ k, own k → k < w.heap.size) := hw
 go_enter Tryz.func15, Tryz.ntmps15
 have hT0 : Hid (seenT P0 w own 2 ((w.alloc (.cells #[iv n, iv k, iv t, iv c, iv u, iv o] 41)).alloc (.cells #[iv 0, iv 0, iv 0, iv 0] 33))) := seen_start K0 h (((Below.refl _ _).alloc (Nat.le_refl _) _).alloc (by simp) _) (by simp)
 have ob0 : Hid (((w.alloc (.cells #[iv n, iv k, iv t, iv c, iv u, iv o] 41)).alloc (.cells #[iv 0, iv 0, iv 0, iv 0] 33)).heap[w.heap.size]? = some (.cells #[iv n, iv k, iv t, iv c, iv u, iv o] 41 (0, 0))) := (Below.heap_alloc _ _ _ (by simp)).trans (heap_alloc_new w _)
 have rb0 : Hid (((w.alloc (.cells #[iv n, iv k, iv t, iv c, iv u, iv o] 41)).alloc (.cells #[iv 0, iv 0, iv 0, iv 0] 33)).heap[w.heap.size + 1]? = some (.cells #[iv 0, iv 0, iv 0, iv 0] 33 (0, 0))) := alloc_two w _ _
 clear h
 go_wp2_with fail
 generalize (w.alloc (.cells #[iv n, iv k, iv t, iv c, iv u, iv o] 41)).alloc (.cells #[iv 0, iv 0, iv 0, iv 0] 33) = W0 at hT0 ob0 rb0 ⊢
 have lo0 : w.heap.size < W0.heap.size := (blt ob0.out)
 have lr0 : w.heap.size + 1 < W0.heap.size := (blt rb0.out)
 refine (HS.out _).mono ?_
 rintro e W1 ⟨rfl, b1⟩
 have hT1 : Hid _ := seen_below K0 hT0.out b1
 have ob1 : Hid _ := (b1.block _ lo0).trans ob0.out
 have rb1 : Hid _ := (b1.block _ lr0).trans rb0.out
 have lo1 : w.heap.size < W1.heap.size := (blt ob1.out)
 have lr1 : w.heap.size + 1 < W1.heap.size := (blt rb1.out)
 obtain ⟨c10, c11, c12, c13, c14, c15⟩ := six_cells ob1.out
 clear ob0 rb0 lo0 lr0 hT0 b1 HS
 go_wp2_with fail
 refine (HF.out _).mono ?_
 rintro e W2 ⟨ba, bl, bc, rfl, hFr, b2⟩
 have hT2 : Hid _ := seen_below K0 hT1.out b2
 have ob2 : Hid _ := (b2.block _ lo1).trans ob1.out
 have rb2 : Hid _ := (b2.block _ lr1).trans rb1.out
 have lo2 : w.heap.size < W2.heap.size := (blt ob2.out)
 have lr2 : w.heap.size + 1 < W2.heap.size := (blt rb2.out)
 obtain ⟨c20, c21, c22, c23, c24, c25⟩ := six_cells ob2.out
 clear c10 c11 c12 c13 c14 c15 ob1 rb1 lo1 lr1 hT1
 have hT2' : Hid (seenT (fun W o => P0 W o ∧ Fr W ba bl bc) w own 2 W2) := by
  obtain ⟨o1, a1, a⟩ := hT2.out
  exact ⟨o1, ⟨a1, hFr⟩, a⟩
 have HS2 : Hid (∀ W, seenT (fun W o => P0 W o ∧ Fr W ba bl bc) w own 2 W → Calls Tryz.prog 27 #[pt x 0, .slice ba bl bc] W fun e w' => e = .returned (.agg #[iv pk, iv po, iv pc, iv pu]) ∧ seenT P1 w own 2 w' ∧ ∀ b, w.heap.size ≤ b → b < w.heap.size + 2 → w'.heap[b]? = W.heap[b]?) := fun W hT => seen_call HW.out (fun W o hp => HSend.out W o ba bl bc hp.1 hp.2) W hT
 clear b2 hFr HF HSend
 go_wp2_with fail
 refine (HS2.out _ hT2'.out).mono ?_
 rintro e W3 ⟨rfl, hT3, hk3⟩
 replace hT3 : Hid _ := hT3
 have ob3 : Hid _ := (hk3 _ (Nat.le_refl _) (by omega)).trans ob2.out
 have rb3 : Hid _ := (hk3 _ (by omega) (by omega)).trans rb2.out
 have lo3 : w.heap.size < W3.heap.size := (blt ob3.out)
 have lr3 : w.heap.size + 1 < W3.heap.size := (blt rb3.out)
 obtain ⟨c30, c31, c32, c33, c34, c35⟩ := six_cells ob3.out
 clear c20 c21 c22 c23 c24 c25 ob2 rb2 lo2 lr2 hT2
 clear hk3 hT2' HS2
 have hTa : Hid (seenT P1 w own 2 (W3.alloc (.cells #[iv pk, iv po, iv pc, iv pu] 33))) := seen_below K1 hT3.out ((Below.refl _ _).alloc (Nat.le_refl _) _)
 have oba : Hid ((W3.alloc (.cells #[iv pk, iv po, iv pc, iv pu] 33)).heap[w.heap.size]? = some (.cells #[iv n, iv k, iv t, iv c, iv u, iv o] 41 (0, 0))) := (Below.heap_alloc _ _ _ lo3).trans ob3.out
 have rba : Hid ((W3.alloc (.cells #[iv pk, iv po, iv pc, iv pu] 33)).heap[w.heap.size + 1]? = some (.cells #[iv 0, iv 0, iv 0, iv 0] 33 (0, 0))) := (Below.heap_alloc _ _ _ lr3).trans rb3.out
 have pba : Hid ((W3.alloc (.cells #[iv pk, iv po, iv pc, iv pu] 33)).heap[W3.heap.size]? = some (.cells #[iv pk, iv po, iv pc, iv pu] 33 (0, 0))) := heap_alloc_new W3 _
 go_wp2_with fail
 generalize W3.alloc (.cells #[iv pk, iv po, iv pc, iv pu] 33) = Wa at hTa oba rba pba ⊢
 have hpz1 : w.heap.size ≠ W3.heap.size := by omega
 have hpz2 : w.heap.size + 1 ≠ W3.heap.size := by omega
 generalize W3.heap.size = pz at pba hpz1 hpz2 ⊢
 clear c30 c31 c32 c33 c34 c35 ob3 rb3 lo3 lr3 hT3
 obtain ⟨a0, a1, a2, a3, a4, a5⟩ := six_cells oba.out
 obtain ⟨p0, p1, p2, p3⟩ := fourK pba.out
 have loa : w.heap.size < Wa.heap.size := (blt oba.out)
 have lra : w.heap.size + 1 < Wa.heap.size := (blt rba.out)
 have lpa : pz < Wa.heap.size := (blt pba.out)
 go_region_held3 (fun w' => (w'.cell? (aq w.heap.size 1) = some (iv k) ∧ w'.cell? (aq w.heap.size 2) = some (iv t) ∧ w'.cell? (aq w.heap.size 3) = some (iv c) ∧ w'.cell? (aq w.heap.size 4) = some (iv u) ∧ w'.cell? (aq w.heap.size 5) = some (iv o)) ∧ w'.cell? (aq pz 0) = some (iv pk) ∧ w'.cell? (aq pz 1) = some (iv po) ∧ w'.cell? (aq pz 2) = some (iv pc) ∧ w'.cell? (aq pz 3) = some (iv pu)) (simp [go_sem, *])
  (first
    | (go_at_call 29; refine (HFi.out _).mono ?_; rintro e W4 ⟨rfl, b4⟩
       have hb4 : Below Wa.heap.size Wa W4 := by first | exact b4 | exact Below.trans (show Below Wa.heap.size Wa _ from bL) (b4.mono (by simp))
       have hT4 : Hid _ := seen_below K1 hTa.out hb4
       have ob4 : Hid _ := (hb4.block _ loa).trans oba.out
       have rb4 : Hid _ := (hb4.block _ lra).trans rba.out
       have pb4 : Hid _ := (hb4.block _ lpa).trans pba.out
       obtain ⟨d0, d1, d2, d3, d4, d5⟩ := six_cells ob4.out
       obtain ⟨r0, r1, r2, r3⟩ := fourK pb4.out
       have lo4 : w.heap.size < W4.heap.size := (blt ob4.out)
       have lr4 : w.heap.size + 1 < W4.heap.size := (blt rb4.out)
       have lp4 : pz < W4.heap.size := (blt pb4.out)
       have f0 := row_free rb4.out 0
       have f1 := row_free rb4.out 1
       have f2 := row_free rb4.out 2
       have f3 := row_free rb4.out 3
       obtain ⟨z0, z1, z2, z3⟩ := fourK rb4.out
       clear b4 hb4))
 clear a0 a1 a2 a3 a4 a5 p0 p1 p2 p3 hTa oba rba pba HFi
 have HE : Hid (∀ v0 v1 v2 v3, ansP P1 w ((((W4.setCell (aq (w.heap.size + 1) 0) v0).setCell (aq (w.heap.size + 1) 1) v1).setCell (aq (w.heap.size + 1) 2) v2).setCell (aq (w.heap.size + 1) 3) v3) own) := fun v0 v1 v2 v3 => seen_end (seen_set4 K1 hT4.out HW.out (by omega) (by omega) v0 v1 v2 v3)
 clear hT4 HW
 go_wp2
 refine bodyPost_ret (v := .tuple #[.agg #[iv pk, iv po, iv pc, iv pu], .bool true]) (by simp [results, Tryz.results15, go_sem, z0, z1, z2, z3]) rfl ⟨rfl, ?_⟩
 first | exact HE.out _ _ _ _ | exact ansP_drew (HE.out _ _ _ _)
theorem does_tick (x : Nat) (n t c u o now now' tk er : Int) (w : World) (own : Nat → Prop) (P0 P1 : World → (Nat → Prop) → Prop) (K0 : Keeps P0) (K1 : Keeps P1) (h : P0 w own) (hb : 0 ≤ now ∧ now ≤ 4611686018427387904)
 (hto : (n < 0 ∧ er = 3 ∧ tk = 0 ∧ now' = now) ∨ (¬ n < 0 ∧ n < 4611686018427387904 - now ∧ er = 0 ∧ tk = now + n ∧ now' = now + n) ∨ (¬ n < 0 ∧ ¬ n < 4611686018427387904 - now ∧ er = 0 ∧ tk = 4611686018427387904 ∧ now' = 4611686018427387904))
 (HS : Hid (∀ W, Calls Tryz.prog 26 #[.agg #[iv 0, iv t, iv c, iv u, iv o]] W fun e w' => e = .returned (.bool true) ∧ Below W.heap.size W w'))
 (HC : Hid (∀ W o, P0 W o → Calls Tryz.prog 23 #[pt x 0] W fun e w' => e = .returned (iv now) ∧ ansP P0 W w' o))
 (HT : Hid (∀ W o, P0 W o → Calls Tryz.prog 30 #[pt x 0, iv n] W fun e w' => e = .returned (.tuple #[iv tk, iv er]) ∧ ansP P1 W w' o))
 (HC1 : Hid (∀ W o, P1 W o → Calls Tryz.prog 23 #[pt x 0] W fun e w' => e = .returned (iv now') ∧ ansP P1 W w' o)) :
 Calls Tryz.prog 15 #[pt x 0, .agg #[iv n, iv 0, iv t, iv c, iv u, iv o]] w fun e w' => e = .returned (.tuple #[.agg #[iv 0, iv 0, iv 0, iv 0], .bool true]) ∧ ansP P1 w w' own := by
 have hw := K0.lt h
 have HW : Hid (∀ k, own k → k < w.heap.size) := hw
 go_enter Tryz.func15, Tryz.ntmps15
 have hT0 : Hid (seenT P0 w own 2 ((w.alloc (.cells #[iv n, iv 0, iv t, iv c, iv u, iv o] 41)).alloc (.cells #[iv 0, iv 0, iv 0, iv 0] 33))) := seen_start K0 h (((Below.refl _ _).alloc (Nat.le_refl _) _).alloc (by simp) _) (by simp)
 have ob0 : Hid (((w.alloc (.cells #[iv n, iv 0, iv t, iv c, iv u, iv o] 41)).alloc (.cells #[iv 0, iv 0, iv 0, iv 0] 33)).heap[w.heap.size]? = some (.cells #[iv n, iv 0, iv t, iv c, iv u, iv o] 41 (0, 0))) := (Below.heap_alloc _ _ _ (by simp)).trans (heap_alloc_new w _)
 have rb0 : Hid (((w.alloc (.cells #[iv n, iv 0, iv t, iv c, iv u, iv o] 41)).alloc (.cells #[iv 0, iv 0, iv 0, iv 0] 33)).heap[w.heap.size + 1]? = some (.cells #[iv 0, iv 0, iv 0, iv 0] 33 (0, 0))) := alloc_two w _ _
 clear h
 go_wp2_with fail
 generalize (w.alloc (.cells #[iv n, iv 0, iv t, iv c, iv u, iv o] 41)).alloc (.cells #[iv 0, iv 0, iv 0, iv 0] 33) = W0 at hT0 ob0 rb0 ⊢
 have lo0 : w.heap.size < W0.heap.size := (blt ob0.out)
 have lr0 : w.heap.size + 1 < W0.heap.size := (blt rb0.out)
 refine (HS.out _).mono ?_
 rintro e W1 ⟨rfl, b1⟩
 have hT1 : Hid _ := seen_below K0 hT0.out b1
 have ob1 : Hid _ := (b1.block _ lo0).trans ob0.out
 have rb1 : Hid _ := (b1.block _ lr0).trans rb0.out
 have lo1 : w.heap.size < W1.heap.size := (blt ob1.out)
 have lr1 : w.heap.size + 1 < W1.heap.size := (blt rb1.out)
 obtain ⟨c10, c11, c12, c13, c14, c15⟩ := six_cells ob1.out
 clear ob0 rb0 lo0 lr0 hT0 b1 HS
 have HCa : Hid _ := seen_call (m := 2) HW.out HC.out
 have HTa : Hid _ := seen_call (m := 2) HW.out HT.out
 have HCb : Hid _ := seen_call (m := 2) HW.out HC1.out
 clear HC HT HC1
 go_wp2_with fail
 refine (HCa.out _ hT1.out).mono ?_
 rintro e W2 ⟨rfl, hT2, hk2⟩
 replace hT2 : Hid _ := hT2
 have ob2 : Hid _ := (hk2 _ (Nat.le_refl _) (by omega)).trans ob1.out
 have rb2 : Hid _ := (hk2 _ (by omega) (by omega)).trans rb1.out
 have lo2 : w.heap.size < W2.heap.size := (blt ob2.out)
 have lr2 : w.heap.size + 1 < W2.heap.size := (blt rb2.out)
 obtain ⟨c20, c21, c22, c23, c24, c25⟩ := six_cells ob2.out
 clear c10 c11 c12 c13 c14 c15 ob1 rb1 lo1 lr1 hT1
 clear hk2
 go_wp2_with fail
 refine (HTa.out _ hT2.out).mono ?_
 rintro e W3 ⟨rfl, hT3, hk3⟩
 replace hT3 : Hid _ := hT3
 have ob3 : Hid _ := (hk3 _ (Nat.le_refl _) (by omega)).trans ob2.out
 have rb3 : Hid _ := (hk3 _ (by omega) (by omega)).trans rb2.out
 have lo3 : w.heap.size < W3.heap.size := (blt ob3.out)
 have lr3 : w.heap.size + 1 < W3.heap.size := (blt rb3.out)
 obtain ⟨c30, c31, c32, c33, c34, c35⟩ := six_cells ob3.out
 clear c20 c21 c22 c23 c24 c25 ob2 rb2 lo2 lr2 hT2
 clear hk3
 go_wp2_with fail
 refine (HCb.out _ hT3.out).mono ?_
 rintro e W4 ⟨rfl, hT4, hk4⟩
 replace hT4 : Hid _ := hT4
 have ob4 : Hid _ := (hk4 _ (Nat.le_refl _) (by omega)).trans ob3.out
 have rb4 : Hid _ := (hk4 _ (by omega) (by omega)).trans rb3.out
 have lo4 : w.heap.size < W4.heap.size := (blt ob4.out)
 have lr4 : w.heap.size + 1 < W4.heap.size := (blt rb4.out)
 obtain ⟨c40, c41, c42, c43, c44, c45⟩ := six_cells ob4.out
 clear c30 c31 c32 c33 c34 c35 ob3 rb3 lo3 lr3 hT3
 clear hk4 HCa HTa HCb
 have HE : Hid (∀ v0 v1 v2 v3, ansP P1 w ((((W4.setCell (aq (w.heap.size + 1) 0) v0).setCell (aq (w.heap.size + 1) 1) v1).setCell (aq (w.heap.size + 1) 2) v2).setCell (aq (w.heap.size + 1) 3) v3) own) := fun v0 v1 v2 v3 => seen_end (seen_set4 K1 hT4.out HW.out (by omega) (by omega) v0 v1 v2 v3)
 have f0 := row_free rb4.out 0
 have f1 := row_free rb4.out 1
 have f2 := row_free rb4.out 2
 have f3 := row_free rb4.out 3
 obtain ⟨z0, z1, z2, z3⟩ := fourK rb4.out
 clear hT4 HW
 obtain ⟨hb0, hb1⟩ := hb
 rcases hto with ⟨hn, rfl, rfl, rfl⟩ | ⟨hn, hlt, rfl, rfl, rfl⟩ | ⟨hn, hlt, rfl, rfl, rfl⟩
 ·go_wp2
  refine bodyPost_ret (v := .tuple #[.agg #[iv 0, iv 0, iv 0, iv 0], .bool true]) (by simp [results, Tryz.results15, go_sem, z0, z1, z2, z3]) rfl ⟨rfl, ?_⟩
  exact HE.out _ _ _ _
 ·have hw1 : IntKind.i64.wrap (4611686018427387904 - now) = 4611686018427387904 - now := wrap_in (by omega) (by omega)
  have hw2 : IntKind.i64.wrap (now + n) = now + n := wrap_in (by omega) (by omega)
  go_wp2
  refine bodyPost_ret (v := .tuple #[.agg #[iv 0, iv 0, iv 0, iv 0], .bool true]) (by simp [results, Tryz.results15, go_sem, z0, z1, z2, z3]) rfl ⟨rfl, ?_⟩
  exact HE.out _ _ _ _
 ·have hw1 : IntKind.i64.wrap (4611686018427387904 - now) = 4611686018427387904 - now := wrap_in (by omega) (by omega)
  go_wp2
  refine bodyPost_ret (v := .tuple #[.agg #[iv 0, iv 0, iv 0, iv 0], .bool true]) (by simp [results, Tryz.results15, go_sem, z0, z1, z2, z3]) rfl ⟨rfl, ?_⟩
  exact HE.out _ _ _ _
theorem aforget_walk (x aw : Nat) (now er : Int) (D : List (Int × Int)) (w : World) (own : Nat → Prop) (P0 : World → (Nat → Prop) → Prop) (Q : Nat → World → (Nat → Prop) → Prop) (K0 : Keeps P0) (KQ : ∀ j, Keeps (Q j)) (h : P0 w own) (hn : D.length ≤ 4294967296)
 (HX : Hid (∀ loc W, seenL P0 w own loc W → x < W.heap.size ∧ W.cell? (aq x 23) = some (pt aw 0)))
 (HA : Hid (∀ loc W, seenL P0 w own loc W → Calls Tryz.prog 101 #[pt aw 0, iv now] W fun e w' => ∃ da dc, e = .returned (.tuple #[.slice da D.length dc, iv er]) ∧ seenL (withD (Q 0) da D) w own loc w'))
 (HR : Hid (∀ da j, j < D.length → doesL w own (withD (Q j) da D) (withD (Q (j + 1)) da D) 105 #[pt x 23, iv (D.getD j (0, 0)).2] (.tuple #[]))) :
 Calls Tryz.prog 73 #[pt x 23, iv now] w fun e w' => e = .returned (.tuple #[]) ∧ ansP (Q D.length) w w' own := by
 have hT0 : Hid (seenL P0 w own (fun _ => False) w) := seenL_start K0 h (Below.refl _ _) (fun _ e => e.elim)
 obtain ⟨hx, c23⟩ := HX.out _ _ hT0.out
 clear h HX
 go_enter Tryz.func73, Tryz.ntmps73
 go_wp2_with (go_at_call 101; refine (HA.out _ _ (seenL_below K0 hT0.out bL)).mono ?_; rintro e W1 ⟨da, dc, rfl, hT1⟩
              replace hT1 : Hid (seenL (withD (Q 0) da D) w own (fun _ => False) W1) := hT1
              clear c23 hx)
 clear hT0 HA
 go_loopw [6] (fun i wr => ∃ j : Nat, j ≤ D.length ∧ i = iv j ∧ Hid (seenL (withD (Q j) da D) w own (fun _ => False) wr)) (fun i _ => D.length - (intOf i).toNat)
 case atStart => exact ⟨0, Nat.zero_le _, rfl, hT1⟩
 case round =>
  obtain ⟨j, hj, rfl, HK⟩ := hrel
  clear hT1
  by_cases hlt : j < D.length
  ·obtain ⟨g, rfl, hb, c0, c1⟩ := seenD HK.out j hlt
   have HRj : Hid _ := HR.out (some (aq g 0)) j hlt
   have KJ := keepD (KQ j) (some (aq g 0)) D
   have KJ1 := keepD (KQ (j + 1)) (some (aq g 0)) D
   have HNX : Hid (∀ wr', seenL (withD (Q (j + 1)) (some (aq g 0)) D) w own (fun _ => False) wr' → ∃ j' : Nat, j' ≤ D.length ∧ Value.int .i64 ((j : Int) + 1) = iv j' ∧ Hid (seenL (withD (Q j') (some (aq g 0)) D) w own (fun _ => False) wr')) := fun wr' h => ⟨j + 1, by omega, by simp, h⟩
   have b0 : (0 : Int) ≤ (j : Int) := by omega
   have b1 : (j : Int) < (D.length : Int) := by omega
   have hwj : IntKind.i64.wrap ((j : Int) + 1) = (j : Int) + 1 := wrap_in (by omega) (by omega)
   generalize D.getD j (0, 0) = dj at c0 c1 HRj
   obtain ⟨dt, di⟩ := dj
   simp only at c0 c1 HRj
   clear HR
   go_wp2_with (go_at_call 105; refine (HRj.out _ _ (seenL_below KJ HK.out bL)).mono ?_; rintro e W4 ⟨rfl, hT4, hk⟩
                replace hT4 : Hid _ := hT4
                clear hk c0 c1 hb)
   go_roundw
   case rel => first | exact HNX.out _ (seenL_below KJ1 hT4.out bL) | (rw [hwj]; exact HNX.out _ (seenL_below KJ1 hT4.out bL))
   case measure => simp [intOf]; omega
  ·have hje : j = D.length := by omega
   subst hje
   go_wp2_with fail
   first | go_end0 | refine bodyPost_ret (results_none rfl _ _ _) rfl ?_
   exact ⟨rfl, seenL_endD (seenL_below (keepD (KQ _) da D) HK.out bL)⟩
theorem stop_walk (x tw : Nat) (now er : Int) (D : List (Int × Int)) (w : World) (own : Nat → Prop) (P0 P1 P2 P3 P4 P5 P6 : World → (Nat → Prop) → Prop) (K0 : Keeps P0) (K1 : Keeps P1) (K2 : Keeps P2) (K3 : Keeps P3) (K4 : Keeps P4) (K5 : Keeps P5) (K6 : Keeps P6) (h : P0 w own)
 (HX : Hid (∀ loc W, seenL P0 w own loc W → x < W.heap.size ∧ W.cell? (aq x 10) = some (pt tw 0) ∧ W.cell? (aq x 8) = some (iv now)))
 (HX1 : Hid (∀ da loc W, seenL (withD P1 da D) w own loc W → x < W.heap.size ∧ W.cell? (aq x 10) = some (pt tw 0) ∧ W.cell? (aq x 8) = some (iv now)))
 (HA : Hid (∀ loc W, seenL P0 w own loc W → Calls Tryz.prog 101 #[pt tw 0, iv now] W fun e w' => ∃ da dc, e = .returned (.tuple #[.slice da D.length dc, iv er]) ∧ seenL (withD P1 da D) w own loc w'))
 (HF : Hid (∀ da dc, doesL w own (withD P1 da D) (withD P2 da D) 102 #[pt x 0, .slice da D.length dc] (.tuple #[])))
 (HE : Hid (∀ da dc, doesL w own (withD P2 da D) (withD P3 da D) 103 #[pt x 0, .slice da D.length dc, iv 13, iv 15] (.tuple #[])))
 (HP : Hid (∀ da, doesL w own (withD P3 da D) (withD P4 da D) 104 #[pt x 0] (.tuple #[])))
 (HE2 : Hid (∀ da dc, doesL w own (withD P4 da D) (withD P5 da D) 103 #[pt x 0, .slice da D.length dc, iv 12, iv 17] (.tuple #[])))
 (HP2 : Hid (∀ da, doesL w own (withD P5 da D) (withD P6 da D) 104 #[pt x 0] (.tuple #[]))) :
 Calls Tryz.prog 72 #[pt x 0] w fun e w' => e = .returned (.tuple #[]) ∧ ansP P6 w w' own := by
 have hT0 : Hid (seenL P0 w own (fun _ => False) w) := seenL_start K0 h (Below.refl _ _) (fun _ e => e.elim)
 obtain ⟨hx, c10, c8⟩ := HX.out _ _ hT0.out
 clear h HX
 go_enter Tryz.func72, Tryz.ntmps72
 go_wp2_with fail
 go_region_held3 (fun w' => w'.cell? (aq x 10) = some (pt tw 0) ∧ w'.cell? (aq x 8) = some (iv now)) (simp [go_sem, *])
  (first
    | (go_at_call 101; refine (HA.out _ _ (seenL_below K0 hT0.out bL)).mono ?_; rintro e W1 ⟨da, dc, rfl, hT1⟩
       obtain ⟨hx1, d10, d8⟩ := HX1.out _ _ _ hT1
       replace hT1 : Hid (seenL (withD P1 da D) w own (fun _ => False) W1) := hT1))
 clear c10 c8 d10 d8 hT0 HA HX1
 go_wp2_with (first
  | (go_at_call 102; refine (HF.out _ _ _ _ (seenL_below (keepD K1 _ _) hT1.out bL)).mono ?_; rintro e W2 ⟨rfl, hT2, hk⟩
     replace hT2 : Hid _ := hT2
     clear hk hT1)
  | (go_at_call 103; refine (HE.out _ _ _ _ (seenL_below (keepD K2 _ _) hT2.out bL)).mono ?_; rintro e W3 ⟨rfl, hT3, hk⟩
     replace hT3 : Hid _ := hT3
     clear hk hT2)
  | (go_at_call 104; refine (HP.out _ _ _ (seenL_below (keepD K3 _ _) hT3.out bL)).mono ?_; rintro e W4 ⟨rfl, hT4, hk⟩
     replace hT4 : Hid _ := hT4
     clear hk hT3)
  | (go_at_call 103; refine (HE2.out _ _ _ _ (seenL_below (keepD K4 _ _) hT4.out bL)).mono ?_; rintro e W5 ⟨rfl, hT5, hk⟩
     replace hT5 : Hid _ := hT5
     clear hk hT4)
  | (go_at_call 104; refine (HP2.out _ _ _ (seenL_below (keepD K5 _ _) hT5.out bL)).mono ?_; rintro e W6 ⟨rfl, hT6, hk⟩
     replace hT6 : Hid _ := hT6
     clear hk hT5))
 first | go_end0 | refine bodyPost_ret (results_none rfl _ _ _) rfl ?_
 exact ⟨rfl, seenL_endD (seenL_below (keepD K6 _ _) hT6.out bL)⟩
def goonI {σ : Type} (P PE : σ → World → (Nat → Prop) → Prop) (Inv : σ → Prop) (fs : σ → Int × Int) (fb : σ → Bool) (μ : σ → Nat) (s : σ) (w1 : World) (own : Nat → Prop) (v : Value) (wr : World) (n : Nat) : Prop :=
 ∃ s', Inv s' ∧ μ s' = n ∧ PE s' = PE s ∧ seenT (P s') w1 own 1 wr ∧ v = .bool (fb s') ∧ wr.heap[w1.heap.size]? = some (.cells #[iv (fs s').1, iv (fs s').2] 123 (0, 0))
theorem seen_clock {P P' : World → (Nat → Prop) → Prop} {w W W' : World} {own : Nat → Prop} {m : Nat} (h : seenT P w own m W) (hx : ∀ o, P W o → ansP P' W W' o) : seenT P' w own m W' := by
 obtain ⟨o1, a1, a2, a3, a4⟩ := h
 obtain ⟨o2, b1, b2, b3⟩ := hx o1 a1
 have z1 := a2.size
 have z2 := b2.size
 exact ⟨o2, b1, Same.trans a2 b2 (fun k hk e => e.elim id (fun e => (a3 k e).elim id (fun e => by omega))), fun k e => (b3 k e).elim (a3 k) (fun e => .inr (by omega)), by omega⟩
theorem goOn_walk {σ : Type} (x : Nat) (to : Int) (P PE : σ → World → (Nat → Prop) → Prop) (PC : σ → Int → World → (Nat → Prop) → Prop) (KP : ∀ s, Keeps (P s)) (KC : ∀ s t, Keeps (PC s t)) (KE : ∀ s, Keeps (PE s)) (Inv : σ → Prop) (fs : σ → Int × Int) (fb : σ → Bool) (nx : σ → σ) (μ : σ → Nat) (cd : σ → Prop) (hcd : Hid (∀ s, cd s ↔ (fs s).1 ≤ to))
 (lo : σ → Int) (hLo : Hid (∀ s, Inv s → lo s ≤ to ∧ (fb s = true → lo s ≤ (fs s).1)))
 (hX : Hid (∀ s, Inv s → ∀ W o, P s W o → o x ∧ ∀ t, lo s ≤ t → ansP (PC s t) W (W.setCell (aq x 8) (iv t)) o))
 (hY : Hid (∀ s, Inv s → ∀ W o, P s W o → x < W.heap.size ∧ (∃ u, W.cell? (aq x 8) = some u) ∧ W.frozen? (aq x 8) = false))
 (hF : Hid (∀ s, Inv s → ∀ W o, P s W o → ∃ tw, W.cell? (aq x 10) = some (pt tw 0) ∧ ∀ W', Below W.heap.size W W' → Calls Tryz.prog 71 #[pt tw 0] W' fun e w' => e = .returned (.tuple #[.agg #[iv (fs s).1, iv (fs s).2], .bool (fb s)]) ∧ Below W'.heap.size W' w'))
 (hS : Hid (∀ s, Inv s → fb s = true → cd s → ∀ W o, PC s (fs s).1 W o → Calls Tryz.prog 72 #[pt x 0] W fun e w' => e = .returned (.tuple #[]) ∧ ansP (P (nx s)) W w' o))
 (hN : Hid (∀ s, Inv s → fb s = true → cd s → Inv (nx s) ∧ μ (nx s) < μ s ∧ PE (nx s) = PE s))
 (hE : Hid (∀ s, Inv s → (fb s = true → ¬ cd s) → ∀ W o, PC s to W o → Calls Tryz.prog 73 #[pt x 23, iv to] W fun e w' => e = .returned (.tuple #[]) ∧ ansP (PE s) W w' o)) (s : σ) (w : World) (own : Nat → Prop) (hi : Inv s) (h : P s w own) :
 Calls Tryz.prog 47 #[pt x 0, iv to] w fun e w' => e = .returned (.tuple #[]) ∧ ansP (PE s) w w' own := by
 have hw := (KP s).lt h
 obtain ⟨tw, c10, HF0⟩ := hF.out s hi w own h
 obtain ⟨hxw, _, _⟩ := hY.out s hi w own h
 replace HF0 : Hid _ := HF0
 go_enter Tryz.func47, Tryz.ntmps47
 go_wp2_with fail
 refine (HF0.out _ bL).mono ?_
 rintro e w1 ⟨rfl, b1⟩
 replace b1 : Below w.heap.size w w1 := b1
 have h1 : P s w1 own := (KP s).keep h b1.size (fun k e => b1.block k (hw k e))
 have hw1 : Hid (∀ k, own k → k < w1.heap.size) := fun k e => Nat.lt_of_lt_of_le (hw k e) b1.size
 have HFRONT : Hid (∀ w', ansP (PE s) w1 w' own → ansP (PE s) w w' own) := fun w' ha => ansP_front b1 ha
 have HI0 : Hid (goonI P PE Inv fs fb μ s w1 own (.bool (fb s)) (w1.alloc (.cells #[iv (fs s).1, iv (fs s).2] 123)) (μ s)) := ⟨s, hi, rfl, rfl, seen_start (KP s) h1 ((Below.refl _ _).alloc (Nat.le_refl _) _) (by simp), rfl, heap_alloc_new w1 _⟩
 clear h h1 hi hw b1 c10 HF0 hxw
 generalize (fs s).1 = p1 at HI0 ⊢
 generalize (fs s).2 = p2 at HI0 ⊢
 generalize fb s = b0 at HI0 ⊢
 go_wp2_with fail
 go_loopw [5] (fun v wr => ∃ n, goonI P PE Inv fs fb μ s w1 own v wr n) (fun v wr => fuel (goonI P PE Inv fs fb μ s w1 own v wr))
 case atStart => exact ⟨_, HI0.out⟩
 case round =>
  have hfu := fuel_at hrel
  obtain ⟨s', i1, i2, i3, hT, rfl, ob⟩ := hfu
  replace hT : Hid _ := hT
  replace i1 : Hid _ := i1
  replace ob : Hid _ := ob
  have HM : Hid (∀ v' w' m, goonI P PE Inv fs fb μ s w1 own v' w' m → m < μ s' → (∃ n, goonI P PE Inv fs fb μ s w1 own v' w' n) ∧ fuel (goonI P PE Inv fs fb μ s w1 own v' w') < fuel (goonI P PE Inv fs fb μ s w1 own (.bool (fb s')) wr)) := fun v' w' m h1 h2 => ⟨⟨m, h1⟩, by rw [← i2]; exact Nat.lt_of_le_of_lt (fuel_le h1) h2⟩
  clear hrel i2 HI0
  obtain ⟨hlo1, hlo2⟩ := hLo.out s' i1.out
  have HXs : Hid (∀ W o, P s' W o → o x ∧ ∀ t, lo s' ≤ t → ansP (PC s' t) W (W.setCell (aq x 8) (iv t)) o) := hX.out s' i1.out
  have hy : x < wr.heap.size ∧ (∃ u, wr.cell? (aq x 8) = some u) ∧ wr.frozen? (aq x 8) = false := by
   obtain ⟨o1, a1, _⟩ := hT.out
   exact hY.out s' i1.out wr o1 a1
  have hne : x ≠ w1.heap.size := by
   obtain ⟨o1, a1, a2, a3, a4⟩ := hT.out
   rcases a3 x (HXs.out wr o1 a1).1 with e | e
   ·have := hw1.out x e; omega
   ·omega
  obtain ⟨hxr, ⟨u8, c8⟩, fz8⟩ := hy
  obtain ⟨s0, s1⟩ := two_cells ob.out
  have lw : w1.heap.size < wr.heap.size := (blt ob.out)
  have HEs : Hid ((fb s' = true → ¬ cd s') → ∀ W, seenT (PC s' to) w1 own 1 W → Calls Tryz.prog 73 #[pt x 23, iv to] W fun e w' => e = .returned (.tuple #[]) ∧ seenT (PE s) w1 own 1 w' ∧ ∀ b, w1.heap.size ≤ b → b < w1.heap.size + 1 → w'.heap[b]? = W.heap[b]?) := fun hc W hW => by
   rw [← i3]
   exact seen_call hw1.out (hE.out s' i1.out hc) W hW
  cases hb : fb s' with
  | false =>
    have HEs : Hid _ := HEs.out (fun c => by rw [hb] at c; cases c)
    replace hlo1 : Hid _ := hlo1
    clear HM hN hE hF hS hX hY ob s0 s1 hlo2 hLo
    go_wp2_with fail
    try go_quiet (fail)
    go_wp2_with fail
    have hC := seen_clock hT.out (fun o hp => (HXs.out wr o hp).2 to hlo1.out)
    have hTc : Hid (seenT (PC s' to) w1 own 1 (wr.setCell (aq x 8) (iv to))) := hC
    refine (HEs.out _ (seen_below (KC s' to) hTc.out bL)).mono ?_
    rintro e W1 ⟨rfl, hT1, hk⟩
    go_wp2
    first | go_end0 | refine bodyPost_ret (results_none rfl _ _ _) rfl ?_
    exact ⟨rfl, HFRONT.out _ (seen_end (seen_below (KE s) hT1 bL))⟩
  | true =>
    rw [hb] at HM
    by_cases hle : cd s'
    ·have HSs : Hid (∀ W, seenT (PC s' (fs s').1) w1 own 1 W → Calls Tryz.prog 72 #[pt x 0] W fun e w' => e = .returned (.tuple #[]) ∧ seenT (P (nx s')) w1 own 1 w' ∧ ∀ b, w1.heap.size ≤ b → b < w1.heap.size + 1 → w'.heap[b]? = W.heap[b]?) := fun W hW => seen_call hw1.out (hS.out s' i1.out hb hle) W hW
     obtain ⟨n1, n2, n3⟩ := hN.out s' i1.out hb hle
     have HFs : Hid (∀ W, seenT (P (nx s')) w1 own 1 W → ∃ tw, (x < W.heap.size ∧ W.cell? (aq x 10) = some (pt tw 0)) ∧ ∀ W', Below W.heap.size W W' → Calls Tryz.prog 71 #[pt tw 0] W' fun e w' => e = .returned (.tuple #[.agg #[iv (fs (nx s')).1, iv (fs (nx s')).2], .bool (fb (nx s'))]) ∧ Below W'.heap.size W' w') := fun W hW => by
      obtain ⟨o1, a1, _⟩ := hW
      obtain ⟨tw, q1, q2⟩ := hF.out (nx s') n1 W o1 a1
      exact ⟨tw, ⟨(hY.out (nx s') n1 W o1 a1).1, q1⟩, q2⟩
     have HR : Hid (∀ W', seenT (P (nx s')) w1 own 1 W' → W'.heap[w1.heap.size]? = some (.cells #[iv (fs (nx s')).1, iv (fs (nx s')).2] 123 (0, 0)) → (∃ n, goonI P PE Inv fs fb μ s w1 own (.bool (fb (nx s'))) W' n) ∧ fuel (goonI P PE Inv fs fb μ s w1 own (.bool (fb (nx s'))) W') < fuel (goonI P PE Inv fs fb μ s w1 own (.bool true) wr)) := fun W' h1 h2 => HM.out _ W' _ ⟨nx s', n1, rfl, n3.trans i3, h1, rfl, h2⟩ n2
     have hC := seen_clock hT.out (fun o hp => (HXs.out wr o hp).2 (fs s').1 (hlo2 hb))
     have hTc : Hid (seenT (PC s' (fs s').1) w1 own 1 (wr.setCell (aq x 8) (iv (fs s').1))) := hC
     have obc : Hid ((wr.setCell (aq x 8) (iv (fs s').1)).heap[w1.heap.size]? = some (.cells #[iv (fs s').1, iv (fs s').2] 123 (0, 0))) := (Below.heap_setCell _ (aq x 8) _ _ (Ne.symm hne)).trans ob.out
     have hle2 := (hcd.out s').1 hle
     clear HM hN hE hF hS hX hY HEs hcd hle n1 n2 n3 i3 HXs hT hC ob hLo hlo1 hlo2
     have KPc := KC s' (fs s').1
     have KPb := KP (nx s')
     generalize (fs s').1 = f1 at *
     generalize (fs s').2 = f2 at *
     generalize (fs (nx s')).1 = q1 at HFs HR
     generalize (fs (nx s')).2 = q2 at HFs HR
     generalize fb (nx s') = b1 at HFs HR
     generalize PC s' f1 = Pc at hTc HSs KPc
     generalize P (nx s') = Pb at HSs HFs HR KPb
     go_wp2_with fail
     try go_quiet (fail)
     go_wp2_with fail
     refine (HSs.out _ (seen_below KPc hTc.out bL)).mono ?_
     rintro e W2 ⟨rfl, hT2, hk⟩
     have ob2 : Hid _ := (hk _ (Nat.le_refl _) (by omega)).trans obc.out
     obtain ⟨tw, ⟨hx2, c10⟩, HF2⟩ := HFs.out _ hT2
     replace HF2 : Hid _ := HF2
     clear hk hTc obc s0 s1 c8 fz8
     go_wp2_with fail
     refine (HF2.out _ bL).mono ?_
     rintro e W3 ⟨rfl, b3⟩
     replace b3 : Below W2.heap.size W2 W3 := b3
     have ob3 := (b3.block _ (blt ob2.out)).trans ob2.out
     have hT3 := seen_below KPb hT2 b3
     have HS2 : Hid (((W3.setCell (aq w1.heap.size 0) (iv q1)).setCell (aq w1.heap.size 1) (iv q2)).heap[w1.heap.size]? = some (.cells #[iv q1, iv q2] 123 (0, 0))) := Joins.block_setCell (i := 1) (Joins.block_setCell (i := 0) ob3 _) _
     have hT4 : Hid (seenT Pb w1 own 1 ((W3.setCell (aq w1.heap.size 0) (iv q1)).setCell (aq w1.heap.size 1) (iv q2))) := seen_set KPb (seen_set KPb hT3 hw1.out (Nat.le_refl _) (by omega) _) hw1.out (Nat.le_refl _) (by omega) _
     obtain ⟨s0, s1⟩ := two_cells ob3
     have f0 := row_free ob3 0
     have f1' := row_free ob3 1
     have lw3 : w1.heap.size < W3.heap.size := (blt ob3)
     replace ob3 : Hid _ := ob3
     clear hT2 ob2 hT3 b3 c10
     go_wp2
     exact HR.out _ hT4.out HS2.out
    ·have HEs : Hid _ := HEs.out (fun _ => hle)
     have hle2 : ¬ (fs s').1 ≤ to := fun c => hle ((hcd.out s').2 c)
     replace hlo1 : Hid _ := hlo1
     clear HM hN hE hF hS hX hY hcd hle ob hlo2 hLo
     generalize (fs s').1 = f1 at s0 hle2
     go_wp2_with fail
     try go_quiet (fail)
     go_wp2_with fail
     have hC := seen_clock hT.out (fun o hp => (HXs.out wr o hp).2 to hlo1.out)
     have hTc : Hid (seenT (PC s' to) w1 own 1 (wr.setCell (aq x 8) (iv to))) := hC
     refine (HEs.out _ (seen_below (KC s' to) hTc.out bL)).mono ?_
     rintro e W1 ⟨rfl, hT1, hk⟩
     go_wp2
     first | go_end0 | refine bodyPost_ret (results_none rfl _ _ _) rfl ?_
     exact ⟨rfl, HFRONT.out _ (seen_end (seen_below (KE s) hT1 bL))⟩
end Go.Proofs.YtfhncfghblkgeabGreat
