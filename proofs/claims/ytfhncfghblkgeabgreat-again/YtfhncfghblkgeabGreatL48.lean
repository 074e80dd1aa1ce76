import Derived.Test.YtfhncfghblkgeabGreatL47
set_option maxRecDepth 100000
set_option maxHeartbeats 2000000
namespace Go.Proofs.YtfhncfghblkgeabGreat
open Go.RowKit
theorem rows_at {W : World} {B n : Nat} {v : Value} {rl : List Rep} (hl : rl.length = n) (h : W.ownsRow B 33 4 v n (flatR rl)) : ∃ a c, v = .slice a n c ∧ repsAt W a n rl ∧ (∀ g off, a = some (aq g off) → (B ≤ g ∧ g < W.heap.size) ∧ v.ownBlock = some g) := by
 subst hl
 obtain ⟨a, c, e, hr⟩ := reps_of h
 refine ⟨a, c, e, hr, fun g off ha => ?_⟩
 rcases h.2 with ⟨hv, _⟩ | ⟨b, cap, cur, hv, hB, hh, _⟩
 ·rw [e, ha] at hv
  simp at hv
 ·rw [e, ha] at hv
  simp only [Value.slice.injEq, Option.some.injEq, Addr.mk.injEq] at hv
  obtain ⟨⟨rfl, _, _⟩, _⟩ := hv
  exact ⟨⟨hB, (blt hh)⟩, by rw [e, ha]; rfl⟩
theorem again_case (n0 n1 n2 n3 n4 n5 n6 : Int) (a : Option Addr) (len cap : Nat) (ts : List (Int × Int)) (sa : Option Addr) (sl sc : Nat) (ps : List Stp) (i' : Int) (hi' : -9223372036854775808 ≤ i' ∧ i' ≤ 9223372036854775807) (j' : Int) (hj' : -9223372036854775808 ≤ j' ∧ j' ≤ 9223372036854775807) (w : World) (ht : tiersAt w a len cap ts) (hps : stepsAt w sa sl ps) (hfine : ∀ p ∈ ps, p.fine) (hl : sl * 48 ≤ 140737488351232) :
 Calls Tryz.prog 3 #[.agg #[iv n0, iv n1, iv n2, iv n3, iv n4, iv n5, iv n6, .slice a len cap, .slice sa sl sc], iv i', iv j'] w fun e w' => e = .returned (.bool true) ∧ Below w.heap.size w w' := by
 cases hc : cfgB [n0, n1, n2, n3, n4, n5, n6] ts
 ·refine again_none _ _ _ _ _ _ _ _ sa sl sc i' j' w (fun W hW => ?_)
  refine (open_any (sa := sa) (sl := sl) (sc := sc) (ht.below hW (Nat.le_refl _))).mono ?_
  rintro e w' (⟨_, rfl, hb⟩ | ⟨hc', _⟩)
  ·exact ⟨rfl, hb⟩
  ·rw [hc] at hc'; cases hc'
 ·have hfj : ∀ j, j < sl → (ps.getD j stp0).fine := fun j hj => by
   have hj' : j < ps.length := by rw [hps.1]; exact hj
   refine hfine _ ?_
   simp [List.getD, List.getElem?_eq_getElem hj']
  have hlen := hps.1
  have hm : 0 < sl → pickN i' sl < sl ∧ pickN i' sl + pickN j' (sl - pickN i' sl) < sl := fun h => by
   have h1 := pickN_lt i' h
   have h2 := pickN_lt j' (n := sl - pickN i' sl) (by omega)
   omega
  obtain ⟨S0, hS0⟩ : ∃ S0 : Sal, S0 = sal0 ⟨n0, n1, n2, n3, n4, n5, n6, ts⟩ := ⟨_, rfl⟩
  have hk5 : S0.C.keep = n5 := by rw [hS0]; rfl
  have hn0' : S0.now = 0 := by rw [hS0]; rfl
  have ha0 : S0.ansL = [] := by rw [hS0]; rfl
  have h00 : 0 ≤ S0.now ∧ S0.now ≤ 4611686018427387904 := by rw [hn0']; decide
  have hopen : ∀ W, Below w.heap.size w W → Calls Tryz.prog 7 #[.agg #[iv n0, iv n1, iv n2, iv n3, iv n4, iv n5, iv n6, .slice a len cap, .slice sa sl sc]] W fun e w' => ∃ x own, e = .returned (.tuple #[pt x 0, .bool true]) ∧ psk' x S0 w' own ∧ (∀ k, own k → W.heap.size ≤ k) ∧ Below W.heap.size W w' := by
   intro W hW
   rw [hS0]
   refine (open_any (sa := sa) (sl := sl) (sc := sc) (ht.below hW (Nat.le_refl _))).mono ?_
   rintro e w' (⟨hc', _⟩ | ⟨_, h⟩)
   ·rw [hc] at hc'; cases hc'
   ·exact h
  clear hS0
  obtain ⟨m1, hm1⟩ : ∃ m1, m1 = pickN i' sl := ⟨_, rfl⟩
  obtain ⟨d, hd⟩ : ∃ d, d = pickN j' (sl - m1) := ⟨_, rfl⟩
  rw [← hm1, ← hd] at hm
  obtain ⟨far, hfar⟩ : ∃ far : Int, (sumT ps m1 d < 4611686018427387904 → far = sumT ps m1 d) ∧ (4611686018427387904 ≤ sumT ps m1 d → far = 4611686018427387904) := by
   by_cases h : sumT ps m1 d < 4611686018427387904
   ·exact ⟨_, fun _ => rfl, fun h' => by omega⟩
   ·exact ⟨4611686018427387904, fun h' => absurd h' h, fun _ => rfl⟩
  have hfr : decide (∀ k, k < m1 → (ps.getD k stp0).t ≠ (ps.getD m1 stp0).t) = true ↔ ∀ k, k < m1 → (ps.getD k stp0).t ≠ (ps.getD m1 stp0).t := decide_eq_true_iff
  generalize decide (∀ k, k < m1 → (ps.getD k stp0).t ≠ (ps.getD m1 stp0).t) = fb at hfr
  have hrl : ((List.range sl).map (fun j => ((runS S0 ps j).does (ps.getD j stp0)).1)).length = sl := by simp
  have hrat : ∀ j, j < sl → ((List.range sl).map (fun j => ((runS S0 ps j).does (ps.getD j stp0)).1)).getD j rep0 = ((runS S0 ps j).does (ps.getD j stp0)).1 := fun j hj => by
   simp [List.getD, hj]
  refine again_walk i' j' sl m1 d n0 n1 n2 n3 n4 n5 n6 (.slice a len cap) sa sc ps ((List.range sl).map (fun j => ((runS S0 ps j).does (ps.getD j stp0)).1)) w (fun x => psk' x S0) (fun x => keepPSK x _) (fun a b => twoS a b S0 S0) (fun a b => twoS a b (runS S0 ps sl) S0) (fun a b => twoS a b (runS S0 ps sl) (runS S0 ps sl)) (fun _ _ => keepTwo _ _ _ _) (fun _ _ => keepTwo _ _ _ _) (fun _ _ => keepTwo _ _ _ _) (isB (ps.getD m1 stp0).k (ps.getD m1 stp0).t (ps.getD m1 stp0).c (ps.getD m1 stp0).u (ps.getD m1 stp0).o) fb far (by omega) hps hm hopen ?_ ?_ ?_ ?_ ?_ ?_ ?_ ?_ ?_ ?_
  ·intro a b W o1 o2 o h1 h2 h3 h4
   exact ⟨o1, o2, h1, h2, h3, h4⟩
  ·intro a b W o hp hst hdis
   refine (replies_walk a sl 0 (-1) 0 _ _ _ _ _ _ _ _ sa sc ps W o (fun j => twoS a b (runS S0 ps j) S0) (fun _ => keepTwo _ _ _ _) hp (fun j => ((runS S0 ps j).does (ps.getD j stp0)).1) rep0 rep0 (show rep0 = if (0 : Int) ≤ -1 then rep0 else rep0 from by simp) hl hst hdis (.inl (by decide)) ?_ ?_).mono ?_
   ·intro j hj W o hp
    exact onA (fun W o hq => does_any hq (ps.getD j stp0) (hfj j hj)) W o hp
   ·intro h; exact absurd h (by decide)
   ·rintro e w' ⟨lv, rfl, hrow, own', hp', hsm, hgr, hno⟩
    obtain ⟨la, lc, rfl, hr, hb⟩ := rows_at hrl hrow
    exact ⟨la, lc, rfl, hr, fun g off e => (hb g off e).1, own', hp', hsm, hgr, fun g off e => hno g (hb g off e).2⟩
  ·intro h W
   have := pick_k i' sl W hi' h (by omega)
   rw [← hm1] at this
   exact this
  ·intro h W
   have hm' := hm h
   have := pick_k j' (sl - m1) W hj' (by omega) (by omega)
   rw [← hd, show ((sl - m1 : Nat) : Int) = (sl : Int) - m1 by omega] at this
   exact this
  ·intro W
   exact is_any _ _ _ _ _ W
  ·intro h W hst
   exact fresh_k sl m1 _ _ _ _ _ _ _ _ sa sc ps W (by omega) (hm h).1 hst fb hfr
  ·intro h W hst
   have := spent_k sl m1 (m1 + d) (iv n0) (iv n1) (iv n2) (iv n3) (iv n4) (iv n5) (iv n6) (.slice a len cap) sa sc ps W (by omega) (by omega) (hm h).2 hst (fun k hk => (hfj k hk).1.2) far (by rw [Nat.add_sub_cancel_left]; exact hfar)
   rw [show ((m1 + d : Nat) : Int) = (m1 : Int) + d by omega] at this
   exact this
  ·intro h hvb h4 hfb hfa h11 a b W o hp hst hdis
   have hm' := hm h
   rw [hrat m1 hm'.1] at h11
   have hsame := again_same ps h00 ha0 rfl hvb h4 (hfr.1 hfb) hfar (by rw [hk5]; exact hfa) h11
   refine (replies_walk b sl (m1 + d) (m1 : Int) ((m1 : Int) + d) _ _ _ _ _ _ _ _ sa sc ps W o (fun j => twoS a b (runS S0 ps sl) (runS S0 ps j)) (fun _ => keepTwo _ _ _ _) hp (fun j => ((runS S0 ps j).does (ps.getD j stp0)).1) (((runS S0 ps m1).does (ps.getD m1 stp0)).1) (((runS S0 ps m1).does (ps.getD m1 stp0)).1) (show _ = if (0 : Int) ≤ (m1 : Int) then _ else rep0 from by rw [if_pos (by omega)]) hl hst hdis (.inr ⟨by omega, by simpa using hm'.1, by omega, hm'.2⟩) ?_ ?_).mono ?_
   ·intro j hj W o hp
    exact onB (fun W o hq => does_any hq (ps.getD j stp0) (hfj j hj)) W o hp
   ·intro _ W o hp
    rw [Int.toNat_natCast]
    refine onB (fun W o hq => ?_) W o hp
    have := does_any hq (ps.getD m1 stp0) (hfj m1 hm'.1)
    rw [show m1 + d + 1 = m1 + 1 + d by omega] at this ⊢
    rw [hsame] at this
    exact this
   ·rintro e w' ⟨lv, rfl, hrow, own', hp', hsm, hgr, hno⟩
    obtain ⟨la, lc, rfl, hr, hb⟩ := rows_at hrl hrow
    exact ⟨la, lc, by rw [hrat m1 hm'.1], hr, fun g off e => (hb g off e).1, own', hp', hsm, hgr, fun g off e => hno g (hb g off e).2⟩
  ·intro W la lb ca cb h1 h2
   exact sameReplies_k la lb sl ca cb _ W (by omega) h1 h2
  ·intro a b W o hp hst hdis
   exact alike_k hp (by omega) hst hfine hdis
section
open Go.ChangeShapes Go.WideShapes Go.ChangeAt Go.RowKit
theorem again_lifted (os : Os) (started : os.Started) (H : Type) (enc : TypeId × Value → H) :
 ReturnsInHanded {} Tryz.checked os 3 .any (Rows.againSpec.pre6 enc Tryz.prog Tryz.f3 Rows.againRow.domain false) (Rows.againSpec.post enc Tryz.prog Tryz.f3 false true false false) := by
 refine returnsInHanded_of_change_sized (C := Tryz.checked) own started (by kernel_rfl) Tryz.func3
  (ChangeSpec.witness6 (enc := enc) (C := Tryz.checked) false ⟨#[], #[.agg #[iv 0, iv 0, iv 0, iv 0, iv 0, iv 0, iv 0, .slice none 0 0, .slice none 0 0], iv 0, iv 0], []⟩ 8 (by kernel_rfl) (by kernel_rfl) (by kernel_rfl) (by kernel_rfl)) ?_
 intro W base args ds gs before hval0 hW hcnd hsz0 _
 have hval : ∀ (j : Nat) t v, Tryz.f3.params[j]? = some t → args[j]? = some v → Value.okWide Tryz.prog W .any base t v := hval0
 have hsz : (DataW.weightsEach Tryz.prog (Tryz.f3.params.toList ++ Rows.againSpec.plain.varTypes Tryz.prog) (ds ++ gs)).all (· ≤ reachBytes) = true := hsz0
 have hW' := hW
 obtain ⟨p, q, hA0, hV, rfl, hfz, hnd⟩ := hW
 have hA : DataW.TrodAll enc Tryz.prog W 0 (fun _ => true) true Tryz.f3.params.toList args.toList ds p := hA0
 rw [Tryz.params3] at hA hval hsz
 obtain ⟨v0, vs0, d0, ds0, p0, q0, hargs, rfl, rfl, h0, r0⟩ := trodAll_cons hA
 obtain ⟨v1, vs1, d1, ds1, p1, q1, rfl, rfl, rfl, h1, r1⟩ := trodAll_cons r0
 obtain ⟨v2, vs2, d2, ds2, p2, q2, rfl, rfl, rfl, h2, r2⟩ := trodAll_cons r1
 obtain ⟨rfl, rfl, rfl⟩ := trodAll_nil r2
 obtain rfl : args = #[v0, v1, v2] := by cases args; simp_all
 obtain ⟨rfl, rfl⟩ := trodVars_none hV
 have k0 := h0
 have k1 := h1
 have k2 := h2
 have lt0 : ∀ x ∈ p0, x.block < W.heap.size := by obtain ⟨m, hm⟩ := k0; exact DataW.trod_lt m _ _ _ hm
 have lt1 : ∀ x ∈ p1, x.block < W.heap.size := by obtain ⟨m, hm⟩ := k1; exact DataW.trod_lt m _ _ _ hm
 have lt2 : ∀ x ∈ p2, x.block < W.heap.size := by obtain ⟨m, hm⟩ := k2; exact DataW.trod_lt m _ _ _ hm
 have w0 : wOK 27 d0 := fun x hx => by simpa using List.all_eq_true.1 hsz x (DataW.weights_mem_each (j := 0) rfl rfl x hx)
 obtain ⟨n0, n1, n2, n3, n4, n5, n6, a, len, cap, ts, sa, sl, sc, ps, rfl, ht, hps, hfine, hl⟩ := case_open (hval 0 27 v0 rfl rfl) h0 w0
 obtain ⟨i1, rfl⟩ := okWide_int Tryz.underlying3 (hval 1 3 v1 rfl rfl)
 obtain ⟨i2, rfl⟩ := okWide_int Tryz.underlying3 (hval 2 3 v2 rfl rfl)
 have b1 : -9223372036854775808 ≤ i1 ∧ i1 ≤ 9223372036854775807 := by
  obtain ⟨m, hm⟩ := k1
  obtain ⟨z, e0, _, wz⟩ := DataW.trod_int Tryz.underlying3 hm
  simp [Value.cells] at e0
  subst e0
  have := bounds_i64 wz
  exact ⟨this.1, this.2⟩
 have b2 : -9223372036854775808 ≤ i2 ∧ i2 ≤ 9223372036854775807 := by
  obtain ⟨m, hm⟩ := k2
  obtain ⟨z, e0, _, wz⟩ := DataW.trod_int Tryz.underlying3 hm
  simp [Value.cells] at e0
  subst e0
  have := bounds_i64 wz
  exact ⟨this.1, this.2⟩
 clear hA0 hval0
 refine (again_case n0 n1 n2 n3 n4 n5 n6 a len cap ts sa sl sc ps i1 b1 i2 b2 W ht hps hfine hl).mono fun e W' ⟨he, bel⟩ => ?_
 subst he
 exact ⟨_, rfl, _, _, _, [], _, [], hW', trodAll_mk1 (shut_bool Tryz.underlying4 _), (trodAll_cons_mk (Below.trod laidOut (by kernel_rfl) (of_decide_eq_true (by kernel_rfl)) k0 bel lt0) (trodAll_cons_mk (Below.trod laidOut (by kernel_rfl) (of_decide_eq_true (by kernel_rfl)) k1 bel lt1) (trodAll_cons_mk (Below.trod laidOut (by kernel_rfl) (of_decide_eq_true (by kernel_rfl)) k2 bel lt2) trodAll_mk0))), rfl, bel.frame _, fun h => by cases h⟩
theorem again_holds : Rows.AgainSaid :=
 OpenClaim.holds_of_wide 3 Tryz.f3 rfl rfl rfl rfl rfl rfl rfl ⟨rfl, rfl, rfl, rfl, rfl⟩ rfl rfl rfl rfl rfl (by kernel_rfl) Tryz.func3 (by kernel_rfl)
  (of_decide_eq_true (by kernel_rfl)) (by unfold Func.isWrapper; first | (rw [if_pos (by decide +kernel)]; kernel_rfl) | (rw [if_neg (by decide +kernel)]; exact ⟨rfl, rfl⟩))
  (fun os started H enc _ => again_lifted os started H enc)
end
end Go.Proofs.YtfhncfghblkgeabGreat
