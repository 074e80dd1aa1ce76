import Derived.Test.YtfhncfghblkgeabGreatL45
set_option maxRecDepth 100000
set_option maxHeartbeats 2000000
namespace Go.Proofs.YtfhncfghblkgeabGreat
open Go.RowKit
section
open Go.ChangeShapes Go.WideShapes Go.ChangeAt Go.RowKit
theorem pick_k (c : Int) (n : Nat) (w : World) (hb : -9223372036854775808 ≤ c ∧ c ≤ 9223372036854775807) (hn : 0 < n) (hn' : n < 9223372036854775808) :
 Calls Tryz.prog 9 #[iv c, iv n] w fun e w' => e = .returned (iv (pickN c n)) ∧ Below w.heap.size w w' := by
 obtain ⟨hb1, hb2⟩ := hb
 by_cases h0 : c < 0
 ·have hne : ((n : Int) == 0) = false := by simp; omega
  go_enter Tryz.func9, Tryz.ntmps9
  go_wp2
  go_ret
  refine ⟨ret_int ?_, Below.refl _ _⟩
  unfold pickN
  rw [if_pos h0]
  rw [← Int.neg_tmod]
  generalize hd : -(c + 1) = d
  obtain ⟨m, rfl⟩ := Int.eq_ofNat_of_zero_le (show 0 ≤ d by omega)
  rw [Int.toNat_natCast]
  exact Int.ofNat_tmod m n
 ·have hne : ((n : Int) == 0) = false := by simp; omega
  obtain ⟨m, rfl⟩ := Int.eq_ofNat_of_zero_le (show 0 ≤ c by omega)
  go_enter Tryz.func9, Tryz.ntmps9
  go_wp2
  go_ret
  refine ⟨ret_int ?_, Below.refl _ _⟩
  unfold pickN
  rw [if_neg (by omega), Int.toNat_natCast]
  first | exact Int.ofNat_tmod m n | exact (Int.natCast_emod m n).symm
theorem does_zero (S : Sal) {p : Stp} (h : p.k = 0) : S.does p = (rep0, (S.tick p.n).2) := by
 unfold Sal.does
 rw [if_pos (by omega), if_pos h]
theorem joined_case (n0 n1 n2 n3 n4 n5 n6 : Int) (a : Option Addr) (len cap : Nat) (ts : List (Int × Int)) (sa : Option Addr) (sl sc : Nat) (ps : List Stp) (at' : Int) (hat : -9223372036854775808 ≤ at' ∧ at' ≤ 9223372036854775807) (w : World) (ht : tiersAt w a len cap ts) (hps : stepsAt w sa sl ps) (hfine : ∀ p ∈ ps, p.fine) (hl : sl * 48 ≤ 140737488351232) :
 Calls Tryz.prog 4 #[.agg #[iv n0, iv n1, iv n2, iv n3, iv n4, iv n5, iv n6, .slice a len cap, .slice sa sl sc], iv at'] w fun e w' => e = .returned (.bool true) ∧ Below w.heap.size w w' := by
 cases hc : cfgB [n0, n1, n2, n3, n4, n5, n6] ts
 ·refine joined_none _ _ _ _ _ _ _ _ sa sl sc at' w (fun W hW => ?_)
  refine (open_any (sa := sa) (sl := sl) (sc := sc) (ht.below hW (Nat.le_refl _))).mono ?_
  rintro e w' (⟨_, rfl, hb⟩ | ⟨hc', _⟩)
  ·exact ⟨rfl, hb⟩
  ·rw [hc] at hc'; cases hc'
 ·have hfj : ∀ j, j < sl → (ps.getD j stp0).fine := fun j hj => by
   have hj' : j < ps.length := by rw [hps.1]; exact hj
   refine hfine _ ?_
   simp [List.getD, List.getElem?_eq_getElem hj']
  have hfst : ∀ j, j < sl → 0 < (ps.getD j stp0).n → (0 ≤ (pickN at' (ps.getD j stp0).n.toNat : Int) ∧ (pickN at' (ps.getD j stp0).n.toNat : Int) ≤ (ps.getD j stp0).n ∧ (ps.getD j stp0).n < 9223372036854775808) := fun j hj hp => by
   have h1 := pickN_lt at' (n := (ps.getD j stp0).n.toNat) (by omega)
   have h2 := (hfj j hj).1.2
   omega
  refine joined_walk at' sl _ _ _ _ _ _ _ _ sa sc ps w (fun x => psk' x (sal0 ⟨n0, n1, n2, n3, n4, n5, n6, ts⟩)) (fun x => keepPSK x _) (fun a b j => twoS a b (runS (sal0 ⟨n0, n1, n2, n3, n4, n5, n6, ts⟩) ps j) (runS (sal0 ⟨n0, n1, n2, n3, n4, n5, n6, ts⟩) ps j)) (fun a b j => twoS a b (runS (sal0 ⟨n0, n1, n2, n3, n4, n5, n6, ts⟩) ps (j + 1)) (runS (sal0 ⟨n0, n1, n2, n3, n4, n5, n6, ts⟩) ps j)) (fun a b j W o => twoS a b (runS (sal0 ⟨n0, n1, n2, n3, n4, n5, n6, ts⟩) ps (j + 1)) ((runS (sal0 ⟨n0, n1, n2, n3, n4, n5, n6, ts⟩) ps j).tick (pickN at' (ps.getD j stp0).n.toNat)).2 W o ∧ restS (runS (sal0 ⟨n0, n1, n2, n3, n4, n5, n6, ts⟩) ps j) ∧ 0 ≤ (runS (sal0 ⟨n0, n1, n2, n3, n4, n5, n6, ts⟩) ps j).now) (fun _ _ _ => keepTwo _ _ _ _) (fun _ _ _ => keepTwo _ _ _ _) (fun _ _ _ => ⟨fun h => (keepTwo _ _ _ _).lt h.1, fun h hz hk => ⟨(keepTwo _ _ _ _).keep h.1 hz hk, h.2⟩⟩) (fun j => ((runS (sal0 ⟨n0, n1, n2, n3, n4, n5, n6, ts⟩) ps j).does (ps.getD j stp0)).1) (fun j => (pickN at' (ps.getD j stp0).n.toNat : Int)) (by omega) hps ?_ ?_ ?_ ?_ ?_ ?_ ?_ ?_ ?_
  ·intro W hW
   refine (open_any (sa := sa) (sl := sl) (sc := sc) (ht.below hW (Nat.le_refl _))).mono ?_
   rintro e w' (⟨hc', _⟩ | ⟨_, h⟩)
   ·rw [hc] at hc'; cases hc'
   ·exact h
  ·intro a b W o1 o2 o h1 h2 h3 h4
   exact ⟨o1, o2, h1, h2, h3, h4⟩
  ·intro a b j hj W o hp
   exact onA (fun W o hq => does_any hq (ps.getD j stp0) (hfj j hj)) W o hp
  ·intro j hj hk hp
   exact hfst j hj hp
  ·intro j hj hk hp W
   have := pick_k at' (ps.getD j stp0).n.toNat W hat (by omega) (by have := (hfj j hj).1.2; omega)
   rw [Int.toNat_of_nonneg (by omega)] at this
   exact this
  ·intro a b j hj hk hp W o hq
   have hf := hfst j hj hp
   obtain ⟨_, _, hr1, hr2⟩ := twoS_now hq
   refine (onB (fun W o hq => ?_) W o hq).mono (fun e w' h => ⟨h.1, ansP_mono h.2 (fun W o h => ⟨h, hr1, hr2.I.now.1⟩)⟩)
   have := does_any hq ⟨(pickN at' (ps.getD j stp0).n.toNat : Int), 0, 0, 0, 0, 0⟩ ⟨⟨Int.le_trans (by decide) hf.1, Int.lt_of_le_of_lt hf.2.1 hf.2.2⟩, inI_0, inI_0, inI_0, inI_0, inI_0⟩
   rw [does_tick_val] at this
   exact this
  ·intro a b j hj hk hp W o hq
   have hf := hfst j hj hp
   obtain ⟨hq, hrest⟩ := hq
   refine onB (fun W o hq => ?_) W o hq
   have hfn := hfj j hj
   have ett := tick_twice hrest.1 hrest.2 hf.1 (show 0 ≤ (ps.getD j stp0).n - (pickN at' (ps.getD j stp0).n.toNat : Int) by omega)
   rw [show (pickN at' (ps.getD j stp0).n.toNat : Int) + ((ps.getD j stp0).n - (pickN at' (ps.getD j stp0).n.toNat : Int)) = (ps.getD j stp0).n by omega] at ett
   show Calls _ _ _ _ fun e w' => e = .returned (.tuple #[(((runS (sal0 ⟨n0, n1, n2, n3, n4, n5, n6, ts⟩) ps j).does (ps.getD j stp0)).1).val, .bool true]) ∧ ansP (psk' b ((runS (sal0 ⟨n0, n1, n2, n3, n4, n5, n6, ts⟩) ps j).does (ps.getD j stp0)).2) W w' o
   rw [does_zero _ hk]
   simp only
   rw [← ett]
   generalize ps.getD j stp0 = pj at hf hfn hk hq ⊢
   generalize (pickN at' pj.n.toNat : Int) = fj at hf hq ⊢
   have := does_any hq ⟨pj.n - fj, pj.k, pj.t, pj.c, pj.u, pj.o⟩ ⟨⟨show -9223372036854775808 ≤ pj.n - fj by omega, show pj.n - fj < 9223372036854775808 by omega⟩, hfn.2⟩
   rw [does_zero _ (show (Stp.k ⟨pj.n - fj, pj.k, pj.t, pj.c, pj.u, pj.o⟩) = 0 from hk)] at this
   exact this
  ·intro a b j hj hk W o hp
   exact onB (fun W o hq => does_any hq (ps.getD j stp0) (hfj j hj)) W o hp
  ·intro a b j W o _ hp hst hdis
   exact alike_k hp (by omega) hst hfine hdis
end
section
open Go.ChangeShapes Go.WideShapes Go.ChangeAt Go.RowKit
theorem joined_lifted (os : Os) (started : os.Started) (H : Type) (enc : TypeId × Value → H) :
 ReturnsInHanded {} Tryz.checked os 4 .any (Rows.joinedSpec.pre6 enc Tryz.prog Tryz.f4 Rows.joinedRow.domain false) (Rows.joinedSpec.post enc Tryz.prog Tryz.f4 false true false false) := by
 refine returnsInHanded_of_change_sized (C := Tryz.checked) own started (by kernel_rfl) Tryz.func4
  (ChangeSpec.witness6 (enc := enc) (C := Tryz.checked) false ⟨#[], #[.agg #[iv 0, iv 0, iv 0, iv 0, iv 0, iv 0, iv 0, .slice none 0 0, .slice none 0 0], iv 0], []⟩ 8 (by kernel_rfl) (by kernel_rfl) (by kernel_rfl) (by kernel_rfl)) ?_
 intro W base args ds gs before hval0 hW hcnd hsz0 _
 have hval : ∀ (j : Nat) t v, Tryz.f4.params[j]? = some t → args[j]? = some v → Value.okWide Tryz.prog W .any base t v := hval0
 have hsz : (DataW.weightsEach Tryz.prog (Tryz.f4.params.toList ++ Rows.joinedSpec.plain.varTypes Tryz.prog) (ds ++ gs)).all (· ≤ reachBytes) = true := hsz0
 have hW' := hW
 obtain ⟨p, q, hA0, hV, rfl, hfz, hnd⟩ := hW
 have hA : DataW.TrodAll enc Tryz.prog W 0 (fun _ => true) true Tryz.f4.params.toList args.toList ds p := hA0
 rw [Tryz.params4] at hA hval hsz
 obtain ⟨v0, vs0, d0, ds0, p0, q0, hargs, rfl, rfl, h0, r0⟩ := trodAll_cons hA
 obtain ⟨v1, vs1, d1, ds1, p1, q1, rfl, rfl, rfl, h1, r1⟩ := trodAll_cons r0
 obtain ⟨rfl, rfl, rfl⟩ := trodAll_nil r1
 obtain rfl : args = #[v0, v1] := by cases args; simp_all
 obtain ⟨rfl, rfl⟩ := trodVars_none hV
 have k0 := h0
 have k1 := h1
 have lt0 : ∀ x ∈ p0, x.block < W.heap.size := by obtain ⟨m, hm⟩ := k0; exact DataW.trod_lt m _ _ _ hm
 have lt1 : ∀ x ∈ p1, x.block < W.heap.size := by obtain ⟨m, hm⟩ := k1; exact DataW.trod_lt m _ _ _ hm
 have w0 : wOK 27 d0 := fun x hx => by simpa using List.all_eq_true.1 hsz x (DataW.weights_mem_each (j := 0) rfl rfl x hx)
 obtain ⟨n0, n1, n2, n3, n4, n5, n6, a, len, cap, ts, sa, sl, sc, ps, rfl, ht, hps, hfine, hl⟩ := case_open (hval 0 27 v0 rfl rfl) h0 w0
 obtain ⟨i1, rfl⟩ := okWide_int Tryz.underlying3 (hval 1 3 v1 rfl rfl)
 have b1 : -9223372036854775808 ≤ i1 ∧ i1 ≤ 9223372036854775807 := by
  obtain ⟨m, hm⟩ := k1
  obtain ⟨z, e0, _, wz⟩ := DataW.trod_int Tryz.underlying3 hm
  simp [Value.cells] at e0
  subst e0
  have := bounds_i64 wz
  exact ⟨this.1, this.2⟩
 clear hA0 hval0
 refine (joined_case n0 n1 n2 n3 n4 n5 n6 a len cap ts sa sl sc ps i1 b1 W ht hps hfine hl).mono fun e W' ⟨he, bel⟩ => ?_
 subst he
 exact ⟨_, rfl, _, _, _, [], _, [], hW', trodAll_mk1 (shut_bool Tryz.underlying4 _), (trodAll_cons_mk (Below.trod laidOut (by kernel_rfl) (of_decide_eq_true (by kernel_rfl)) k0 bel lt0) (trodAll_cons_mk (Below.trod laidOut (by kernel_rfl) (of_decide_eq_true (by kernel_rfl)) k1 bel lt1) trodAll_mk0)), rfl, bel.frame _, fun h => by cases h⟩
theorem joined_holds : Rows.JoinedSaid :=
 OpenClaim.holds_of_wide 4 Tryz.f4 rfl rfl rfl rfl rfl rfl rfl ⟨rfl, rfl, rfl, rfl, rfl⟩ rfl rfl rfl rfl rfl (by kernel_rfl) Tryz.func4 (by kernel_rfl)
  (of_decide_eq_true (by kernel_rfl)) (by unfold Func.isWrapper; first | (rw [if_pos (by decide +kernel)]; kernel_rfl) | (rw [if_neg (by decide +kernel)]; exact ⟨rfl, rfl⟩))
  (fun os started H enc _ => joined_lifted os started H enc)
end
end Go.Proofs.YtfhncfghblkgeabGreat
