/-
  salekeep's list of timers: gone.
-/
import Derived.Test.YtfhncfghblkgeaaRing1
namespace Go.Proofs.Ytfhncfghblkgeaa
open Go.RowKit

/-- The next that goes off. -/
theorem adv_head {to : Int} {L o Lf : List (Int × Int)} {p : Int × Int} (ho : onceT L) (h : adv to L = (p :: o, Lf)) : p ∈ L ∧ p.1 ≤ to ∧ adv to (L.filter (fun q => q.2 != p.2)) = (o, Lf) := by
  by_cases hc : firstB L = true ∧ (firstT L).1 ≤ to
  · have hn := adv_next ho hc.1 hc.2
    rw [h] at hn
    simp only [Prod.mk.injEq, List.cons.injEq] at hn
    obtain ⟨⟨e1, e2⟩, e3⟩ := hn
    rw [e1]
    exact ⟨first_in hc.1, hc.2, by rw [e2, e3]⟩
  · have : firstB L = false ∨ to < (firstT L).1 := by
      by_cases hb : firstB L = true
      · exact .inr (Int.not_le.1 (fun h => hc ⟨hb, h⟩))
      · exact .inl (by simpa using hb)
    rw [adv_end this] at h
    simp at h

theorem adv_nil {to : Int} {L Lf : List (Int × Int)} (ho : onceT L) (h : adv to L = ([], Lf)) : L = Lf := by
  by_cases hc : firstB L = true ∧ (firstT L).1 ≤ to
  · have hn := adv_next ho hc.1 hc.2
    rw [h] at hn
    simp at hn
  · have : firstB L = false ∨ to < (firstT L).1 := by
      by_cases hb : firstB L = true
      · exact .inr (Int.not_le.1 (fun h => hc ⟨hb, h⟩))
      · exact .inl (by simpa using hb)
    rw [adv_end this] at h
    simpa using h

theorem adv_count {to : Int} {L : List (Int × Int)} : (adv to L).1.length = countT to L := (adv_spec to _ L rfl).2.1.length_eq

theorem adv_once {to : Int} {L : List (Int × Int)} (ho : onceT L) : onceT (adv to L).1 := onceT_perm (adv_spec to _ L rfl).2.1.symm (onceT_filter _ ho)

/-- Of two in a row the one goes off ahead of the other. -/
theorem adv_row {to : Int} {L : List (Int × Int)} (ho : onceT L) {i : Nat} (hi : i + 1 < (adv to L).1.length) : aheadB ((adv to L).1.getD i (0, 0)) ((adv to L).1.getD (i + 1) (0, 0)) = true := by
  have hs := (adv_spec to _ L rfl).2.2
  have hn := adv_once (to := to) ho
  generalize (adv to L).1 = o at *
  have h1 : i < o.length := by omega
  have g1 : o.getD i (0, 0) = o[i] := by simp [List.getD, List.getElem?_eq_getElem h1]
  have g2 : o.getD (i + 1) (0, 0) = o[i + 1] := by simp [List.getD, List.getElem?_eq_getElem hi]
  rw [g1, g2]
  have hr : ¬ aheadB o[i + 1] o[i] = true := List.pairwise_iff_getElem.1 hs i (i + 1) h1 hi (by omega)
  have hne : o[i].2 ≠ o[i + 1].2 := by
    have := List.pairwise_iff_getElem.1 hn i (i + 1) (by simpa using h1) (by simpa using hi) (by omega)
    simpa using this
  rw [not_ahead] at hr
  rw [aheadB_iff]
  omega

theorem idx_get {L : List (Int × Int)} {p : Int × Int} (ho : onceT L) (hm : p ∈ L) : ∃ k : Nat, idxT L p.2 = k ∧ k < L.length ∧ L.getD k (0, 0) = p ∧ L.eraseIdx k = L.filter (fun q => q.2 != p.2) := by
  have h0 : 0 ≤ idxT L p.2 := idxT_mem.2 ⟨p, hm, rfl⟩
  obtain ⟨h1, h2⟩ := idxT_at h0
  have hg := once_id ho (getD_mem h1) hm h2
  exact ⟨(idxT L p.2).toNat, by omega, h1, hg, by rw [erase_once ho h1, h2]⟩

set_option maxRecDepth 100000 in
set_option maxHeartbeats 4000000 in
theorem gone_any (B R : Nat) (now to : Int) (v lo : Value) (L : List (Int × Int)) (w : World) (h : pendAt w B R now v L) (hd : duesAt w lo (adv to L).1) (hb : ∀ k, lo.ownBlock = some k → k ≠ R ∧ v.ownBlock ≠ some k) (ho : onceT L) (hl : L.length * 16 ≤ 140737488355328) :
    Calls Try.prog 25 #[.pointer (some ⟨R, 0, none⟩), lo, .int .i64 to] w fun e w' => e = .returned (.bool true) ∧ ∃ v', pendAt w' B R now v' (adv to L).2 ∧ Same (fun b => b = R ∨ v.ownBlock = some b) w w' ∧ v'.ownBlock = v.ownBlock := by
  have HBY : Hid (Calls Try.prog 35 #[.pointer (some ⟨R, 0, none⟩), .int .i64 to] w fun e w' => e = .returned (.int .i64 (adv to L).1.length) ∧ w = w') := by
    rw [adv_count]
    exact by_any R v L to w (rw_cells h.1).2 (duesAt_of h.2) hl
  obtain ⟨la, lc, rfl, hcell⟩ := hd
  have hol : (adv to L).1.length ≤ L.length := by
    rw [adv_count]
    exact List.length_filter_le _ _
  have HI : Hid (∃ v', pendAt w B R now v' L ∧ Same (fun b => b = R ∨ v.ownBlock = some b) w w ∧ v'.ownBlock = v.ownBlock) := ⟨v, h, ⟨rfl, rfl, rfl, Nat.le_refl _, fun _ _ _ => rfl⟩, rfl⟩
  have HO : Hid (∀ i, i + 1 < (adv to L).1.length → aheadB ((adv to L).1.getD i (0, 0)) ((adv to L).1.getD (i + 1) (0, 0)) = true) := fun i hi => adv_row ho hi
  have HAV : Hid (adv to L = ((adv to L).1, (adv to L).2)) := rfl
  have HC : Hid (0 < (adv to L).1.length → ∃ g, la = some ⟨g, 0, none⟩ ∧ g < w.heap.size ∧ g ≠ R ∧ v.ownBlock ≠ some g ∧ ∀ i, i < (adv to L).1.length → w.cell? ⟨g, i * 2, none⟩ = some (.int .i64 ((adv to L).1.getD i (0, 0)).1) ∧ w.cell? ⟨g, i * 2 + 1, none⟩ = some (.int .i64 ((adv to L).1.getD i (0, 0)).2)) := by
    intro hp
    obtain ⟨g, rfl, hg, hc⟩ := hcell hp
    exact ⟨g, rfl, hg, (hb g rfl).1, (hb g rfl).2, hc⟩
  clear hcell hb h
  generalize (adv to L).1 = o at *
  generalize (adv to L).2 = Lf at *
  go_enter Try.func25, Try.ntmps25
  go_wp2_with (go_at_call 35; refine HBY.out.mono ?_; rintro e w1 ⟨rfl, rfl⟩)
  go_loopw [8] (fun i wr => ∃ (k : Nat) (Lc : List (Int × Int)), k ≤ o.length ∧ i = .int .i64 k ∧ Hid (adv to Lc = (o.drop k, Lf) ∧ onceT Lc ∧ Lc.length ≤ L.length) ∧ Hid (∃ v', pendAt wr B R now v' Lc ∧ Same (fun b => b = R ∨ v.ownBlock = some b) w wr ∧ v'.ownBlock = v.ownBlock)) (fun i _ => o.length - (intOf i).toNat)
  case atStart => exact ⟨0, L, Nat.zero_le _, rfl, ⟨HAV.out, ho, Nat.le_refl _⟩, HI⟩
  case round =>
    obtain ⟨k, Lc, hk, rfl, HA, HP⟩ := hrel
    by_cases hlt : k < o.length
    · obtain ⟨g, rfl, hgw, hgR, hgv, hcell⟩ := HC.out (by omega)
      obtain ⟨v', hpend, hsame, hvv⟩ := HP.out
      obtain ⟨ha, hoc, hlc⟩ := HA.out
      have hd : o.drop k = o.getD k (0, 0) :: o.drop (k + 1) := by rw [List.drop_eq_getElem_cons hlt]; simp [List.getD, List.getElem?_eq_getElem hlt]
      rw [hd] at ha
      obtain ⟨hm, hto, hnx⟩ := adv_head hoc ha
      obtain ⟨q, hq, hql, hqg, hqe⟩ := idx_get hoc hm
      have hcl : ∀ j, j < o.length → wr.cell? ⟨g, j * 2, none⟩ = some (.int .i64 (o.getD j (0, 0)).1) ∧ wr.cell? ⟨g, j * 2 + 1, none⟩ = some (.int .i64 (o.getD j (0, 0)).2) := fun j hj =>
        ⟨(hsame.cell hgw (fun e => e.elim hgR hgv)).trans (hcell j hj).1, (hsame.cell hgw (fun e => e.elim hgR hgv)).trans (hcell j hj).2⟩
      obtain ⟨k0, k1⟩ := hcl k hlt
      obtain ⟨r0, r1⟩ := rw_cells hpend.1
      obtain ⟨va, vc, rfl, hvc⟩ := duesAt_of hpend.2
      obtain ⟨gl, rfl, hglw, hvcell⟩ := hvc (by omega)
      obtain ⟨t0, t1⟩ := hvcell q hql
      rw [hqg] at t0 t1
      have hgwr : g < wr.heap.size := Nat.lt_of_lt_of_le hgw hsame.size
      have hRwr : R < wr.heap.size := (Array.getElem?_eq_some_iff.1 hpend.1).1
      have HFI : Hid (∀ W, Below wr.heap.size wr W → Calls Try.prog 20 #[.pointer (some ⟨R, 0, none⟩), .int .i64 (o.getD k (0, 0)).2] W fun e w' => e = .returned (.int .i64 q) ∧ W = w') := by
        intro W hW
        have hRW : W.heap[R]? = _ := (hW.block R hRwr).trans hpend.1
        have := find_any R _ Lc (o.getD k (0, 0)).2 W (rw_cells hRW).2 (duesAt_of (ownsRow_below hpend.2 hW (Nat.le_refl _))) (by omega)
        rw [hq] at this
        exact this
      have HDR : Hid (∀ W, Below wr.heap.size wr W → Calls Try.prog 23 #[.pointer (some ⟨R, 0, none⟩), .int .i64 q] W fun e w' => e = .returned (.tuple #[]) ∧ ∃ v', pendAt w' B R now v' (Lc.filter (fun x => x.2 != (o.getD k (0, 0)).2)) ∧ Same (fun b => b = R ∨ v.ownBlock = some b) w w' ∧ v'.ownBlock = v.ownBlock) := by
        intro W hW
        have hpW : pendAt W B R now (.slice (some ⟨gl, 0, none⟩) Lc.length vc) Lc := ⟨(hW.block R hRwr).trans hpend.1, ownsRow_below hpend.2 hW (Nat.le_refl _)⟩
        refine (pdrop_any B R now gl vc Lc q W hpW hql (by omega)).mono ?_
        rintro e w' ⟨rfl, hp', hs'⟩
        rw [hqe] at hp'
        exact ⟨rfl, _, hp', Same.trans (Same.trans hsame (Same.of_below (own := fun _ => False) hW) (o := fun b => b = R ∨ v.ownBlock = some b) (fun b _ e => e.elim id False.elim)) hs' (fun b _ e => e.elim id (fun e => e.elim .inl (fun e => .inr (by rw [← hvv, e]; rfl)))), by rw [← hvv]; rfl⟩
      have HNX : Hid (adv to (Lc.filter (fun x => x.2 != (o.getD k (0, 0)).2)) = (o.drop (k + 1), Lf) ∧ onceT (Lc.filter (fun x => x.2 != (o.getD k (0, 0)).2)) ∧ (Lc.filter (fun x => x.2 != (o.getD k (0, 0)).2)).length ≤ L.length) := ⟨hnx, onceT_filter _ hoc, Nat.le_trans (List.length_filter_le _ _) hlc⟩
      generalize Lc.filter (fun x => x.2 != (o.getD k (0, 0)).2) = L2 at HDR HNX
      have b0 : (0 : Int) ≤ (k : Int) := by omega
      have b1 : (k : Int) < (o.length : Int) := by omega
      have b2 : (0 : Int) ≤ (q : Int) := by omega
      have b3 : (q : Int) < (Lc.length : Int) := by omega
      have b4 : decide ((q : Int) < 0) = false := by simp
      have hto' : decide (to < (o.getD k (0, 0)).1) = false := by simpa using hto
      cases k with
      | zero =>
        generalize o.getD 0 (0, 0) = P at k0 k1 HFI HDR hto t0 t1 hto'
        obtain ⟨p0, p1⟩ := P
        simp only at k0 k1 HFI HDR hto t0 t1 hto'
        clear HA HP hpend hsame ha hoc hlc hd hm hnx hq hqe hcl hvc hvcell hcell hqg HBY HI HO HAV
        go_wp2_with (first | (go_at_call 20; refine (HFI.out _ (by repeat (first | exact Below.refl _ _ | assumption | refine Below.drew ?_ | refine below_drawn ?_ _ | refine Below.alloc ?_ (by first | exact Nat.le_refl _ | (simp <;> omega)) _))).mono ?_; rintro e w1 ⟨rfl, rfl⟩) | (go_at_call 23; refine (HDR.out _ (by repeat (first | exact Below.refl _ _ | assumption | refine Below.drew ?_ | refine below_drawn ?_ _ | refine Below.alloc ?_ (by first | exact Nat.le_refl _ | (simp <;> omega)) _))).mono ?_; rintro e w2 ⟨rfl, HE⟩))
        go_quiet (fail)
        go_wp2_with (first | (go_at_call 20; refine (HFI.out _ (by repeat (first | exact Below.refl _ _ | assumption | refine Below.drew ?_ | refine below_drawn ?_ _ | refine Below.alloc ?_ (by first | exact Nat.le_refl _ | (simp <;> omega)) _))).mono ?_; rintro e w1 ⟨rfl, rfl⟩) | (go_at_call 23; refine (HDR.out _ (by repeat (first | exact Below.refl _ _ | assumption | refine Below.drew ?_ | refine below_drawn ?_ _ | refine Below.alloc ?_ (by first | exact Nat.le_refl _ | (simp <;> omega)) _))).mono ?_; rintro e w2 ⟨rfl, HE⟩))
        go_quiet (fail)
        go_wp2_with (first | (go_at_call 20; refine (HFI.out _ (by repeat (first | exact Below.refl _ _ | assumption | refine Below.drew ?_ | refine below_drawn ?_ _ | refine Below.alloc ?_ (by first | exact Nat.le_refl _ | (simp <;> omega)) _))).mono ?_; rintro e w1 ⟨rfl, rfl⟩) | (go_at_call 23; refine (HDR.out _ (by repeat (first | exact Below.refl _ _ | assumption | refine Below.drew ?_ | refine below_drawn ?_ _ | refine Below.alloc ?_ (by first | exact Nat.le_refl _ | (simp <;> omega)) _))).mono ?_; rintro e w2 ⟨rfl, HE⟩))
        exact ⟨⟨1, L2, by omega, rfl, HNX, HE⟩, by simp [intOf]; omega⟩
      | succ j =>
        have hah := HO.out j hlt
        obtain ⟨j0, j1⟩ := hcl j (by omega)
        rw [ahead_iff] at hah
        generalize o.getD (j + 1) (0, 0) = P at k0 k1 HFI HDR hto t0 t1 hto' hah
        generalize o.getD j (0, 0) = P' at j0 j1 hah
        obtain ⟨p0, p1⟩ := P
        obtain ⟨s0, s1⟩ := P'
        simp only at k0 k1 HFI HDR hto t0 t1 hto' hah j0 j1
        clear HA HP hpend hsame ha hoc hlc hd hm hnx hq hqe hcl hvc hvcell hcell hqg HBY HI HO HAV
        have b5 : (0 : Int) ≤ (j : Int) := by omega
        have b6 : (j : Int) < (o.length : Int) := by omega
        rcases hah with hah | ⟨rfl, hah⟩
        · have n1 : decide (p0 < s0) = false := by simp; omega
          have n2 : (p0 == s0) = false := by simp; omega
          go_wp2_with (first | (go_at_call 20; refine (HFI.out _ (by repeat (first | exact Below.refl _ _ | assumption | refine Below.drew ?_ | refine below_drawn ?_ _ | refine Below.alloc ?_ (by first | exact Nat.le_refl _ | (simp <;> omega)) _))).mono ?_; rintro e w1 ⟨rfl, rfl⟩) | (go_at_call 23; refine (HDR.out _ (by repeat (first | exact Below.refl _ _ | assumption | refine Below.drew ?_ | refine below_drawn ?_ _ | refine Below.alloc ?_ (by first | exact Nat.le_refl _ | (simp <;> omega)) _))).mono ?_; rintro e w2 ⟨rfl, HE⟩))
          go_quiet (fail)
          go_wp2_with (first | (go_at_call 20; refine (HFI.out _ (by repeat (first | exact Below.refl _ _ | assumption | refine Below.drew ?_ | refine below_drawn ?_ _ | refine Below.alloc ?_ (by first | exact Nat.le_refl _ | (simp <;> omega)) _))).mono ?_; rintro e w1 ⟨rfl, rfl⟩) | (go_at_call 23; refine (HDR.out _ (by repeat (first | exact Below.refl _ _ | assumption | refine Below.drew ?_ | refine below_drawn ?_ _ | refine Below.alloc ?_ (by first | exact Nat.le_refl _ | (simp <;> omega)) _))).mono ?_; rintro e w2 ⟨rfl, HE⟩))
          go_quiet (fail)
          go_wp2_with (first | (go_at_call 20; refine (HFI.out _ (by repeat (first | exact Below.refl _ _ | assumption | refine Below.drew ?_ | refine below_drawn ?_ _ | refine Below.alloc ?_ (by first | exact Nat.le_refl _ | (simp <;> omega)) _))).mono ?_; rintro e w1 ⟨rfl, rfl⟩) | (go_at_call 23; refine (HDR.out _ (by repeat (first | exact Below.refl _ _ | assumption | refine Below.drew ?_ | refine below_drawn ?_ _ | refine Below.alloc ?_ (by first | exact Nat.le_refl _ | (simp <;> omega)) _))).mono ?_; rintro e w2 ⟨rfl, HE⟩))
          exact ⟨⟨j + 2, L2, by omega, by rw [show ((j + 2 : Nat) : Int) = (j : Int) + 1 + 1 by omega], HNX, HE⟩, by simp [intOf]; omega⟩
        · have n1 : decide (p1 ≤ s1) = false := by simp; omega
          go_wp2_with (first | (go_at_call 20; refine (HFI.out _ (by repeat (first | exact Below.refl _ _ | assumption | refine Below.drew ?_ | refine below_drawn ?_ _ | refine Below.alloc ?_ (by first | exact Nat.le_refl _ | (simp <;> omega)) _))).mono ?_; rintro e w1 ⟨rfl, rfl⟩) | (go_at_call 23; refine (HDR.out _ (by repeat (first | exact Below.refl _ _ | assumption | refine Below.drew ?_ | refine below_drawn ?_ _ | refine Below.alloc ?_ (by first | exact Nat.le_refl _ | (simp <;> omega)) _))).mono ?_; rintro e w2 ⟨rfl, HE⟩))
          go_quiet (fail)
          go_wp2_with (first | (go_at_call 20; refine (HFI.out _ (by repeat (first | exact Below.refl _ _ | assumption | refine Below.drew ?_ | refine below_drawn ?_ _ | refine Below.alloc ?_ (by first | exact Nat.le_refl _ | (simp <;> omega)) _))).mono ?_; rintro e w1 ⟨rfl, rfl⟩) | (go_at_call 23; refine (HDR.out _ (by repeat (first | exact Below.refl _ _ | assumption | refine Below.drew ?_ | refine below_drawn ?_ _ | refine Below.alloc ?_ (by first | exact Nat.le_refl _ | (simp <;> omega)) _))).mono ?_; rintro e w2 ⟨rfl, HE⟩))
          go_quiet (fail)
          go_wp2_with (first | (go_at_call 20; refine (HFI.out _ (by repeat (first | exact Below.refl _ _ | assumption | refine Below.drew ?_ | refine below_drawn ?_ _ | refine Below.alloc ?_ (by first | exact Nat.le_refl _ | (simp <;> omega)) _))).mono ?_; rintro e w1 ⟨rfl, rfl⟩) | (go_at_call 23; refine (HDR.out _ (by repeat (first | exact Below.refl _ _ | assumption | refine Below.drew ?_ | refine below_drawn ?_ _ | refine Below.alloc ?_ (by first | exact Nat.le_refl _ | (simp <;> omega)) _))).mono ?_; rintro e w2 ⟨rfl, HE⟩))
          exact ⟨⟨j + 2, L2, by omega, by rw [show ((j + 2 : Nat) : Int) = (j : Int) + 1 + 1 by omega], HNX, HE⟩, by simp [intOf]; omega⟩
    · have hke : k = o.length := by omega
      subst hke
      have HE : Hid (∃ v', pendAt wr B R now v' Lf ∧ Same (fun b => b = R ∨ v.ownBlock = some b) w wr ∧ v'.ownBlock = v.ownBlock) := by
        obtain ⟨ha, hoc, _⟩ := HA.out
        rw [List.drop_length] at ha
        have := adv_nil hoc ha
        subst this
        exact HP.out
      clear HA HP HI
      go_wp2
      go_ret
      exact ⟨rfl, HE.out⟩


end Go.Proofs.Ytfhncfghblkgeaa
