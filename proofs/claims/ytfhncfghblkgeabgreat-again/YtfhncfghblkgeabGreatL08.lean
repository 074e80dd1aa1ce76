import Derived.Test.YtfhncfghblkgeabGreatL07
set_option maxRecDepth 100000
set_option maxHeartbeats 2000000
namespace Go.Proofs.YtfhncfghblkgeabGreat
open Go.RowKit
theorem rcheck_any (n0 n1 n2 n3 n4 n5 n6 : Int) (a : Option Addr) (len cap : Nat) (ts : List (Int × Int)) (w : World) (h : tiersAt w a len cap ts) :
 Calls Tryz.prog 37 #[.agg #[iv n0, iv n1, iv n2, iv n3, iv n4, iv n5, iv n6, .slice a len cap]] w fun e w' => e = .returned (iv (errV (cfgB [n0, n1, n2, n3, n4, n5, n6] ts))) ∧ Below w.heap.size w w' := by
 have HT : Hid (tiersAt w a len cap ts) := h
 clear h
 go_enter Tryz.func37, Tryz.ntmps37
 go_wp2_with fail
 have hrow : ∀ i, i < 7 → ((w.alloc (.cells #[iv n0, iv n1, iv n2, iv n3, iv n4, iv n5, iv n6, .slice a len cap] 24)).alloc (.cells #[iv n0, iv n1, iv n2, iv n3, iv n4, iv n5, iv n6] 3)).cell? (aq (w.heap.size + 1) i) = some (iv ([n0, n1, n2, n3, n4, n5, n6].getD i 0)) := by
  intro i hi
  match i, hi with
  | 0, _ => simp [go_sem]
  | 1, _ => simp [go_sem]
  | 2, _ => simp [go_sem]
  | 3, _ => simp [go_sem]
  | 4, _ => simp [go_sem]
  | 5, _ => simp [go_sem]
  | 6, _ => simp [go_sem]
 have hbox : ((w.alloc (.cells #[iv n0, iv n1, iv n2, iv n3, iv n4, iv n5, iv n6, .slice a len cap] 24)).alloc (.cells #[iv n0, iv n1, iv n2, iv n3, iv n4, iv n5, iv n6] 3)).cell? (aq w.heap.size 7) = some (.slice a len cap) := by simp [go_sem]
 have hW : Below w.heap.size w ((w.alloc (.cells #[iv n0, iv n1, iv n2, iv n3, iv n4, iv n5, iv n6, .slice a len cap] 24)).alloc (.cells #[iv n0, iv n1, iv n2, iv n3, iv n4, iv n5, iv n6] 3)) := bL
 have hsz : ((w.alloc (.cells #[iv n0, iv n1, iv n2, iv n3, iv n4, iv n5, iv n6, .slice a len cap] 24)).alloc (.cells #[iv n0, iv n1, iv n2, iv n3, iv n4, iv n5, iv n6] 3)).heap.size = w.heap.size + 2 := by simp
 generalize ((w.alloc (.cells #[iv n0, iv n1, iv n2, iv n3, iv n4, iv n5, iv n6, .slice a len cap] 24)).alloc (.cells #[iv n0, iv n1, iv n2, iv n3, iv n4, iv n5, iv n6] 3)) = W at *
 have HR : Hid (∀ i, i < 7 → W.cell? (aq (w.heap.size + 1) i) = some (iv ([n0, n1, n2, n3, n4, n5, n6].getD i 0))) := hrow
 have HSZ : Hid (W.heap.size = w.heap.size + 2) := hsz
 clear hrow hsz
 go_loop [4] (fun i => ∃ k : Nat, k ≤ 7 ∧ i = iv k ∧ Hid (([n0, n1, n2, n3, n4, n5, n6].take k).all numB = true)) (fun i => 7 - (intOf i).toNat)
 case atStart => exact ⟨0, Nat.zero_le _, rfl, by simp [Hid]⟩
 case round =>
  obtain ⟨k, hk, rfl, hall⟩ := hrel
  by_cases hlt : k < 7
  ·have hc := HR.out k hlt
   generalize hx : [n0, n1, n2, n3, n4, n5, n6].getD k 0 = x at hc
   have HX : Hid ([n0, n1, n2, n3, n4, n5, n6].getD k 0 = x) := hx
   clear hx
   by_cases hn : numB x = true
   ·have HN : Hid (numB x = true) := hn
    clear hn
    go_wp2_with (go_at_call 59; refine (rnumber_any x _).mono ?_; rintro e w' ⟨rfl, rfl⟩; rw [HN.out])
    go_round
    case rel => exact ⟨k + 1, by omega, by go_num, by unfold Hid; rw [all_snoc [n0, n1, n2, n3, n4, n5, n6] k hlt HX.out, hall.out, HN.out]; rfl⟩
    case measure => simp [intOf]; omega
   ·have HN : Hid (numB x = false) := by unfold Hid; simpa using hn
    have HE : Hid (errV (cfgB [n0, n1, n2, n3, n4, n5, n6] ts) = 1) := by unfold Hid cfgB; rw [all_not [n0, n1, n2, n3, n4, n5, n6] k hlt HX.out HN.out]; rfl
    clear hn
    go_wp2_with (go_at_call 59; refine (rnumber_any x _).mono ?_; rintro e w' ⟨rfl, rfl⟩; rw [HN.out])
    go_ret
    exact ⟨by rw [HE.out]; rfl, hW⟩
  ·have hk7 : k = 7 := by omega
   subst hk7
   obtain ⟨hl, hlc, hm, hnil, hcs⟩ := HT.out
   by_cases h1 : len < 1
   ·have HE : Hid (errV (cfgB [n0, n1, n2, n3, n4, n5, n6] ts) = 1) := by unfold Hid cfgB; rw [pricesB_short (by omega), Bool.and_false]; rfl
    have hd1 : decide ((len : Int) < 1) = true := by simp; omega
    go_wp2
    go_ret
    exact ⟨by rw [HE.out]; rfl, hW⟩
   by_cases h4 : 4 < len
   ·have HE : Hid (errV (cfgB [n0, n1, n2, n3, n4, n5, n6] ts) = 1) := by unfold Hid cfgB; rw [pricesB_short (by omega), Bool.and_false]; rfl
    have hd1 : decide ((len : Int) < 1) = false := by simp; omega
    have hd4 : decide (4 < (len : Int)) = true := by simp; omega
    go_wp2
    go_ret
    exact ⟨by rw [HE.out]; rfl, hW⟩
   obtain ⟨b, off, rfl, hbw, hcell⟩ := hcs (fun e => by rw [e] at hl; simp at hl; omega)
   have hd1 : decide ((len : Int) < 1) = false := by simp; omega
   have hd4 : decide (4 < (len : Int)) = false := by simp; omega
   clear hnil
   go_wp2_with fail
   go_loopw [6] (fun i wr => ∃ k : Nat, k ≤ len ∧ i = iv k ∧ Hid (∀ j, j < k → tierB ts j = true) ∧ Below (w.heap.size + 2) W wr) (fun i _ => len - (intOf i).toNat)
   case atStart => exact ⟨0, Nat.zero_le _, rfl, fun _ h => by omega, Below.refl _ _⟩
   case round =>
    obtain ⟨k, hk, rfl, hall2, hbel⟩ := hrel
    have hbox' : wr.cell? (aq w.heap.size 7) = some (.slice (some (aq b off)) len cap) := (hbel.cell (p := (aq w.heap.size 7)) (by show w.heap.size < w.heap.size + 2; omega)).trans hbox
    by_cases hlt2 : k < len
    ·have hcr : ∀ i, i < len → wr.cell? (aq b (off + i * 2)) = some (iv (ts.getD i (0, 0)).1) ∧ wr.cell? (aq b (off + i * 2 + 1)) = some (iv (ts.getD i (0, 0)).2) := fun i hi =>
      ⟨((hbel.cell (p := (aq b (off + i * 2))) (by show b < w.heap.size + 2; omega)).trans (hW.cell (p := (aq b (off + i * 2))) hbw)).trans (hcell i hi).1, ((hbel.cell (p := (aq b (off + i * 2 + 1))) (by show b < w.heap.size + 2; omega)).trans (hW.cell (p := (aq b (off + i * 2 + 1))) hbw)).trans (hcell i hi).2⟩
     have HCR : Hid (∀ i, i < len → wr.cell? (aq b (off + i * 2)) = some (iv (ts.getD i (0, 0)).1) ∧ wr.cell? (aq b (off + i * 2 + 1)) = some (iv (ts.getD i (0, 0)).2)) := hcr
     clear hcr hcell
     by_cases ht : tierB ts k = true
     ·have HTT : Hid (tierB ts k = true) := ht
      clear ht
      go_wp2_with (go_at_call 60; refine (rtier_any b off len cap k ts _ hlt2 (by omega) HCR.out).mono ?_; rintro e w2 ⟨rfl, b2⟩; rw [HTT.out])
      go_roundw
      case rel => exact ⟨k + 1, by omega, by go_num, all_succ hall2.out HTT.out, hbel.trans (b2.mono (by rw [← HSZ.out]; exact hbel.size))⟩
      case measure => simp [intOf]; omega
     ·have HTT : Hid (tierB ts k = false) := by unfold Hid; simpa using ht
      have HE : Hid (errV (cfgB [n0, n1, n2, n3, n4, n5, n6] ts) = 1) := by unfold Hid cfgB; rw [pricesB_not (by omega) HTT.out, Bool.and_false]; rfl
      clear ht
      go_wp2_with (go_at_call 60; refine (rtier_any b off len cap k ts _ hlt2 (by omega) HCR.out).mono ?_; rintro e w2 ⟨rfl, b2⟩; rw [HTT.out])
      go_ret
      exact ⟨by rw [HE.out]; rfl, (hW.trans (hbel.mono (by omega))).trans (b2.mono (by have := hbel.size; rw [HSZ.out] at this; omega))⟩
    ·have HE : Hid (errV (cfgB [n0, n1, n2, n3, n4, n5, n6] ts) = 0) := by unfold Hid cfgB; rw [pricesB_yes (by omega) (by omega) (fun j hj => hall2.out j (by omega)), Bool.and_true]; have := hall.out; rw [List.take_of_length_le (by simp)] at this; rw [this]; rfl
     clear hcell
     go_wp2
     go_ret
     exact ⟨by rw [HE.out]; rfl, hW.trans (hbel.mono (by omega))⟩
theorem Tryz.infoTier : (Tryz.prog.info? 107).map (fun i => (i.zero, i.size, i.bytes)) = some (some (.agg #[iv 0, iv 0]), 2, 16) := by kernel_rfl
theorem frame_byte {k t c u o : Int} (h : isB k t c u o = true) : ∀ x ∈ frameB k (numsOf k t c u o), 0 ≤ x ∧ x < 256 := by
 intro x hx
 obtain ⟨_, _, hp⟩ := isB_nums h
 rcases List.mem_cons.1 hx with rfl | hx
 ·unfold cnt at hp
  split at hp
  ·omega
  ·split at hp
   ·omega
   ·split at hp
    ·omega
    ·omega
 ·obtain ⟨n, _, hx⟩ := List.mem_flatMap.1 hx
  exact code_byte _ x hx
theorem bytesAt_slice {w : World} {B : Nat} {v : Value} {l : List Int} (h : bytesAt w B v l) (hb : ∀ x ∈ l, 0 ≤ x ∧ x < 256) : ∃ g cap, v = .slice (some (aq g 0)) l.length cap ∧ sliceOf w (some (aq g 0)) l.length cap l := by
 obtain ⟨g, cap, rfl, _, hg, hn, hm, hc⟩ := h
 exact ⟨g, cap, rfl, rfl, hn, hm, hb, fun _ => ⟨g, 0, rfl, hg, hc⟩⟩
theorem frame_inj {k t c u o k' t' c' u' o' : Int} (h : isB k t c u o = true) (h' : isB k' t' c' u' o' = true) (e : frameB k (numsOf k t c u o) = frameB k' (numsOf k' t' c' u' o')) : k = k' ∧ t = t' ∧ c = c' ∧ u = u' ∧ o = o' := by
 obtain ⟨ha, hl, hp⟩ := isB_nums h
 obtain ⟨ha', hl', _⟩ := isB_nums h'
 rw [frameB_codes, frameB_codes] at e
 simp only [List.cons.injEq] at e
 obtain ⟨rfl, e⟩ := e
 obtain ⟨ms, e1, e2⟩ := codes_prefix ((numsOf k t c u o).map Int.toNat) ((numsOf k t' c' u' o').map Int.toNat) [] (by rw [List.length_map, List.length_map, hl, hl']; exact Nat.le_refl _) (by rw [List.append_nil]; exact e)
 have hms : ms = [] := List.eq_nil_of_length_eq_zero (by have := congrArg List.length e1; rw [List.length_append, List.length_map, List.length_map, hl, hl'] at this; omega)
 subst hms
 have en : numsOf k t c u o = numsOf k t' c' u' o' := by
  rw [← toNat_back _ ha, ← toNat_back _ ha']
  rw [e1]; simp
 unfold numsOf at en
 unfold isB at h h'
 split at en
 ·next hk => simp [hk] at en h h'; simp [en, h, h']
 ·next hk1 =>
  split at en
  ·next hk => simp [hk1, hk] at en h h'; simp [en, h, h']
  ·next hk2 =>
   split at en
   ·next hk => simp [hk] at en h h'; simp [en, h, h']
   ·next hk4 => simp [hk1, hk2, hk4] at h
theorem un_same {k t c u o k' t' c' u' o' err : Int} (h : isB k t c u o = true) (hu : UN (frameB k (numsOf k t c u o)) k' t' c' u' o' err) : k' = k ∧ t' = t ∧ c' = c ∧ u' = u ∧ o' = o ∧ err = 0 := by
 rcases hu with ⟨h0, h1, h2⟩ | ⟨_, _, _, _, _, _, h2⟩
 ·obtain ⟨e1, e2, e3, e4, e5⟩ := frame_inj h h1 h2
  exact ⟨e1.symm, e2.symm, e3.symm, e4.symm, e5.symm, h0⟩
 ·exact absurd rfl (h2 k t c u o h)
def pickN (c : Int) (n : Nat) : Nat := if c < 0 then (-(c + 1)).toNat % n else c.toNat % n
theorem pickN_lt (c : Int) {n : Nat} (h : 0 < n) : pickN c n < n := by
 unfold pickN
 split <;> exact Nat.mod_lt _ h
end Go.Proofs.YtfhncfghblkgeabGreat
