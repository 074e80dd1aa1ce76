/-
  The walk: saleref.Check.
-/
import Derived.Test.YtfhncfghblkgeaaGreatRTier
namespace Go.Proofs.YtfhncfghblkgeaaGreat
open Go.RowKit

set_option maxRecDepth 100000 in
set_option maxHeartbeats 2000000 in
theorem rcheck_any (n0 n1 n2 n3 n4 n5 n6 : Int) (a : Option Addr) (len cap : Nat) (ts : List (Int × Int)) (w : World) (h : tiersAt w a len cap ts) :
    Calls Tryz.prog 57 #[.agg #[.int .i64 n0, .int .i64 n1, .int .i64 n2, .int .i64 n3, .int .i64 n4, .int .i64 n5, .int .i64 n6, .slice a len cap]] w fun e w' => e = .returned (.int .i64 (errV (cfgB [n0, n1, n2, n3, n4, n5, n6] ts))) ∧ Below w.heap.size w w' := by
  have HT : Hid (tiersAt w a len cap ts) := h
  clear h
  go_enter Tryz.func57, Tryz.ntmps57
  go_wp2_with fail
  have hrow : ∀ i, i < 7 → ((w.alloc (.cells #[.int .i64 n0, .int .i64 n1, .int .i64 n2, .int .i64 n3, .int .i64 n4, .int .i64 n5, .int .i64 n6, .slice a len cap] 29)).alloc (.cells #[.int .i64 n0, .int .i64 n1, .int .i64 n2, .int .i64 n3, .int .i64 n4, .int .i64 n5, .int .i64 n6] 3)).cell? ⟨w.heap.size + 1, i, none⟩ = some (.int .i64 ([n0, n1, n2, n3, n4, n5, n6].getD i 0)) := by
    intro i hi
    match i, hi with
    | 0, _ => simp [go_sem]
    | 1, _ => simp [go_sem]
    | 2, _ => simp [go_sem]
    | 3, _ => simp [go_sem]
    | 4, _ => simp [go_sem]
    | 5, _ => simp [go_sem]
    | 6, _ => simp [go_sem]
  have hbox : ((w.alloc (.cells #[.int .i64 n0, .int .i64 n1, .int .i64 n2, .int .i64 n3, .int .i64 n4, .int .i64 n5, .int .i64 n6, .slice a len cap] 29)).alloc (.cells #[.int .i64 n0, .int .i64 n1, .int .i64 n2, .int .i64 n3, .int .i64 n4, .int .i64 n5, .int .i64 n6] 3)).cell? ⟨w.heap.size, 7, none⟩ = some (.slice a len cap) := by simp [go_sem]
  have hW : Below w.heap.size w ((w.alloc (.cells #[.int .i64 n0, .int .i64 n1, .int .i64 n2, .int .i64 n3, .int .i64 n4, .int .i64 n5, .int .i64 n6, .slice a len cap] 29)).alloc (.cells #[.int .i64 n0, .int .i64 n1, .int .i64 n2, .int .i64 n3, .int .i64 n4, .int .i64 n5, .int .i64 n6] 3)) := by repeat (first | exact Below.refl _ _ | refine Below.drew ?_ | refine Below.alloc ?_ (by first | exact Nat.le_refl _ | (simp <;> omega)) _)
  have hsz : ((w.alloc (.cells #[.int .i64 n0, .int .i64 n1, .int .i64 n2, .int .i64 n3, .int .i64 n4, .int .i64 n5, .int .i64 n6, .slice a len cap] 29)).alloc (.cells #[.int .i64 n0, .int .i64 n1, .int .i64 n2, .int .i64 n3, .int .i64 n4, .int .i64 n5, .int .i64 n6] 3)).heap.size = w.heap.size + 2 := by simp
  generalize ((w.alloc (.cells #[.int .i64 n0, .int .i64 n1, .int .i64 n2, .int .i64 n3, .int .i64 n4, .int .i64 n5, .int .i64 n6, .slice a len cap] 29)).alloc (.cells #[.int .i64 n0, .int .i64 n1, .int .i64 n2, .int .i64 n3, .int .i64 n4, .int .i64 n5, .int .i64 n6] 3)) = W at *
  have HR : Hid (∀ i, i < 7 → W.cell? ⟨w.heap.size + 1, i, none⟩ = some (.int .i64 ([n0, n1, n2, n3, n4, n5, n6].getD i 0))) := hrow
  have HSZ : Hid (W.heap.size = w.heap.size + 2) := hsz
  clear hrow hsz
  go_loop [4] (fun i => ∃ k : Nat, k ≤ 7 ∧ i = .int .i64 k ∧ Hid (([n0, n1, n2, n3, n4, n5, n6].take k).all numB = true)) (fun i => 7 - (intOf i).toNat)
  case atStart => exact ⟨0, Nat.zero_le _, rfl, by simp [Hid]⟩
  case round =>
    obtain ⟨k, hk, rfl, hall⟩ := hrel
    by_cases hlt : k < 7
    · have hc := HR.out k hlt
      generalize hx : [n0, n1, n2, n3, n4, n5, n6].getD k 0 = x at hc
      have HX : Hid ([n0, n1, n2, n3, n4, n5, n6].getD k 0 = x) := hx
      clear hx
      by_cases hn : numB x = true
      · have HN : Hid (numB x = true) := hn
        clear hn
        go_wp2_with (go_at_call 92; refine (rnumber_any x _).mono ?_; rintro e w' ⟨rfl, rfl⟩; rw [HN.out])
        go_round
        case rel => exact ⟨k + 1, by omega, by go_num, by unfold Hid; rw [all_snoc [n0, n1, n2, n3, n4, n5, n6] k hlt HX.out, hall.out, HN.out]; rfl⟩
        case measure => simp [intOf]; omega
      · have HN : Hid (numB x = false) := by unfold Hid; simpa using hn
        have HE : Hid (errV (cfgB [n0, n1, n2, n3, n4, n5, n6] ts) = 1) := by unfold Hid cfgB; rw [all_not [n0, n1, n2, n3, n4, n5, n6] k hlt HX.out HN.out]; rfl
        clear hn
        go_wp2_with (go_at_call 92; refine (rnumber_any x _).mono ?_; rintro e w' ⟨rfl, rfl⟩; rw [HN.out])
        go_ret
        exact ⟨by rw [HE.out]; rfl, hW⟩
    · have hk7 : k = 7 := by omega
      subst hk7
      obtain ⟨hl, hlc, hm, hnil, hcs⟩ := HT.out
      by_cases h1 : len < 1
      · have HE : Hid (errV (cfgB [n0, n1, n2, n3, n4, n5, n6] ts) = 1) := by unfold Hid cfgB; rw [pricesB_short (by omega), Bool.and_false]; rfl
        have hd1 : decide ((len : Int) < 1) = true := by simp; omega
        go_wp2
        go_ret
        exact ⟨by rw [HE.out]; rfl, hW⟩
      by_cases h4 : 4 < len
      · have HE : Hid (errV (cfgB [n0, n1, n2, n3, n4, n5, n6] ts) = 1) := by unfold Hid cfgB; rw [pricesB_short (by omega), Bool.and_false]; rfl
        have hd1 : decide ((len : Int) < 1) = false := by simp; omega
        have hd4 : decide (4 < (len : Int)) = true := by simp; omega
        go_wp2
        go_ret
        exact ⟨by rw [HE.out]; rfl, hW⟩
      obtain ⟨b, off, rfl, hbw, hcell⟩ := hcs (fun e => by rw [e] at hl; simp at hl; omega)
      have hd1 : decide ((len : Int) < 1) = false := by simp; omega
      have hd4 : decide (4 < (len : Int)) = false := by simp; omega
      clear hnil
      go_wp2_with fail
      go_loopw [6] (fun i wr => ∃ k : Nat, k ≤ len ∧ i = .int .i64 k ∧ Hid (∀ j, j < k → tierB ts j = true) ∧ Below (w.heap.size + 2) W wr) (fun i _ => len - (intOf i).toNat)
      case atStart => exact ⟨0, Nat.zero_le _, rfl, fun _ h => by omega, Below.refl _ _⟩
      case round =>
        obtain ⟨k, hk, rfl, hall2, hbel⟩ := hrel
        have hbox' : wr.cell? ⟨w.heap.size, 7, none⟩ = some (.slice (some ⟨b, off, none⟩) len cap) := (hbel.cell (p := ⟨w.heap.size, 7, none⟩) (by show w.heap.size < w.heap.size + 2; omega)).trans hbox
        by_cases hlt2 : k < len
        · have hcr : ∀ i, i < len → wr.cell? ⟨b, off + i * 2, none⟩ = some (.int .i64 (ts.getD i (0, 0)).1) ∧ wr.cell? ⟨b, off + i * 2 + 1, none⟩ = some (.int .i64 (ts.getD i (0, 0)).2) := fun i hi =>
            ⟨((hbel.cell (p := ⟨b, off + i * 2, none⟩) (by show b < w.heap.size + 2; omega)).trans (hW.cell (p := ⟨b, off + i * 2, none⟩) hbw)).trans (hcell i hi).1, ((hbel.cell (p := ⟨b, off + i * 2 + 1, none⟩) (by show b < w.heap.size + 2; omega)).trans (hW.cell (p := ⟨b, off + i * 2 + 1, none⟩) hbw)).trans (hcell i hi).2⟩
          have HCR : Hid (∀ i, i < len → wr.cell? ⟨b, off + i * 2, none⟩ = some (.int .i64 (ts.getD i (0, 0)).1) ∧ wr.cell? ⟨b, off + i * 2 + 1, none⟩ = some (.int .i64 (ts.getD i (0, 0)).2)) := hcr
          clear hcr hcell
          by_cases ht : tierB ts k = true
          · have HTT : Hid (tierB ts k = true) := ht
            clear ht
            go_wp2_with (go_at_call 93; refine (rtier_any b off len cap k ts _ hlt2 (by omega) HCR.out).mono ?_; rintro e w2 ⟨rfl, b2⟩; rw [HTT.out])
            go_roundw
            case rel => exact ⟨k + 1, by omega, by go_num, all_succ hall2.out HTT.out, hbel.trans (b2.mono (by rw [← HSZ.out]; exact hbel.size))⟩
            case measure => simp [intOf]; omega
          · have HTT : Hid (tierB ts k = false) := by unfold Hid; simpa using ht
            have HE : Hid (errV (cfgB [n0, n1, n2, n3, n4, n5, n6] ts) = 1) := by unfold Hid cfgB; rw [pricesB_not (by omega) HTT.out, Bool.and_false]; rfl
            clear ht
            go_wp2_with (go_at_call 93; refine (rtier_any b off len cap k ts _ hlt2 (by omega) HCR.out).mono ?_; rintro e w2 ⟨rfl, b2⟩; rw [HTT.out])
            go_ret
            exact ⟨by rw [HE.out]; rfl, (hW.trans (hbel.mono (by omega))).trans (b2.mono (by have := hbel.size; rw [HSZ.out] at this; omega))⟩
        · have HE : Hid (errV (cfgB [n0, n1, n2, n3, n4, n5, n6] ts) = 0) := by unfold Hid cfgB; rw [pricesB_yes (by omega) (by omega) (fun j hj => hall2.out j (by omega)), Bool.and_true]; have := hall.out; rw [List.take_of_length_le (by simp)] at this; rw [this]; rfl
          clear hcell
          go_wp2
          go_ret
          exact ⟨by rw [HE.out]; rfl, hW.trans (hbel.mono (by omega))⟩

end Go.Proofs.YtfhncfghblkgeaaGreat
