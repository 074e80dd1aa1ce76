/-
  The walks: sale.Check; saleref.tier, saleref.Check.
-/
import Derived.Test.YtfhncfghblkgeaaGreatTiers
namespace Go.Proofs.YtfhncfghblkgeaaGreat
open Go.RowKit

set_option maxHeartbeats 400000 in
theorem arePrices_any (a : Option Addr) (len cap : Nat) (ts : List (Int × Int)) (w : World) (h : tiersAt w a len cap ts) :
    Calls Tryz.prog 91 #[.slice a len cap] w fun e w' => e = .returned (.bool (pricesB ts)) ∧ Below w.heap.size w w' := by
  obtain ⟨hl, hlc, hm, hn, hc⟩ := h
  by_cases h1 : len < 1
  · have HN : Hid (pricesB ts = false) := pricesB_short (by omega)
    have hd1 : decide ((len : Int) < 1) = true := by simp; omega
    go_enter Tryz.func91, Tryz.ntmps91
    go_wp2
    go_ret
    exact ⟨by rw [HN.out]; rfl, Below.refl _ _⟩
  by_cases h4 : 4 < len
  · have HN : Hid (pricesB ts = false) := pricesB_short (by omega)
    have hd1 : decide ((len : Int) < 1) = false := by simp; omega
    have hd4 : decide (4 < (len : Int)) = true := by simp; omega
    go_enter Tryz.func91, Tryz.ntmps91
    go_wp2
    go_ret
    exact ⟨by rw [HN.out]; rfl, Below.refl _ _⟩
  · obtain ⟨b, off, rfl, _, hcell⟩ := hc (fun e => by rw [e] at hl; simp at hl; omega)
    exact arePrices_some b off len cap ts w hl (by omega) (by omega) hcell

theorem areNumbers_7 (b : Nat) (n0 n1 n2 n3 n4 n5 n6 : Int) (w : World) (h0 : w.cell? ⟨b, 0, none⟩ = some (.int .i64 n0)) (h1 : w.cell? ⟨b, 1, none⟩ = some (.int .i64 n1)) (h2 : w.cell? ⟨b, 2, none⟩ = some (.int .i64 n2)) (h3 : w.cell? ⟨b, 3, none⟩ = some (.int .i64 n3)) (h4 : w.cell? ⟨b, 4, none⟩ = some (.int .i64 n4)) (h5 : w.cell? ⟨b, 5, none⟩ = some (.int .i64 n5)) (h6 : w.cell? ⟨b, 6, none⟩ = some (.int .i64 n6)) :
    Calls Tryz.prog 90 #[.slice (some ⟨b, 0, none⟩) 7 7] w fun e w' => e = .returned (.bool ([n0, n1, n2, n3, n4, n5, n6].all numB)) ∧ w = w' :=
  areNumbers_any b 0 7 [n0, n1, n2, n3, n4, n5, n6] w (by simp) (fun i hi => by
    match i, hi with
    | 0, _ => simpa using h0
    | 1, _ => simpa using h1
    | 2, _ => simpa using h2
    | 3, _ => simpa using h3
    | 4, _ => simpa using h4
    | 5, _ => simpa using h5
    | 6, _ => simpa using h6)

/-- Is the configuration right? -/
def cfgB (ns : List Int) (ts : List (Int × Int)) : Bool := ns.all numB && pricesB ts
/-- What Check answers. -/
def errV (b : Bool) : Int := if b then 0 else 1

set_option maxRecDepth 100000 in
set_option maxHeartbeats 1000000 in
theorem check_any (n0 n1 n2 n3 n4 n5 n6 : Int) (a : Option Addr) (len cap : Nat) (ts : List (Int × Int)) (w : World) (h : tiersAt w a len cap ts) :
    Calls Tryz.prog 54 #[.agg #[.int .i64 n0, .int .i64 n1, .int .i64 n2, .int .i64 n3, .int .i64 n4, .int .i64 n5, .int .i64 n6, .slice a len cap]] w fun e w' => e = .returned (.int .i64 (errV (cfgB [n0, n1, n2, n3, n4, n5, n6] ts))) ∧ Below w.heap.size w w' := by
  have HT : Hid (tiersAt w a len cap ts) := h
  clear h
  by_cases hn : [n0, n1, n2, n3, n4, n5, n6].all numB = true
  · have HN : Hid ([n0, n1, n2, n3, n4, n5, n6].all numB = true) := hn
    clear hn
    by_cases hp : pricesB ts = true
    · have HP : Hid (pricesB ts = true) := hp
      have HE : Hid (errV (cfgB [n0, n1, n2, n3, n4, n5, n6] ts) = 0) := by unfold Hid cfgB; rw [HN.out, hp]; rfl
      clear hp
      go_enter Tryz.func54, Tryz.ntmps54
      go_wp2_with (first
        | (go_at_call 90; refine (areNumbers_7 _ n0 n1 n2 n3 n4 n5 n6 _ (by simp [go_sem]) (by simp [go_sem]) (by simp [go_sem]) (by simp [go_sem]) (by simp [go_sem]) (by simp [go_sem]) (by simp [go_sem])).mono ?_; rintro e w' ⟨rfl, rfl⟩; rw [HN.out])
        | (go_at_call 91; refine (arePrices_any a len cap ts _ (HT.out.below (B := w.heap.size) (by repeat (first | exact Below.refl _ _ | refine Below.drew ?_ | refine Below.alloc ?_ (by first | exact Nat.le_refl _ | (simp <;> omega)) _)) (Nat.le_refl _))).mono ?_; rintro e w2 ⟨rfl, b2⟩; rw [HP.out]))
      go_ret
      exact ⟨by rw [HE.out]; rfl, Below.trans (by repeat (first | exact Below.refl _ _ | refine Below.drew ?_ | refine Below.alloc ?_ (by first | exact Nat.le_refl _ | (simp <;> omega)) _)) (b2.mono (by simp <;> omega))⟩
    · have HP : Hid (pricesB ts = false) := by unfold Hid; simpa using hp
      have HE : Hid (errV (cfgB [n0, n1, n2, n3, n4, n5, n6] ts) = 1) := by unfold Hid cfgB; rw [HN.out, HP.out]; rfl
      clear hp
      go_enter Tryz.func54, Tryz.ntmps54
      go_wp2_with (first
        | (go_at_call 90; refine (areNumbers_7 _ n0 n1 n2 n3 n4 n5 n6 _ (by simp [go_sem]) (by simp [go_sem]) (by simp [go_sem]) (by simp [go_sem]) (by simp [go_sem]) (by simp [go_sem]) (by simp [go_sem])).mono ?_; rintro e w' ⟨rfl, rfl⟩; rw [HN.out])
        | (go_at_call 91; refine (arePrices_any a len cap ts _ (HT.out.below (B := w.heap.size) (by repeat (first | exact Below.refl _ _ | refine Below.drew ?_ | refine Below.alloc ?_ (by first | exact Nat.le_refl _ | (simp <;> omega)) _)) (Nat.le_refl _))).mono ?_; rintro e w2 ⟨rfl, b2⟩; rw [HP.out]))
      go_ret
      exact ⟨by rw [HE.out]; rfl, Below.trans (by repeat (first | exact Below.refl _ _ | refine Below.drew ?_ | refine Below.alloc ?_ (by first | exact Nat.le_refl _ | (simp <;> omega)) _)) (b2.mono (by simp <;> omega))⟩
  · have HN : Hid ([n0, n1, n2, n3, n4, n5, n6].all numB = false) := by unfold Hid; simpa using hn
    have HE : Hid (errV (cfgB [n0, n1, n2, n3, n4, n5, n6] ts) = 1) := by unfold Hid cfgB; rw [HN.out]; rfl
    clear hn
    go_enter Tryz.func54, Tryz.ntmps54
    go_wp2_with (go_at_call 90; refine (areNumbers_7 _ n0 n1 n2 n3 n4 n5 n6 _ (by simp [go_sem]) (by simp [go_sem]) (by simp [go_sem]) (by simp [go_sem]) (by simp [go_sem]) (by simp [go_sem]) (by simp [go_sem])).mono ?_; rintro e w' ⟨rfl, rfl⟩; rw [HN.out])
    go_ret
    exact ⟨by rw [HE.out]; rfl, by repeat (first | exact Below.refl _ _ | refine Below.drew ?_ | refine Below.alloc ?_ (by first | exact Nat.le_refl _ | (simp <;> omega)) _)⟩

end Go.Proofs.YtfhncfghblkgeaaGreat
