/-
  The walks: looks where nothing came out; step at a Check.
-/
import Derived.Test.YtfhncfghblkgeaaGreatPlays
import Derived.Test.YtfhncfghblkgeaaGreatChecked1
import Derived.Deep.RegionHeld3
namespace Go.Proofs.YtfhncfghblkgeaaGreat
open Go.RowKit

theorem world_cells {w : World} {p : Nat} {c0 c1 c2 c3 c4 : Value} {T : TypeId} (h : w.heap[p]? = some (.cells #[c0, c1, c2, c3, c4] T (0, 0))) :
    w.cell? ⟨p, 0, none⟩ = some c0 ∧ w.cell? ⟨p, 1, none⟩ = some c1 ∧ w.cell? ⟨p, 2, none⟩ = some c2 ∧ w.cell? ⟨p, 3, none⟩ = some c3 ∧ w.cell? ⟨p, 4, none⟩ = some c4 := by
  refine ⟨?_, ?_, ?_, ?_, ?_⟩
  all_goals (rw [Joins.cell_of_block h]; rfl)

set_option maxHeartbeats 1000000 in
theorem looks_none (p : Nat) (w : World) (h3 : w.cell? ⟨p, 3, none⟩ = some (.slice none 0 0)) (h4 : w.cell? ⟨p, 4, none⟩ = some (.slice none 0 0)) :
    Calls Tryz.prog 25 #[.pointer (some ⟨p, 0, none⟩)] w fun e w' => e = .returned (.bool true) ∧ w = w' := by
  go_enter Tryz.func25, Tryz.ntmps25
  go_wp2_with fail
  go_loop [3] (fun i => i = .int .i64 0) (fun _ => 0)
  case atStart => rfl
  case round =>
    subst hrel
    go_wp2_with fail
    go_loop [5] (fun i => i = .int .i64 0) (fun _ => 0)
    case atStart => rfl
    case round =>
      subst hrel
      go_wp2
      go_ret
      exact ⟨rfl, rfl⟩

/-- A configuration in memory. -/
def cfgAt (w : World) (b i : Nat) : Prop :=
  ∃ (n0 n1 n2 n3 n4 n5 n6 : Int) (a : Option Addr) (len cap : Nat) (ts : List (Int × Int)), w.cell? ⟨b, i, none⟩ = some (.int .i64 n0) ∧ w.cell? ⟨b, i + 1, none⟩ = some (.int .i64 n1) ∧ w.cell? ⟨b, i + 2, none⟩ = some (.int .i64 n2) ∧ w.cell? ⟨b, i + 3, none⟩ = some (.int .i64 n3) ∧
    w.cell? ⟨b, i + 4, none⟩ = some (.int .i64 n4) ∧ w.cell? ⟨b, i + 5, none⟩ = some (.int .i64 n5) ∧ w.cell? ⟨b, i + 6, none⟩ = some (.int .i64 n6) ∧ w.cell? ⟨b, i + 7, none⟩ = some (.slice a len cap) ∧ tiersAt w a len cap ts ∧ len * 16 ≤ 140737488351232

/-- Configurations in memory. -/
def cfgsAt (w : World) (a : Option Addr) (len : Nat) : Prop := len * 80 ≤ 140737488351232 ∧ (0 < len → ∃ b off, a = some ⟨b, off, none⟩ ∧ b < w.heap.size ∧ ∀ i, i < len → cfgAt w b (off + i * 8))

theorem cfgAt.below {w w' : World} {b i B : Nat} (h : cfgAt w b i) (hb : Below B w w') (hB : w.heap.size ≤ B) (hbB : b < B) : cfgAt w' b i := by
  obtain ⟨n0, n1, n2, n3, n4, n5, n6, a, len, cap, ts, h0, h1, h2, h3, h4, h5, h6, h7, ht, hl⟩ := h
  exact ⟨n0, n1, n2, n3, n4, n5, n6, a, len, cap, ts, (hb.cell (p := ⟨b, i, none⟩) hbB).trans h0, (hb.cell (p := ⟨b, i + 1, none⟩) hbB).trans h1, (hb.cell (p := ⟨b, i + 2, none⟩) hbB).trans h2, (hb.cell (p := ⟨b, i + 3, none⟩) hbB).trans h3, (hb.cell (p := ⟨b, i + 4, none⟩) hbB).trans h4, (hb.cell (p := ⟨b, i + 5, none⟩) hbB).trans h5, (hb.cell (p := ⟨b, i + 6, none⟩) hbB).trans h6, (hb.cell (p := ⟨b, i + 7, none⟩) hbB).trans h7, ht.below hb hB, hl⟩

set_option maxRecDepth 100000 in
set_option maxHeartbeats 2000000 in
theorem step_check (p : Nat) (a : Option Addr) (len cap : Nat) (o : OpV) (w : World) (hk : o.k = 1) (ho : -9223372036854775808 ≤ o.a ∧ o.a ≤ 9223372036854775807) (h0 : w.cell? ⟨p, 0, none⟩ = some (.slice a len cap)) (hc : cfgsAt w a len) :
    Calls Tryz.prog 24 #[.pointer (some ⟨p, 0, none⟩), o.val] w fun e w' => e = .returned (.bool true) ∧ Below w.heap.size w w' := by
  obtain ⟨k, oa, ob, oc, od, oe, os⟩ := o
  simp only at hk ho
  subst hk
  unfold OpV.val
  simp only
  have hpw : p < w.heap.size := World.block_lt_of_cell? w _ h0
  by_cases hz : len = 0
  · subst hz
    go_enter Tryz.func24, Tryz.ntmps24
    go_wp2
    go_ret
    exact ⟨rfl, (Below.refl _ _).alloc (Nat.le_refl _) _⟩
  · have hz' : ((len : Int) == 0) = false := by simp; omega
    obtain ⟨hl80, hcs⟩ := hc
    obtain ⟨b, off, rfl, hbw, hcfg⟩ := hcs (by omega)
    have HC : Hid (∀ i, i < len → cfgAt w b (off + i * 8)) := hcfg
    have HO : Hid (-9223372036854775808 ≤ oa ∧ oa ≤ 9223372036854775807) := ho
    clear hcs hcfg ho
    go_enter Tryz.func24, Tryz.ntmps24
    go_wp2
    have hr : pickN oa len < len := pickN_lt oa (by omega)
    have HPK : Hid (∀ w' : World, Calls Tryz.prog 48 #[.int .i64 oa, .int .i64 len] w' fun e w2 => e = .returned (.int .i64 (pickN oa len)) ∧ w' = w2) := fun w' => pick_any oa len w' HO.out (by omega) (by omega)
    generalize pickN oa len = r at hr HPK
    obtain ⟨n0, n1, n2, n3, n4, n5, n6, a', len', cap', ts, c0, c1, c2, c3, c4, c5, c6, c7, ht, hl⟩ := HC.out r hr
    have HT : Hid (tiersAt w a' len' cap' ts) := ht
    have hr' : (r : Int) < (len : Int) := by omega
    clear ht
    go_region_held3 (fun w' => w'.cell? ⟨p, 0, none⟩ = some (.slice (some ⟨b, off, none⟩) len cap) ∧ w'.cell? ⟨w.heap.size, 1, none⟩ = some (.int .i64 oa) ∧ w'.cell? ⟨b, off + r * 8, none⟩ = some (.int .i64 n0) ∧ w'.cell? ⟨b, off + r * 8 + 1, none⟩ = some (.int .i64 n1) ∧ w'.cell? ⟨b, off + r * 8 + 2, none⟩ = some (.int .i64 n2) ∧ w'.cell? ⟨b, off + r * 8 + 3, none⟩ = some (.int .i64 n3) ∧ w'.cell? ⟨b, off + r * 8 + 4, none⟩ = some (.int .i64 n4) ∧ w'.cell? ⟨b, off + r * 8 + 5, none⟩ = some (.int .i64 n5) ∧ w'.cell? ⟨b, off + r * 8 + 6, none⟩ = some (.int .i64 n6) ∧ w'.cell? ⟨b, off + r * 8 + 7, none⟩ = some (.slice a' len' cap')) (simp [go_sem, World.cell?_alloc_past, *])
      (first
        | (go_at_call 48; refine (HPK.out _).mono ?_; rintro e w' ⟨rfl, rfl⟩))
    all_goals
      clear c0 c1 c2 c3 c4 c5 c6 c7
      go_wp2_with (go_at_call 49; refine (checked_any n0 n1 n2 n3 n4 n5 n6 a' len' cap' ts _ (HT.out.below (B := w.heap.size) (by repeat (first | exact Below.refl _ _ | refine Below.drew ?_ | refine Below.alloc ?_ (by first | exact Nat.le_refl _ | (simp <;> omega)) _)) (Nat.le_refl _)) hl).mono ?_; rintro e w2 ⟨rfl, b2⟩)
      go_ret
      exact ⟨rfl, Below.trans (by repeat (first | exact Below.refl _ _ | refine Below.drew ?_ | refine Below.alloc ?_ (by first | exact Nat.le_refl _ | (simp <;> omega)) _)) (b2.mono (by simp <;> omega))⟩

end Go.Proofs.YtfhncfghblkgeaaGreat
