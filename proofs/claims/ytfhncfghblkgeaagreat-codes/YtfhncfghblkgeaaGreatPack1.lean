/-
  The walk: Pack, of the kind 1.
-/
import Derived.Test.YtfhncfghblkgeaaGreatPackBase
namespace Go.Proofs.YtfhncfghblkgeaaGreat
open Go.RowKit

set_option maxHeartbeats 400000 in
theorem pack_1_bad (t c u o : Int) (w : World) (hn : [t, c, u].all numB = false) :
    Calls Tryz.prog 70 #[.agg #[.int .i64 1, .int .i64 t, .int .i64 c, .int .i64 u, .int .i64 o]] w fun e w' => e = .returned (.tuple #[.slice none 0 0, .int .i64 2]) ∧ Below w.heap.size w w' := by
  have HN : Hid ([t, c, u].all numB = false) := hn
  clear hn
  go_enter Tryz.func70, Tryz.ntmps70
  go_wp2_with (first
    | (go_at_call 96; refine (numbersOf_1 t c u o _).mono ?_; rintro e w' ⟨rfl, rfl⟩)
    | (go_at_call 90; refine (areNumbers_3 _ t c u _ (by simp [go_sem]) (by simp [go_sem]) (by simp [go_sem])).mono ?_; rintro e w' ⟨rfl, rfl⟩; rw [HN.out]))
  go_ret2
  exact ⟨rfl, by repeat (first | exact Below.refl _ _ | refine Below.drew ?_ | refine Below.alloc ?_ (by first | exact Nat.le_refl _ | (simp <;> omega)) _)⟩

set_option maxHeartbeats 400000 in
theorem pack_1_other (t c u o : Int) (w : World) (hn : [t, c, u].all numB = true) (ho : (o == 0) = false) :
    Calls Tryz.prog 70 #[.agg #[.int .i64 1, .int .i64 t, .int .i64 c, .int .i64 u, .int .i64 o]] w fun e w' => e = .returned (.tuple #[.slice none 0 0, .int .i64 2]) ∧ Below w.heap.size w w' := by
  have HN : Hid ([t, c, u].all numB = true) := hn
  have ho' : (0 == o) = false := by simp at ho ⊢; omega
  clear hn
  go_enter Tryz.func70, Tryz.ntmps70
  go_wp2_with (first
    | (go_at_call 96; refine (numbersOf_1 t c u o _).mono ?_; rintro e w' ⟨rfl, rfl⟩)
    | (go_at_call 90; refine (areNumbers_3 _ t c u _ (by simp [go_sem]) (by simp [go_sem]) (by simp [go_sem])).mono ?_; rintro e w' ⟨rfl, rfl⟩; rw [HN.out]))
  go_region_held3 (fun w' => w'.cell? ⟨w.heap.size, 0, none⟩ = some (.int .i64 1) ∧ w'.cell? ⟨w.heap.size, 1, none⟩ = some (.int .i64 t) ∧ w'.cell? ⟨w.heap.size, 2, none⟩ = some (.int .i64 c) ∧ w'.cell? ⟨w.heap.size, 3, none⟩ = some (.int .i64 u) ∧ w'.cell? ⟨w.heap.size, 4, none⟩ = some (.int .i64 o)) (simp [go_sem, World.cell?_alloc_past, *])
    (first
      | (go_at_call 98; refine (requestOf_1 _ 0 3 t c u _ (by simp [go_sem]) (by simp [go_sem]) (by simp [go_sem])).mono ?_; rintro e w' ⟨rfl, hb⟩; obtain ⟨hc, hf⟩ := bcell hb))
  go_wp2
  go_ret2
  exact ⟨rfl, by repeat (first | exact Below.refl _ _ | refine Below.drew ?_ | refine Below.alloc ?_ (by first | exact Nat.le_refl _ | (simp <;> omega)) _ | refine Below.trans ?_ (hb.mono (by simp <;> omega)))⟩

set_option maxRecDepth 100000 in
set_option maxHeartbeats 1000000 in
theorem pack_1_yes (t c u : Int) (w : World) (hn : [t, c, u].all numB = true) :
    Calls Tryz.prog 70 #[.agg #[.int .i64 1, .int .i64 t, .int .i64 c, .int .i64 u, .int .i64 0]] w fun e w' => ∃ v, e = .returned (.tuple #[v, .int .i64 0]) ∧ w'.ownsRow w.heap.size 5 1 v (frameB 1 [t, c, u]).length ((frameB 1 [t, c, u]).map (Value.int .u8)) ∧ Below w.heap.size w w' := by
  have HN : Hid ([t, c, u].all numB = true) := hn
  clear hn
  obtain ⟨i0, hi, hz0, hz1, hz2⟩ := info_parts Tryz.infoU8
  go_enter Tryz.func70, Tryz.ntmps70
  go_wp2_with (first
    | (go_at_call 96; refine (numbersOf_1 t c u 0 _).mono ?_; rintro e w' ⟨rfl, rfl⟩)
    | (go_at_call 90; refine (areNumbers_3 _ t c u _ (by simp [go_sem]) (by simp [go_sem]) (by simp [go_sem])).mono ?_; rintro e w' ⟨rfl, rfl⟩; rw [HN.out]))
  go_region_held3 (fun w' => w'.cell? ⟨w.heap.size, 0, none⟩ = some (.int .i64 1) ∧ w'.cell? ⟨w.heap.size, 1, none⟩ = some (.int .i64 t) ∧ w'.cell? ⟨w.heap.size, 2, none⟩ = some (.int .i64 c) ∧ w'.cell? ⟨w.heap.size, 3, none⟩ = some (.int .i64 u) ∧ w'.cell? ⟨w.heap.size, 4, none⟩ = some (.int .i64 0)) (simp [go_sem, World.cell?_alloc_past, *])
    (first
      | (go_at_call 98; refine (requestOf_1 _ 0 3 t c u _ (by simp [go_sem]) (by simp [go_sem]) (by simp [go_sem])).mono ?_; rintro e w' ⟨rfl, hb⟩; obtain ⟨hc, hf⟩ := bcell hb))
  have hnum : Hid (numsAt w' (w.heap.size + 1 + 1) [t, c, u]) := numsAt_3 HN.out (by rw [hc _ _ (by simp <;> omega)]; simp [go_sem]) (by rw [hc _ _ (by simp <;> omega)]; simp [go_sem]) (by rw [hc _ _ (by simp <;> omega)]; simp [go_sem])
  have hk : w'.cell? ⟨w.heap.size, 0, none⟩ = some (.int .i64 1) := by rw [hc _ _ (by simp <;> omega)]; simp [go_sem]
  have hsz : w.heap.size + 2 < w'.heap.size := by have := hb.size; simp at this; omega
  have hw0 : Below w.heap.size w w' := by repeat (first | exact Below.refl _ _ | refine Below.drew ?_ | refine Below.alloc ?_ (by first | exact Nat.le_refl _ | (simp <;> omega)) _ | refine Below.trans ?_ (hb.mono (by simp <;> omega)))
  clear hb hc hf
  rename_i hHeld
  clear hHeld
  generalize hb0 : w.heap.size = b0 at *
  have HB0 : Hid (w.heap.size = b0) := hb0
  clear hb0
  go_wp2_with fail
  generalize hB : w'.heap.size = B at *
  have HB : Hid (w'.heap.size = B) := hB
  clear hB
  go_loopw [5, 6] (fun fr i wr => ∃ j : Nat, j ≤ 3 ∧ i = .int .i64 j ∧ wr.ownsRow B 5 1 fr (frameB 1 ([t, c, u].take j)).length ((frameB 1 ([t, c, u].take j)).map (Value.int .u8)) ∧ Below B w' wr) (fun _ i _ => 3 - (intOf i).toNat)
  case atStart => exact ⟨0, Nat.zero_le _, rfl, ownsRow_one HB.out _, (Below.refl _ _).alloc (Nat.le_of_eq HB.out.symm) _⟩
  case round =>
    obtain ⟨j, hj, rfl, hown, hbel⟩ := hrel
    have hBr : B ≤ wr.heap.size := by have := hbel.size; rw [HB.out] at this; exact this
    by_cases hlt : j < 3
    · obtain ⟨m, hm, hml, hmc⟩ := hnum.out j hlt
      have hcx : wr.cell? ⟨b0 + 1 + 1, j, none⟩ = some (.int .i64 m) := (hbel.cell (p := ⟨b0 + 1 + 1, j, none⟩) (by show b0 + 1 + 1 < B; omega)).trans hmc
      have hfl : (frameB 1 ([t, c, u].take j)).length ≤ 100 := by
        have := frameB_len 1 [t, c, u] (fun j hj => let ⟨n, h1, h2, _⟩ := hnum.out j hj; ⟨n, h1, h2⟩) j (by simp; omega)
        omega
      have hcl := code_len9 hml
      have HF : Hid (frameB 1 ([t, c, u].take (j + 1)) = frameB 1 ([t, c, u].take j) ++ code m) := frameB_take 1 [t, c, u] j m hlt hm
      clear hm hmc
      generalize hX : frameB 1 ([t, c, u].take j) = X at *
      clear hX
      generalize hR : wr.heap.size = R at *
      have HR : Hid (wr.heap.size = R) := hR
      clear hR
      go_wp2_with (first
        | (go_at_call 106; refine (groupsOf_some m _ hml).mono ?_; rintro e w2 ⟨g, cap, rfl, hgc, hb2⟩)
        | (at_builtin; refine wpList_append_own _ rfl _ _ 92 rfl B 5 i0 (.int .u8 0) 1 1 Tryz.underlying92 hi hz0 hz1 hz2 rfl (by decide) _ _ _ rfl (ownsRow_below hown hb2 (Nat.le_refl _)) ⟨g, 0, none⟩ _ _ ((code m).map (Value.int .u8)) rfl (by simp) hgc (ints_oneCell _ _) (by unfold maxLen; omega) (by omega) (by have := hb2.size; rw [HR.out] at this; omega) ?_))
      intro v' w3 hown3 hgrow _
      have HP : Hid (w3.ownsRow B 5 1 v' (X ++ code m).length ((X ++ code m).map (Value.int .u8)) ∧ Below B w' w3) := pack_round rfl hown hbel hb2 (by rw [HR.out]; exact hBr) hown3 hgrow
      clear hown3 hgrow hgc hb2 hown hcx
      go_wp2
      go_roundw
      case rel => exact ⟨j + 1, by omega, by go_num, by rw [HF.out]; exact HP.out.1, HP.out.2⟩
      case measure => simp [intOf]; omega
    · have hj3 : j = 3 := by omega
      subst hj3
      go_wp2
      go_ret2
      rw [HB0.out]
      exact ⟨_, rfl, ownsRow_mono hown (by omega), hw0.trans (hbel.mono (by omega))⟩

end Go.Proofs.YtfhncfghblkgeaaGreat
