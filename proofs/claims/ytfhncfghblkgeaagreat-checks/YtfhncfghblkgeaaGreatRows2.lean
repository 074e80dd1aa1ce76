/-
  Rows of tiers: two cells a tier.
-/
import Derived.Test.YtfhncfghblkgeaaGreatLent0
import Derived.Lib.SmallJoins
import Derived.Test.YtfhncfghblkgeaaGreatWBase
namespace Go.Proofs.YtfhncfghblkgeaaGreat
open Go.RowKit
/-- Sixteen cells at least: the next two. -/
theorem next_two {Z : List Value} {j : Nat} (h : Z.length = (8 - j) * 2) (hj : j < 8) : ∃ z0 z1 Z', Z = z0 :: z1 :: Z' ∧ Z'.length = (8 - (j + 1)) * 2 := by
  match Z, h with
  | [], h => simp at h; omega
  | [_], h => simp at h; omega
  | z0 :: z1 :: Z', h => exact ⟨z0, z1, Z', rfl, by simp at h; omega⟩

theorem tiers_src {w : World} {x : Addr} {len cap : Nat} {ts : List (Int × Int)} (h : tiersAt w (some x) len cap ts) : ∀ j v, (flatT ts)[j]? = some v → w.cell? (x.add j) = some v := by
  intro j v hv
  obtain ⟨hl, _, _, _, hc⟩ := h
  have hjl : j < (flatT ts).length := (List.getElem?_eq_some_iff.1 hv).1
  rw [flatT_len] at hjl
  obtain ⟨b, off, hx, _, hcell⟩ := hc (fun e => by rw [e] at hjl; simp at hjl)
  simp at hx
  subst hx
  have hi : j / 2 < len := by omega
  have hf := flatT_at ts (j / 2) (by omega)
  rw [Addr.add_lit]
  by_cases hp : j % 2 = 0
  · have e : j = j / 2 * 2 := by omega
    rw [e, hf.1] at hv
    rw [e]
    rw [(hcell (j / 2) hi).1]; exact hv
  · have e : j = j / 2 * 2 + 1 := by omega
    rw [e, hf.2] at hv
    rw [e, ← Nat.add_assoc]
    rw [(hcell (j / 2) hi).2]; exact hv

/-- The eight cells of a configuration's block. -/
theorem cells8 {w : World} {b : Nat} {T : TypeId} {c0 c1 c2 c3 c4 c5 c6 c7 : Value} (h : w.heap[b]? = some (.cells #[c0, c1, c2, c3, c4, c5, c6, c7] T (0, 0))) :
    w.cell? ⟨b, 0, none⟩ = some c0 ∧ w.cell? ⟨b, 1, none⟩ = some c1 ∧ w.cell? ⟨b, 2, none⟩ = some c2 ∧ w.cell? ⟨b, 3, none⟩ = some c3 ∧ w.cell? ⟨b, 4, none⟩ = some c4 ∧ w.cell? ⟨b, 5, none⟩ = some c5 ∧ w.cell? ⟨b, 6, none⟩ = some c6 ∧ w.cell? ⟨b, 7, none⟩ = some c7 ∧ (∀ i, w.frozen? ⟨b, i, none⟩ = false) := by
  refine ⟨?_, ?_, ?_, ?_, ?_, ?_, ?_, ?_, ?_⟩
  all_goals first | exact fun i => Joins.unfrozen_of_block h i | (rw [Joins.cell_of_block h]; rfl)

theorem below_set8 {B b : Nat} {w w2 : World} {v0 v1 v2 v3 v4 v5 v6 v7 : Value} (h : Below B w w2) (hb : B ≤ b) : Below B w ((((((((w2.setCell ⟨b, 0, none⟩ v0).setCell ⟨b, 1, none⟩ v1).setCell ⟨b, 2, none⟩ v2).setCell ⟨b, 3, none⟩ v3).setCell ⟨b, 4, none⟩ v4).setCell ⟨b, 5, none⟩ v5).setCell ⟨b, 6, none⟩ v6).setCell ⟨b, 7, none⟩ v7) :=
  ((((((((h.setCell (p := ⟨b, 0, none⟩) hb v0).setCell (p := ⟨b, 1, none⟩) hb v1).setCell (p := ⟨b, 2, none⟩) hb v2).setCell (p := ⟨b, 3, none⟩) hb v3).setCell (p := ⟨b, 4, none⟩) hb v4).setCell (p := ⟨b, 5, none⟩) hb v5).setCell (p := ⟨b, 6, none⟩) hb v6).setCell (p := ⟨b, 7, none⟩) hb v7)
theorem other_set8 {b g : Nat} {w2 : World} {v0 v1 v2 v3 v4 v5 v6 v7 : Value} (hg : g ≠ b) : (((((((((w2.setCell ⟨b, 0, none⟩ v0).setCell ⟨b, 1, none⟩ v1).setCell ⟨b, 2, none⟩ v2).setCell ⟨b, 3, none⟩ v3).setCell ⟨b, 4, none⟩ v4).setCell ⟨b, 5, none⟩ v5).setCell ⟨b, 6, none⟩ v6).setCell ⟨b, 7, none⟩ v7)).heap[g]? = w2.heap[g]? := by
  rw [Below.heap_setCell _ ⟨b, 7, none⟩ _ g hg, Below.heap_setCell _ ⟨b, 6, none⟩ _ g hg, Below.heap_setCell _ ⟨b, 5, none⟩ _ g hg, Below.heap_setCell _ ⟨b, 4, none⟩ _ g hg, Below.heap_setCell _ ⟨b, 3, none⟩ _ g hg, Below.heap_setCell _ ⟨b, 2, none⟩ _ g hg, Below.heap_setCell _ ⟨b, 1, none⟩ _ g hg, Below.heap_setCell _ ⟨b, 0, none⟩ _ g hg]

end Go.Proofs.YtfhncfghblkgeaaGreat
