/-
  The walk: timed at New, and where there are no timers; whatever the program's timers are.
-/
import Derived.Test.YtfhncfghblkgeaaGreatTimed
namespace Go.Proofs.YtfhncfghblkgeaaGreat
open Go.RowKit

theorem Tryz.infoTimers : (Tryz.prog.info? 153).map (fun i => (i.zero, i.size, i.bytes)) = some (some (.agg #[.pointer none, .pointer none]), 2, 16) := by kernel_rfl

set_option maxRecDepth 100000 in
set_option maxHeartbeats 2000000 in
theorem timed_none (P : Nat) (o : OpV) (w : World) (a : Option Addr) (cap : Nat) (hk : 5 ≤ o.k ∧ o.k ≤ 9) (h2 : w.cell? ⟨P, 2, none⟩ = some (.slice a 0 cap)) :
    Calls Tryz.prog 47 #[.pointer (some ⟨P, 0, none⟩), o.val] w fun e w' => e = .returned (.bool true) ∧ Below w.heap.size w w' := by
  obtain ⟨k, oa, ob, oc, od, oe, os⟩ := o
  simp only at hk
  unfold OpV.val
  simp only
  have hpw : P < w.heap.size := World.block_lt_of_cell? w _ h2
  have hk4 : (k == 4) = false := by simp; omega
  go_enter Tryz.func47, Tryz.ntmps47
  go_wp2
  go_ret
  exact ⟨rfl, (Below.refl _ _).alloc (Nat.le_refl _) _⟩

/-- What New leaves: one set of timers more. -/
def newAns (PW : World → Nat → (Nat → Prop) → Int → List (Int × Int) → Prop) (w w' : World) (P : Nat) (c0 c1 vt c3 c4 : Value) (n : Nat) (E : List Value) (now : Int) : Prop :=
  ∃ x own R vt', w'.heap[P]? = some (.cells #[c0, c1, vt', c3, c4] 67 (0, 0)) ∧ w'.ownsRow (P + 1) 153 2 vt' (n + 1) (E ++ [.pointer (some ⟨x, 0, none⟩), .pointer (some ⟨R, 0, none⟩)]) ∧ PW w' x own now [] ∧ rwAt w' w.heap.size R now (.slice none 0 0) [] ∧
    Same (fun b => b = P ∨ vt.ownBlock = some b) w w' ∧ (∀ k, own k → w.heap.size ≤ k) ∧ w.heap.size ≤ R ∧ ¬ own R ∧ (∀ k, vt'.ownBlock = some k → vt.ownBlock = some k ∨ w.heap.size ≤ k) ∧ (∀ k, vt'.ownBlock = some k → ¬ own k)

end Go.Proofs.YtfhncfghblkgeaaGreat
