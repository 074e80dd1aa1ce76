/-
  Timers, whatever the program's timers are: what must be shown of them, and what a call on both leaves.
-/
import Derived.Test.YtfhncfghblkgeaaGreatAdvanced
import Derived.Test.YtfhncfghblkgeaaGreatWBase
namespace Go.Proofs.YtfhncfghblkgeaaGreat
open Go.RowKit
/-- What a call on both leaves. -/
def pairAns (PW : World → Nat → (Nat → Prop) → Int → List (Int × Int) → Prop) (w w' : World) (B R x : Nat) (own : Nat → Prop) (v : Value) (now : Int) (L : List (Int × Int)) : Prop :=
  ∃ own' v', PW w' x own' now L ∧ rwAt w' B R now v' L ∧ Same (fun b => own b ∨ b = R ∨ v.ownBlock = some b) w w' ∧ (∀ k, own' k → own k ∨ w.heap.size ≤ k) ∧ (∀ k, v'.ownBlock = some k → v.ownBlock = some k ∨ w.heap.size ≤ k) ∧ (∀ k, v'.ownBlock = some k → ¬ own' k)

/-- Both sets of timers are apart. -/
def apart (R : Nat) (v : Value) (own : Nat → Prop) : Prop := ¬ own R ∧ ∀ k, v.ownBlock = some k → ¬ own k

/-- The reference's timers behind a call on the program's. -/
theorem rw_behind {w w1 : World} {B R : Nat} {own : Nat → Prop} {v : Value} {now : Int} {L : List (Int × Int)} (hr : rwAt w B R now v L) (hs : Same own w w1) (ha : apart R v own) : rwAt w1 B R now v L :=
  ⟨(hs.block R (Array.getElem?_eq_some_iff.1 hr.1).1 ha.1).trans hr.1, owns_keep hr.2 (fun k hk => hs.block k (World.ownsRow.lt hr.2 k hk).2 (ha.2 k hk))⟩

theorem pair_end {PW : World → Nat → (Nat → Prop) → Int → List (Int × Int) → Prop} (T : TimersAll PW) {w w0 w1 w2 : World} {B R x : Nat} {own : Nat → Prop} {v : Value} {now now1 : Int} {L L' : List (Int × Int)} (hr : rwAt w B R now v L) (ha : apart R v own)
    (hb : Below w.heap.size w w0) (h1 : pwAns PW w0 w1 x own now1 L') (h2 : rwAns w1 w2 B R v now1 L') : pairAns PW w w2 B R x own v now1 L' := by
  obtain ⟨own', hp, hs, hf⟩ := h1
  obtain ⟨v', hr2, hs2, hv2⟩ := h2
  have z0 := hb.size
  have z1 := hs.size
  have hlt := T.lt hp
  have hR : R < w.heap.size := (Array.getElem?_eq_some_iff.1 hr.1).1
  have hvv := World.ownsRow.lt hr.2
  have hoR : ¬ own' R := fun e => by
    rcases hf R e with h | h
    · exact ha.1 h
    · omega
  have hov : ∀ k, v.ownBlock = some k → ¬ own' k := fun k hk e => by
    rcases hf k e with h | h
    · exact ha.2 k hk h
    · have := (hvv k hk).2; omega
  refine ⟨own', v', T.keep hp hs2.size (fun k hk => hs2.block k (hlt k hk) (fun e => e.elim (fun e => hoR (e ▸ hk)) (fun e => hov k e hk))), hr2, ?_, fun k hk => (hf k hk).imp id (by omega), fun k hk => (hv2 k hk).imp id (by omega), fun k hk hk' => ?_⟩
  · exact Same.trans (Same.trans (Same.of_below (own := fun _ => False) hb) hs (o := own) (fun k _ e => e.elim False.elim id)) hs2 (fun k _ e => e.elim .inl .inr)
  · rcases hv2 k hk with h | h
    · exact hov k h hk'
    · have := hlt k hk'; omega

end Go.Proofs.YtfhncfghblkgeaaGreat
