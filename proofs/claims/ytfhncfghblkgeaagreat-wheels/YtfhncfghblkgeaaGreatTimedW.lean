/-
  The walk: timed at New. (Written by timedwgen.py.)
-/
import Derived.Test.YtfhncfghblkgeaaGreatTimedN
import Derived.Deep.AppendLies
import Derived.Deep.RegionLaw
namespace Go.Proofs.YtfhncfghblkgeaaGreat
open Go.RowKit

theorem newAns_below {PW : World → Nat → (Nat → Prop) → Int → List (Int × Int) → Prop} (T : TimersAll PW) {w w2 w3 : World} {P n : Nat} {c0 c1 vt c3 c4 : Value} {E : List Value} {now : Int} (h : newAns PW w w2 P c0 c1 vt c3 c4 n E now) (hb : Below w2.heap.size w2 w3) : newAns PW w w3 P c0 c1 vt c3 c4 n E now := by
  obtain ⟨x, own, R, vt', h1, h2, h3, h4, h5, h6, h7, h8, h9, h10⟩ := h
  exact ⟨x, own, R, vt', (hb.block P (Array.getElem?_eq_some_iff.1 h1).1).trans h1, ownsRow_below h2 hb (Nat.le_refl _), T.keep h3 hb.size (fun k hk => hb.block k (T.lt h3 k hk)), ⟨(hb.block R (Array.getElem?_eq_some_iff.1 h4.1).1).trans h4.1, ownsRow_below h4.2 hb (Nat.le_refl _)⟩, Same.trans h5 (Same.of_below (own := fun _ => False) hb) (fun k _ e => e.elim id False.elim), h6, h7, h8, h9, h10⟩

theorem new_end {PW : World → Nat → (Nat → Prop) → Int → List (Int × Int) → Prop} (T : TimersAll PW) {w w1 w3 : World} {P n x : Nat} {own : Nat → Prop} {c0 c1 vt c3 c4 v' : Value} {E : List Value} {now : Int} {O : Obj} (hb : Below w.heap.size w w1) (hP : P < w.heap.size)
    (hP1 : w1.heap[P]? = some (.cells #[c0, c1, vt, c3, c4] 67 (0, 0))) (ht1 : w1.ownsRow (P + 1) 153 2 vt n E) (hvt : ∀ k, vt.ownBlock = some k → k < w.heap.size) (hp : PW w1 x own now []) (ho : ∀ k, own k → w.heap.size ≤ k)
    (hown3 : w3.ownsRow (P + 1) 153 2 v' (n + 1) (E ++ [.pointer (some ⟨x, 0, none⟩), .pointer (some ⟨w1.heap.size, 0, none⟩)])) (hg : ((w1.alloc (.cells #[.int .i64 now, .slice none 0 0] 151)).alloc O).grownBy w3 vt.ownBlock) (hat : v'.ownBlock = vt.ownBlock ∨ v'.ownBlock = some (w1.heap.size + 2)) :
    newAns PW w (w3.setCell ⟨P, 2, none⟩ v') P c0 c1 vt c3 c4 n E now := by
  have z1 := hb.size
  have z3 : w1.heap.size + 2 ≤ w3.heap.size := by have := hg.size; simpa using this
  have lt1 := T.lt hp
  have k3 : ∀ k, k < w1.heap.size + 1 → vt.ownBlock ≠ some k → w3.heap[k]? = (w1.alloc (.cells #[.int .i64 now, .slice none 0 0] 151)).heap[k]? := fun k hk hn => (hg.block k (by simp; omega) (fun e => hn e.symm)).trans (Below.heap_alloc _ O k (by simpa using hk))
  have k1 : ∀ k, k < w1.heap.size → vt.ownBlock ≠ some k → w3.heap[k]? = w1.heap[k]? := fun k hk hn => (k3 k (by omega) hn).trans (Below.heap_alloc w1 _ k hk)
  have ks : ∀ k, k ≠ P → (w3.setCell ⟨P, 2, none⟩ v').heap[k]? = w3.heap[k]? := fun k hk => Below.heap_setCell _ ⟨P, 2, none⟩ _ _ hk
  have hvP : vt.ownBlock ≠ some P := own_type ht1 hP1 (by decide)
  have hP3 : w3.heap[P]? = some (.cells #[c0, c1, vt, c3, c4] 67 (0, 0)) := (k1 P (by omega) hvP).trans hP1
  have hR3 : w3.heap[w1.heap.size]? = some (.cells #[.int .i64 now, .slice none 0 0] 151 (0, 0)) := (k3 _ (by omega) (fun e => by have := hvt _ e; omega)).trans (heap_alloc_new _ _)
  have nv : ∀ k, v'.ownBlock = some k → k ≠ P := by
    intro k hk
    rcases hat with e | e
    · exact fun e' => hvP (e' ▸ e.symm.trans hk)
    · rw [hk] at e; simp at e; omega
  refine ⟨x, own, w1.heap.size, v', ?_, ?_, ?_, ⟨?_, World.ownsRow_nil _ _ _ _⟩, ?_, ho, z1, fun e => by have := lt1 _ e; omega, ?_, ?_⟩
  · rw [Joins.block_setCell hP3]; rfl
  · exact owns_keep hown3 (fun k hk => ks k (nv k hk))
  · exact T.keep hp (by simp [World.setCell]; omega) (fun k hk => (ks k (fun e => by have := ho k hk; omega)).trans (k1 k (lt1 k hk) (fun e => by have := hvt k e; have := ho k hk; omega)))
  · exact (ks _ (by omega)).trans hR3
  · refine ⟨hg.os.trans hb.os, hg.tape.trans hb.tape, hg.output.trans hb.output, by simp [World.setCell]; omega, fun k hk hn => ?_⟩
    rw [ks k (fun e => hn (.inl e)), k1 k (by omega) (fun e => hn (.inr e))]
    exact hb.block k hk
  · intro k hk
    rcases hat with e | e
    · exact .inl (e.symm.trans hk)
    · rw [hk] at e; simp at e; exact .inr (by omega)
  · intro k hk hk'
    rcases hat with e | e
    · have := hvt k (e.symm.trans hk); have := ho k hk'; omega
    · rw [hk] at e; simp at e; have := lt1 k hk'; omega

set_option maxRecDepth 100000 in
set_option maxHeartbeats 4000000 in
theorem timed_new {PW : World → Nat → (Nat → Prop) → Int → List (Int × Int) → Prop} (T : TimersAll PW) (P n : Nat) (c0 c1 vt c3 c4 : Value) (E : List Value) (o : OpV) (w : World) (hk : o.k = 4)
    (hw : w.heap[P]? = some (.cells #[c0, c1, vt, c3, c4] 67 (0, 0))) (ht : w.ownsRow (P + 1) 153 2 vt n E) (hn : n * 16 + 16 ≤ 140737488351232) :
    Calls Tryz.prog 47 #[.pointer (some ⟨P, 0, none⟩), o.val] w fun e w' => e = .returned (.bool true) ∧ newAns PW w w' P c0 c1 vt c3 c4 n E o.a := by
  obtain ⟨k, oa, ob, oc, od, oe, os⟩ := o
  simp only at hk ⊢
  subst hk
  unfold OpV.val
  simp only
  obtain ⟨i0, hi, hz0, hz1, hz2⟩ := info_parts Tryz.infoTimers
  have hpw : P < w.heap.size := (Array.getElem?_eq_some_iff.1 hw).1
  have HIN : Hid (w.heap[P]? = some (.cells #[c0, c1, vt, c3, c4] 67 (0, 0)) ∧ w.ownsRow (P + 1) 153 2 vt n E) := ⟨hw, ht⟩
  have HNW : Hid (∀ W, Below w.heap.size w W → Calls Tryz.prog 55 #[.int .i64 oa] W fun e w' => ∃ x own, e = .returned (.pointer (some ⟨x, 0, none⟩)) ∧ PW w' x own oa [] ∧ (∀ k, own k → W.heap.size ≤ k) ∧ Below W.heap.size W w') := fun W _ => T.new W oa
  obtain ⟨va, vc, rfl⟩ := own_slice ht
  clear hw ht
  go_enter Tryz.func47, Tryz.ntmps47
  go_wp2_with fail
  refine (HNW.out _ (by repeat (first | exact Below.refl _ _ | assumption | refine Below.drew ?_ | refine below_drewN ?_ | refine Below.alloc ?_ (by first | exact Nat.le_refl _ | omega | (simp <;> omega)) _))).mono ?_
  rintro e w1 ⟨x, own, rfl, hp, ho, hb⟩
  have hb1 : Below w.heap.size w w1 := Below.trans (show Below w.heap.size w _ from (by repeat (first | exact Below.refl _ _ | assumption | refine Below.drew ?_ | refine below_drewN ?_ | refine Below.alloc ?_ (by first | exact Nat.le_refl _ | omega | (simp <;> omega)) _))) (hb.mono (by simp))
  have hP1 : w1.heap[P]? = some (.cells #[c0, c1, .slice va n vc, c3, c4] 67 (0, 0)) := (hb1.block P hpw).trans HIN.out.1
  have hO1 := ownsRow_below HIN.out.2 hb1 (Nat.le_refl _)
  have hvt := fun k hk => (World.ownsRow.lt HIN.out.2 k hk).2
  have hzw : w.heap.size + 1 ≤ w1.heap.size := by have := hb.size; simpa using this
  have q1 : w1.cell? ⟨w.heap.size, 1, none⟩ = some (.int .i64 oa) := (hb.cell (p := ⟨w.heap.size, 1, none⟩) (by simp)).trans (by simp [go_sem])
  obtain ⟨p2⟩ : w1.cell? ⟨P, 2, none⟩ = some (.slice va n vc) ∧ True := ⟨by rw [Joins.cell_of_block hP1]; rfl, trivial⟩
  have hPw1 : P < w1.heap.size := by omega
  have how1 : w.heap.size < w1.heap.size := by omega
  have HNE : Hid (∀ w3 v' O, w3.ownsRow (P + 1) 153 2 v' (n + 1) (E ++ [.pointer (some ⟨x, 0, none⟩), .pointer (some ⟨w1.heap.size, 0, none⟩)]) → ((w1.alloc (.cells #[.int .i64 oa, .slice none 0 0] 151)).alloc O).grownBy w3 (Value.ownBlock (.slice va n vc)) → (v'.ownBlock = Value.ownBlock (.slice va n vc) ∨ v'.ownBlock = some (w1.heap.size + 2)) → newAns PW w (w3.setCell ⟨P, 2, none⟩ v') P c0 c1 (.slice va n vc) c3 c4 n E oa) :=
    fun w3 v' O h1 h2 h3 => new_end T hb1 hpw hP1 hO1 hvt hp (fun k hk => by have := ho k hk; simp at this; omega) h1 h2 h3
  have hvP : Value.ownBlock (.slice va n vc) ≠ some P := own_type hO1 hP1 (by decide)
  have hnb : Hid (((w1.alloc (.cells #[.int .i64 oa, .slice none 0 0] 151)).alloc (.cells #[.pointer (some ⟨x, 0, none⟩), .pointer (some ⟨w1.heap.size, 0, none⟩)] 153)).heap[w1.heap.size + 1]? = some (.cells #[.pointer (some ⟨x, 0, none⟩), .pointer (some ⟨w1.heap.size, 0, none⟩)] 153 (0, 0))) := by
    have := heap_alloc_new (w1.alloc (.cells #[.int .i64 oa, .slice none 0 0] 151)) (.cells #[.pointer (some ⟨x, 0, none⟩), .pointer (some ⟨w1.heap.size, 0, none⟩)] 153)
    rw [show (w1.alloc (.cells #[.int .i64 oa, .slice none 0 0] 151)).heap.size = w1.heap.size + 1 by simp] at this
    exact this
  clear hp ho hb HIN hvt HNW
  go_wp2_with fail
  go_region_law ((refine step_append_lies _ (by rfl) _ _ _ (by rfl) (P + 1) 153 i0 (.agg #[.pointer none, .pointer none]) 2 16 Tryz.underlying63 hi hz0 hz1 hz2 rfl (by omega) (.slice va n vc) n E (by rfl) (((hO1.alloc _).alloc _).drew) ⟨w1.heap.size + 1, 0, none⟩ 1 1 [.pointer (some ⟨x, 0, none⟩), .pointer (some ⟨w1.heap.size, 0, none⟩)] (by rfl) (by rfl) (World.news_of_block (cs := #[.pointer (some ⟨x, 0, none⟩), .pointer (some ⟨w1.heap.size, 0, none⟩)]) (t := 153) (fr := (0, 0)) hnb.out) (by simp [Value.oneCell']) (by omega) (by unfold maxLen; omega) (by omega) (by simp; omega) (w1.heap.size + 2) (by simp) ?_
                  intro gg cap w3 hown3 hgrow hat hlt
                  have hP3 : w3.heap[P]? = some (.cells #[c0, c1, .slice va n vc, c3, c4] 67 (0, 0)) := (hgrow.block P (by simp; omega) (fun e => hvP e.symm)).trans ((Below.heap_alloc (w1.alloc (.cells #[.int .i64 oa, .slice none 0 0] 151)) _ P (by simp; omega)).trans ((Below.heap_alloc w1 _ P hPw1).trans hP1))
                  have g1 : w3.cell? ⟨P, 2, none⟩ = some (.slice va n vc) := by rw [Joins.cell_of_block hP3]; rfl
                  have gf := row_free hP3 2))
  all_goals (go_wp2; go_ret)
  all_goals exact ⟨rfl, newAns_below T (HNE.out w3 _ (.cells #[.pointer (some ⟨x, 0, none⟩), .pointer (some ⟨w1.heap.size, 0, none⟩)] 153) hown3 ⟨hgrow.os, hgrow.tape, hgrow.output, hgrow.size, hgrow.block⟩ (hat.elim (fun e => .inl (by rw [e]; rfl)) (fun e => .inr (by rw [e]; rfl)))) (by repeat (first | exact Below.refl _ _ | assumption | refine Below.drew ?_ | refine below_drewN ?_ | refine Below.alloc ?_ (by first | exact Nat.le_refl _ | omega | (simp <;> omega)) _))⟩

end Go.Proofs.YtfhncfghblkgeaaGreat
