/-
  Pack, whatever the request.
-/
import Derived.Test.YtfhncfghblkgeaaGreatPack1
import Derived.Test.YtfhncfghblkgeaaGreatPack2
import Derived.Test.YtfhncfghblkgeaaGreatPack3
import Derived.Test.YtfhncfghblkgeaaGreatPack4
namespace Go.Proofs.YtfhncfghblkgeaaGreat
open Go.RowKit

/-- Bytes that a call has made lie at the head of a block of its own. -/
def bytesAt (w : World) (B : Nat) (v : Value) (l : List Int) : Prop :=
  ∃ g cap, v = .slice (some ⟨g, 0, none⟩) l.length cap ∧ B ≤ g ∧ g < w.heap.size ∧ l.length ≤ cap ∧ cap ≤ maxLen ∧ ∀ i, i < l.length → w.cell? ⟨g, 0 + i, none⟩ = some (.int .u8 (l.getD i 0))

theorem bytesAt_of {w : World} {B : Nat} {v : Value} {l : List Int} (h : w.ownsRow B 5 1 v l.length (l.map (Value.int .u8))) (hl : 0 < l.length) : bytesAt w B v l := by
  rcases h.2 with ⟨_, h0⟩ | ⟨g, cap, cur, rfl, hg, hh, hn, hm, _⟩
  · omega
  · refine ⟨g, cap, rfl, hg, (Array.getElem?_eq_some_iff.1 hh).1, hn, hm, fun i hi => ?_⟩
    have := h.cells (g := g) rfl i (.int .u8 (l.getD i 0)) (by simp [List.getD, List.getElem?_eq_getElem hi])
    simpa [Addr.add_lit] using this

theorem bytesAt.below {w w' : World} {B B' : Nat} {v : Value} {l : List Int} (h : bytesAt w B v l) (hb : Below B' w w') (hB : w.heap.size ≤ B') : bytesAt w' B v l := by
  obtain ⟨g, cap, rfl, hg, hh, hn, hm, hc⟩ := h
  exact ⟨g, cap, rfl, hg, Nat.lt_of_lt_of_le hh hb.size, hn, hm, fun i hi => (hb.cell (p := ⟨g, 0 + i, none⟩) (Nat.lt_of_lt_of_le hh hB)).trans (hc i hi)⟩

theorem frameB_pos (k : Int) (ns : List Int) : 0 < (frameB k ns).length := by simp [frameB]

theorem pack_own (k t c u o : Int) (w : World) (h : isB k t c u o = true) :
    Calls Tryz.prog 70 #[.agg #[.int .i64 k, .int .i64 t, .int .i64 c, .int .i64 u, .int .i64 o]] w fun e w' => ∃ v, e = .returned (.tuple #[v, .int .i64 0]) ∧ w'.ownsRow w.heap.size 5 1 v (frameB k (numsOf k t c u o)).length ((frameB k (numsOf k t c u o)).map (Value.int .u8)) ∧ Below w.heap.size w w' := by
  by_cases h1 : k = 1
  · subst h1
    simp [isB] at h
    obtain ⟨h, rfl⟩ := h
    exact pack_1_yes t c u w (by simp [h])
  by_cases h2 : k = 2
  · subst h2
    simp [isB] at h
    obtain ⟨h, rfl⟩ := h
    exact pack_2_yes t c o w (by simp [h])
  by_cases h3 : k = 3
  · subst h3
    simp [isB] at h
    obtain ⟨h, rfl⟩ := h
    exact pack_3_yes t c o w (by simp [h])
  by_cases h4 : k = 4
  · subst h4
    simp [isB] at h
    obtain ⟨⟨h, rfl⟩, rfl⟩ := h
    exact pack_4_yes c o w (by simp [h])
  · simp [isB, h1, h2, h3, h4] at h

theorem pack_yes (k t c u o : Int) (w : World) (h : isB k t c u o = true) :
    Calls Tryz.prog 70 #[.agg #[.int .i64 k, .int .i64 t, .int .i64 c, .int .i64 u, .int .i64 o]] w fun e w' => ∃ v, e = .returned (.tuple #[v, .int .i64 0]) ∧ bytesAt w' w.heap.size v (frameB k (numsOf k t c u o)) ∧ Below w.heap.size w w' := by
  refine (pack_own k t c u o w h).mono ?_
  rintro e w' ⟨v, he, ho, hb⟩
  exact ⟨v, he, bytesAt_of ho (frameB_pos k _), hb⟩

set_option maxHeartbeats 400000 in
theorem pack_none (k t c u o : Int) (w : World) (h1 : ¬ k = 1) (h2 : ¬ k = 2) (h3 : ¬ k = 3) (h4 : ¬ k = 4) :
    Calls Tryz.prog 70 #[.agg #[.int .i64 k, .int .i64 t, .int .i64 c, .int .i64 u, .int .i64 o]] w fun e w' => e = .returned (.tuple #[.slice none 0 0, .int .i64 2]) ∧ Below w.heap.size w w' := by
  go_enter Tryz.func70, Tryz.ntmps70
  go_wp2_with (go_at_call 96; refine (numbersOf_no k t c u o _ h1 h2 h3 h4).mono ?_; rintro e w' ⟨rfl, rfl⟩)
  go_ret2
  exact ⟨rfl, by repeat (first | exact Below.refl _ _ | refine Below.drew ?_ | refine Below.alloc ?_ (by first | exact Nat.le_refl _ | (simp <;> omega)) _)⟩

theorem pack_no (k t c u o : Int) (w : World) (h : isB k t c u o = false) :
    Calls Tryz.prog 70 #[.agg #[.int .i64 k, .int .i64 t, .int .i64 c, .int .i64 u, .int .i64 o]] w fun e w' => e = .returned (.tuple #[.slice none 0 0, .int .i64 2]) ∧ Below w.heap.size w w' := by
  by_cases h1 : k = 1
  · subst h1
    by_cases hn : [t, c, u].all numB = true
    · refine pack_1_other t c u o w hn ?_
      simp [isB] at h hn ⊢
      simpa [hn] using h
    · exact pack_1_bad t c u o w (by simpa using hn)
  by_cases h2 : k = 2
  · subst h2
    by_cases hn : [t, c, o].all numB = true
    · refine pack_2_other t c u o w hn ?_
      simp [isB] at h hn ⊢
      simpa [hn] using h
    · exact pack_2_bad t c u o w (by simpa using hn)
  by_cases h3 : k = 3
  · subst h3
    by_cases hn : [t, c, o].all numB = true
    · refine pack_3_other t c u o w hn ?_
      simp [isB] at h hn ⊢
      simpa [hn] using h
    · exact pack_3_bad t c u o w (by simpa using hn)
  by_cases h4 : k = 4
  · subst h4
    by_cases hn : [c, o].all numB = true
    · by_cases ht : t = 0
      · subst ht
        refine pack_4_other2 c u o w hn ?_
        simp [isB] at h hn ⊢
        simpa [hn] using h
      · exact pack_4_other t c u o w hn (by simpa using ht)
    · exact pack_4_bad t c u o w (by simpa using hn)
  · exact pack_none k t c u o w h1 h2 h3 h4

end Go.Proofs.YtfhncfghblkgeaaGreat
