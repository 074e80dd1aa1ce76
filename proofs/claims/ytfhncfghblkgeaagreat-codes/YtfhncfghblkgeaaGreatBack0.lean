/-
  What Back leans on: frames and requests, one for one.
-/
import Derived.Test.YtfhncfghblkgeaaGreatPackAll
import Derived.Test.YtfhncfghblkgeaaGreatUnp
namespace Go.Proofs.YtfhncfghblkgeaaGreat
open Go.RowKit

theorem frame_byte {k t c u o : Int} (h : isB k t c u o = true) : ∀ x ∈ frameB k (numsOf k t c u o), 0 ≤ x ∧ x < 256 := by
  intro x hx
  obtain ⟨_, _, hp⟩ := isB_nums h
  rcases List.mem_cons.1 hx with rfl | hx
  · unfold cnt at hp
    split at hp
    · omega
    · split at hp
      · omega
      · split at hp
        · omega
        · omega
  · obtain ⟨n, _, hx⟩ := List.mem_flatMap.1 hx
    exact code_byte _ x hx

theorem bytesAt_slice {w : World} {B : Nat} {v : Value} {l : List Int} (h : bytesAt w B v l) (hb : ∀ x ∈ l, 0 ≤ x ∧ x < 256) : ∃ g cap, v = .slice (some ⟨g, 0, none⟩) l.length cap ∧ sliceOf w (some ⟨g, 0, none⟩) l.length cap l := by
  obtain ⟨g, cap, rfl, _, hg, hn, hm, hc⟩ := h
  exact ⟨g, cap, rfl, rfl, hn, hm, hb, fun _ => ⟨g, 0, rfl, hg, hc⟩⟩

/-- A frame is that of one request alone. -/
theorem frame_inj {k t c u o k' t' c' u' o' : Int} (h : isB k t c u o = true) (h' : isB k' t' c' u' o' = true) (e : frameB k (numsOf k t c u o) = frameB k' (numsOf k' t' c' u' o')) : k = k' ∧ t = t' ∧ c = c' ∧ u = u' ∧ o = o' := by
  obtain ⟨ha, hl, hp⟩ := isB_nums h
  obtain ⟨ha', hl', _⟩ := isB_nums h'
  rw [frameB_codes, frameB_codes] at e
  simp only [List.cons.injEq] at e
  obtain ⟨rfl, e⟩ := e
  obtain ⟨ms, e1, e2⟩ := codes_prefix ((numsOf k t c u o).map Int.toNat) ((numsOf k t' c' u' o').map Int.toNat) [] (by rw [List.length_map, List.length_map, hl, hl']; exact Nat.le_refl _) (by rw [List.append_nil]; exact e)
  have hms : ms = [] := List.eq_nil_of_length_eq_zero (by have := congrArg List.length e1; rw [List.length_append, List.length_map, List.length_map, hl, hl'] at this; omega)
  subst hms
  have en : numsOf k t c u o = numsOf k t' c' u' o' := by
    rw [← toNat_back _ ha, ← toNat_back _ ha']
    rw [e1]; simp
  unfold numsOf at en
  unfold isB at h h'
  split at en
  · next hk => simp [hk] at en h h'; simp [en, h, h']
  · next hk1 =>
    split at en
    · next hk => simp [hk1, hk] at en h h'; simp [en, h, h']
    · next hk2 =>
      split at en
      · next hk => simp [hk] at en h h'; simp [en, h, h']
      · next hk4 => simp [hk1, hk2, hk4] at h

theorem un_same {k t c u o k' t' c' u' o' err : Int} (h : isB k t c u o = true) (hu : UN (frameB k (numsOf k t c u o)) k' t' c' u' o' err) : k' = k ∧ t' = t ∧ c' = c ∧ u' = u ∧ o' = o ∧ err = 0 := by
  rcases hu with ⟨h0, h1, h2⟩ | ⟨_, _, _, _, _, _, h2⟩
  · obtain ⟨e1, e2, e3, e4, e5⟩ := frame_inj h h1 h2
    exact ⟨e1.symm, e2.symm, e3.symm, e4.symm, e5.symm, h0⟩
  · exact absurd rfl (h2 k t c u o h)

end Go.Proofs.YtfhncfghblkgeaaGreat
