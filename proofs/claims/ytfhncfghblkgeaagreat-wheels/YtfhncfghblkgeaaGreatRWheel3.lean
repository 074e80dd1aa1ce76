/-
  The reference's timers: what Set and Unset leave.
-/
import Derived.Test.YtfhncfghblkgeaaGreatRWheel2
import Derived.Test.YtfhncfghblkgeaaGreatPlays
import Derived.Test.YtfhncfghblkgeaaGreatRTier
import Derived.Maps.AppendAt
import Derived.Test.YtfhncfghblkgeaaGreatWBase
namespace Go.Proofs.YtfhncfghblkgeaaGreat
open Go.RowKit

/-- The reference's timers: the time, and the timers in the order in which they were set. -/
def rwAt (w : World) (B R : Nat) (now : Int) (v : Value) (L : List (Int × Int)) : Prop :=
  w.heap[R]? = some (.cells #[.int .i64 now, v] 151 (0, 0)) ∧ w.ownsRow B 131 2 v L.length (flatT L)

/-- What a call leaves of them; all else is as it was. -/
def rwAns (w w' : World) (B R : Nat) (v : Value) (now : Int) (L : List (Int × Int)) : Prop :=
  ∃ v', rwAt w' B R now v' L ∧ Same (fun b => b = R ∨ v.ownBlock = some b) w w' ∧ ∀ k, v'.ownBlock = some k → v.ownBlock = some k ∨ w.heap.size ≤ k

theorem rw_ne {w : World} {B R : Nat} {now : Int} {v : Value} {L : List (Int × Int)} (h : rwAt w B R now v L) : v.ownBlock ≠ some R := by
  intro e
  rcases h.2.2 with ⟨rfl, _⟩ | ⟨g, c, cur, rfl, _, hh, _⟩
  · simp [Value.ownBlock] at e
  · simp [Value.ownBlock] at e
    subst e
    rw [h.1] at hh
    simp at hh

theorem rw_slice {w : World} {B R : Nat} {now : Int} {v : Value} {L : List (Int × Int)} (h : rwAt w B R now v L) : ∃ a c, v = .slice a L.length c := by
  rcases h.2.2 with ⟨rfl, h0⟩ | ⟨g, cap, cur, rfl, _⟩
  · exact ⟨none, 0, by rw [h0]⟩
  · exact ⟨_, _, rfl⟩

theorem rwAns.same {w : World} {B R : Nat} {now : Int} {v : Value} {L : List (Int × Int)} (h : rwAt w B R now v L) {w' : World} (hb : Below w.heap.size w w') : rwAns w w' B R v now L :=
  ⟨v, ⟨(hb.block R (Array.getElem?_eq_some_iff.1 h.1).1).trans h.1, ownsRow_below h.2 hb (Nat.le_refl _)⟩, Same.of_below hb, fun _ hk => .inl hk⟩

theorem rset_end {w w3 : World} {B R : Nat} {now : Int} {v v' : Value} {L : List (Int × Int)} {p : Int × Int} {O : Obj} (h : rwAt w B R now v L) (hown3 : w3.ownsRow B 131 2 v' (L.length + 1) (flatT L ++ [.int .i64 p.1, .int .i64 p.2])) (hg : (w.alloc O).grownBy w3 v.ownBlock) (hat : v'.ownBlock = v.ownBlock ∨ v'.ownBlock = some (w.alloc O).heap.size) :
    rwAns w (w3.setCell ⟨R, 1, none⟩ v') B R v now (L ++ [p]) := by
  have hR : R < w.heap.size := (Array.getElem?_eq_some_iff.1 h.1).1
  have hkeep : ∀ k, k < w.heap.size → v.ownBlock ≠ some k → w3.heap[k]? = w.heap[k]? := fun k hk hn => (hg.block k (by simp; omega) (fun e => hn e.symm)).trans (Below.heap_alloc w O k hk)
  have hR3 : w3.heap[R]? = some (.cells #[.int .i64 now, v] 151 (0, 0)) := (hkeep R hR (rw_ne h)).trans h.1
  have hne : v'.ownBlock ≠ some R := by
    intro e
    rcases hat with e' | e'
    · exact rw_ne h (e'.symm.trans e)
    · rw [e] at e'; simp at e'; omega
  refine ⟨v', ⟨?_, ?_⟩, ?_, ?_⟩
  · rw [Joins.block_setCell hR3]; rfl
  · rw [flatT_snoc, List.length_append, List.length_singleton]
    refine ⟨hown3.1, hown3.2.imp id ?_⟩
    rintro ⟨g, cap, cur, hv, hb, hh, hr⟩
    refine ⟨g, cap, cur, hv, hb, ?_, hr⟩
    rw [Below.heap_setCell _ ⟨R, 1, none⟩ _ _ (fun e => hne (by rw [hv]; simp [Value.ownBlock]; exact e))]
    exact hh
  · have hsz : w.heap.size ≤ w3.heap.size := by have := hg.size; simp at this; omega
    refine ⟨hg.os, hg.tape, hg.output, by simpa [World.setCell] using hsz, fun k hk hn => ?_⟩
    rw [Below.heap_setCell _ ⟨R, 1, none⟩ _ _ (fun e => hn (.inl e)), hkeep k hk (fun e => hn (.inr e))]
  · intro k hk
    rcases hat with e' | e'
    · exact .inl (e'.symm.trans hk)
    · rw [e'] at hk; simp at hk; exact .inr (by omega)

set_option maxRecDepth 100000 in
set_option maxHeartbeats 2000000 in
theorem rset_any (B R : Nat) (now : Int) (v : Value) (L : List (Int × Int)) (id at' : Int) (w : World) (h : rwAt w B R now v L) (hB : B ≤ w.heap.size) (hl : L.length * 16 + 16 ≤ 140737488351232) :
    Calls Tryz.prog 76 #[.pointer (some ⟨R, 0, none⟩), .int .i64 id, .int .i64 at'] w fun e w' => e = .returned (.int .i64 (setE now L id at')) ∧ rwAns w w' B R v now (setL now L id at') := by
  obtain ⟨i0, hi, hz0, hz1, hz2⟩ := info_parts Tryz.infoDue
  have HR : Hid (rwAt w B R now v L) := h
  obtain ⟨k0, k1⟩ := rw_cells h.1
  have hRw : R < w.heap.size := (Array.getElem?_eq_some_iff.1 h.1).1
  have HN : Hid (rwAns w w B R v now L) := rwAns.same h (Below.refl _ _)
  by_cases ha : at' ≤ now
  · have HE : Hid (setE now L id at' = 3 ∧ setL now L id at' = L) := by simp [Hid, setE, setL, ha]
    clear h
    go_enter Tryz.func76, Tryz.ntmps76
    go_wp2
    go_ret
    exact ⟨by rw [HE.out.1]; rfl, by rw [HE.out.2]; exact HN.out⟩
  · have HX : Hid (Calls Tryz.prog 114 #[.pointer (some ⟨R, 0, none⟩), .int .i64 id] w fun e w' => e = .returned (.int .i64 (idxT L id)) ∧ w = w') := rindex_any R v L id w k1 (duesAt_of h.2) (by omega)
    have ha' : decide (at' ≤ now) = false := by simpa using ha
    by_cases hx : 0 ≤ idxT L id
    · have HE : Hid (setE now L id at' = 4 ∧ setL now L id at' = L) := by simp [Hid, setE, setL, ha, hx]
      clear h
      generalize idxT L id = x at HX hx
      go_enter Tryz.func76, Tryz.ntmps76
      go_wp2_with (go_at_call 114; refine HX.out.mono ?_; rintro e w1 ⟨rfl, rfl⟩)
      go_wp2
      go_ret
      exact ⟨by rw [HE.out.1]; rfl, by rw [HE.out.2]; exact HN.out⟩
    · have HE : Hid (setE now L id at' = 0 ∧ setL now L id at' = L ++ [(at', id)]) := by simp [Hid, setE, setL, ha, hx]
      obtain ⟨va, vc, rfl⟩ := rw_slice h
      have hown := h.2
      have pf := row_free h.1 1
      generalize idxT L id = x at HX hx
      clear h
      go_enter Tryz.func76, Tryz.ntmps76
      go_wp2_with (first | (go_at_call 114; refine HX.out.mono ?_; rintro e w1 ⟨rfl, rfl⟩) | (at_builtin; refine wpList_append_own_at _ rfl _ _ 129 rfl B 131 i0 (.agg #[.int .i64 0, .int .i64 0]) 2 16 Tryz.underlying129 hi hz0 hz1 hz2 rfl (by decide) _ _ _ rfl (hown.alloc _) ⟨w.heap.size, 0, none⟩ 1 1 [.int .i64 at', .int .i64 id] rfl rfl ?c1 ?c2 ?c3 ?c4 ?c5 ?_))
      case c1 => exact two_new
      case c2 => intro u hu; simp at hu; rcases hu with rfl | rfl <;> rfl
      case c3 => unfold maxLen; omega
      case c4 => omega
      case c5 => simp; omega
      intro v' w3 hown3 hgrow _ hat
      obtain ⟨g3, cap3, rfl⟩ : ∃ g3 cap3, v' = .slice (some ⟨g3, 0, none⟩) (L.length + 1) cap3 := by
        rcases hown3.2 with ⟨_, h0⟩ | ⟨g, cap, cur, hv, _⟩
        · omega
        · exact ⟨_, _, hv⟩
      have hR3 : w3.heap[R]? = some (.cells #[.int .i64 now, .slice va L.length vc] 151 (0, 0)) := (hgrow.block R (by simp; omega) (fun e => rw_ne HR.out e.symm)).trans ((Below.heap_alloc _ _ _ hRw).trans HR.out.1)
      obtain ⟨_, q1⟩ := rw_cells hR3
      have qf := row_free hR3 1
      have HA : Hid (rwAns w (w3.setCell ⟨R, 1, none⟩ (.slice (some ⟨g3, 0, none⟩) (L.length + 1) cap3)) B R (.slice va L.length vc) now (L ++ [(at', id)])) := rset_end HR.out hown3 hgrow (by simpa using hat)
      clear hown3 hgrow hR3 hown hat
      go_wp2
      go_ret
      exact ⟨by rw [HE.out.1]; rfl, by rw [HE.out.2]; exact HA.out⟩

theorem rwAns_new {w w1 : World} {B R : Nat} {now : Int} {v v' : Value} {L L' : List (Int × Int)} (h : rwAt w B R now v L) (hB : B ≤ w.heap.size) (hown : w1.ownsRow w.heap.size 131 2 v' L'.length (flatT L')) (hb : Below w.heap.size w w1) :
    rwAns w (w1.setCell ⟨R, 1, none⟩ v') B R v now L' := by
  have hR : R < w.heap.size := (Array.getElem?_eq_some_iff.1 h.1).1
  have hR1 : w1.heap[R]? = some (.cells #[.int .i64 now, v] 151 (0, 0)) := (hb.block R hR).trans h.1
  refine ⟨v', ⟨?_, ?_⟩, ?_, ?_⟩
  · rw [Joins.block_setCell hR1]; rfl
  · refine ⟨hown.1, hown.2.imp id ?_⟩
    rintro ⟨g, cap, cur, hv, hg, hh, hr⟩
    refine ⟨g, cap, cur, hv, by omega, ?_, hr⟩
    rw [Below.heap_setCell _ ⟨R, 1, none⟩ _ _ (by show g ≠ R; omega)]
    exact hh
  · refine ⟨hb.os, hb.tape, hb.output, by simpa [World.setCell] using hb.size, fun k hk hn => ?_⟩
    rw [Below.heap_setCell _ ⟨R, 1, none⟩ _ _ (fun e => hn (.inl e)), hb.block k hk]
  · exact fun k hk => .inr (World.ownsRow.lt hown k hk).1

set_option maxRecDepth 100000 in
set_option maxHeartbeats 2000000 in
theorem runset_any (B R : Nat) (now : Int) (v : Value) (L : List (Int × Int)) (id : Int) (w : World) (h : rwAt w B R now v L) (hB : B ≤ w.heap.size) (hl : L.length * 16 ≤ 140737488351232) :
    Calls Tryz.prog 78 #[.pointer (some ⟨R, 0, none⟩), .int .i64 id] w fun e w' => e = .returned (.int .i64 (unsetE L id)) ∧ rwAns w w' B R v now (unsetL L id) := by
  have HR : Hid (rwAt w B R now v L) := h
  obtain ⟨k0, k1⟩ := rw_cells h.1
  have hRw : R < w.heap.size := (Array.getElem?_eq_some_iff.1 h.1).1
  have HN : Hid (rwAns w w B R v now L) := rwAns.same h (Below.refl _ _)
  have HX : Hid (Calls Tryz.prog 114 #[.pointer (some ⟨R, 0, none⟩), .int .i64 id] w fun e w' => e = .returned (.int .i64 (idxT L id)) ∧ w = w') := rindex_any R v L id w k1 (duesAt_of h.2) (by omega)
  by_cases hx : idxT L id < 0
  · have HE : Hid (unsetE L id = 5 ∧ unsetL L id = L) := by simp [Hid, unsetE, unsetL, hx]
    clear h
    generalize idxT L id = x at HX hx
    go_enter Tryz.func78, Tryz.ntmps78
    go_wp2_with (go_at_call 114; refine HX.out.mono ?_; rintro e w1 ⟨rfl, rfl⟩)
    go_wp2
    go_ret
    exact ⟨by rw [HE.out.1]; rfl, by rw [HE.out.2]; exact HN.out⟩
  · obtain ⟨q, hq⟩ := Int.eq_ofNat_of_zero_le (show 0 ≤ idxT L id by omega)
    have HE : Hid (unsetE L id = 0 ∧ unsetL L id = L.eraseIdx q) := by simp [Hid, unsetE, unsetL, hq]; intro hc; omega
    have HW : Hid (Calls Tryz.prog 116 #[.pointer (some ⟨R, 0, none⟩), .int .i64 q] w fun e w' => ∃ v', e = .returned v' ∧ w'.ownsRow w.heap.size 131 2 v' (L.eraseIdx q).length (flatT (L.eraseIdx q)) ∧ Below w.heap.size w w') := rwithout_any R v L q w k1 (duesAt_of h.2) hl
    rw [hq] at HX
    clear h hx hq
    go_enter Tryz.func78, Tryz.ntmps78
    go_wp2_with (go_at_call 114; refine HX.out.mono ?_; rintro e w1 ⟨rfl, rfl⟩)
    go_wp2_with (go_at_call 116; refine HW.out.mono ?_; rintro e w1 ⟨v', rfl, ho, hb⟩
                 have HA : Hid (rwAns w (w1.setCell ⟨R, 1, none⟩ v') B R v now (L.eraseIdx q)) := rwAns_new HR.out hB ho hb
                 obtain ⟨va, vc, rfl⟩ := own_slice ho
                 have hR1 : w1.heap[R]? = some (.cells #[.int .i64 now, v] 151 (0, 0)) := (hb.block R hRw).trans HR.out.1
                 have q1 := (rw_cells hR1).2
                 have qf := row_free hR1 1
                 clear hR1 ho hb)
    go_wp2
    go_ret
    exact ⟨by rw [HE.out.1]; rfl, by rw [HE.out.2]; exact HA.out⟩

end Go.Proofs.YtfhncfghblkgeaaGreat
