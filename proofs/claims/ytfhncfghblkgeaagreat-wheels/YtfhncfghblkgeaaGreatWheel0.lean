/-
  The program's timers: two trees of one list. No walk.
-/
import Derived.Test.YtfhncfghblkgeaaGreatTree7
namespace Go.Proofs.YtfhncfghblkgeaaGreat
open Go.RowKit

def idE (p : Int × Int) : Ent := ((p.2, 0), p.1)
def turnE (p : Int × Int) : Ent := (p, 0)

/-- The program's timers: a block, the tree of the ids and the tree of the turns. -/
def pwW (w : World) (x : Nat) (own : Nat → Prop) (now : Int) (L : List (Int × Int)) : Prop :=
  ∃ ti tt : Tr, w.heap[x]? = some (.cells #[.int .i64 now, .pointer ti.addr, .int .i64 L.length, .pointer tt.addr, .int .i64 L.length] 170 (0, 0)) ∧ (ti.at w ∧ tt.at w) ∧ (srt ti.toL ∧ srt tt.toL) ∧ (ti.toL.Perm (L.map idE) ∧ tt.toL.Perm (L.map turnE)) ∧ onceT L ∧ (∀ k, k = x ∨ ti.has k ∨ tt.has k → own k) ∧ ∀ k, own k → k < w.heap.size

theorem pwW_lt {w : World} {x : Nat} {own : Nat → Prop} {now : Int} {L : List (Int × Int)} (h : pwW w x own now L) : ∀ k, own k → k < w.heap.size := by
  obtain ⟨_, _, _, _, _, _, _, _, h⟩ := h
  exact h

theorem pwW_keep {w w' : World} {x : Nat} {own : Nat → Prop} {now : Int} {L : List (Int × Int)} (h : pwW w x own now L) (hz : w.heap.size ≤ w'.heap.size) (hk : ∀ k, own k → w'.heap[k]? = w.heap[k]?) : pwW w' x own now L := by
  obtain ⟨ti, tt, h1, h2, h3, h4, h5, h6, h7⟩ := h
  exact ⟨ti, tt, (hk x (h6 x (.inl rfl))).trans h1, ⟨ti.at_keep h2.1 (fun n hn => hk n (h6 n (.inr (.inl hn)))), tt.at_keep h2.2 (fun n hn => hk n (h6 n (.inr (.inr hn))))⟩, h3, h4, h5, h6, fun k hk' => Nat.lt_of_lt_of_le (h7 k hk') hz⟩

theorem Tr.at_same {w w' : World} {t : Tr} {x : Nat} {C : Array Value} {T : TypeId} (h : t.at w) (hs : Same (fun b => b = x) w w') (hx : w.heap[x]? = some (.cells C T (0, 0))) (hT : T ≠ 211) : t.at w' :=
  t.at_keep h (fun n hn => hs.block n (t.at_lt h hn) (fun e => by
    obtain ⟨C', hC⟩ := t.at_type h hn
    have e' : n = x := e
    rw [e', hx] at hC
    simp only [Option.some.injEq, Obj.cells.injEq] at hC
    exact hT hC.2.1))

/-! what the trees tell -/
theorem ids_none {l : List Ent} {L : List (Int × Int)} {id : Int} (hp : l.Perm (L.map idE)) : getS (id, 0) l = none ↔ ¬ 0 ≤ idxT L id := by
  rw [get_none, idxT_mem]
  constructor
  · rintro h ⟨p, hm, rfl⟩
    exact h (idE p) (hp.mem_iff.2 (List.mem_map_of_mem hm)) rfl
  · intro h e he hk
    obtain ⟨p, hm, rfl⟩ := List.mem_map.1 (hp.mem_iff.1 he)
    exact h ⟨p, hm, by simpa [idE] using hk⟩

theorem ids_some {l : List Ent} {L : List (Int × Int)} {id a : Int} (hp : l.Perm (L.map idE)) (h : getS (id, 0) l = some a) : (a, id) ∈ L := by
  obtain ⟨p, hm, he⟩ := List.mem_map.1 (hp.mem_iff.1 (get_some h))
  simp only [idE, Prod.mk.injEq, and_true] at he
  obtain ⟨rfl, rfl⟩ := he
  exact hm

theorem turns_none {l : List Ent} {L : List (Int × Int)} {id a : Int} (hp : l.Perm (L.map turnE)) (h : ¬ 0 ≤ idxT L id) : getS (a, id) l = none := by
  rw [get_none]
  intro e he hk
  obtain ⟨p, hm, rfl⟩ := List.mem_map.1 (hp.mem_iff.1 he)
  exact h (idxT_mem.2 ⟨p, hm, by simp only [turnE] at hk; rw [hk]⟩)

theorem turns_some {l : List Ent} {L : List (Int × Int)} {id a : Int} (hp : l.Perm (L.map turnE)) (h : (a, id) ∈ L) : ∃ u, getS (a, id) l = some u := by
  cases hg : getS (a, id) l with
  | some u => exact ⟨u, rfl⟩
  | none => exact absurd rfl (get_none.1 hg (turnE (a, id)) (hp.mem_iff.2 (List.mem_map_of_mem h)))

theorem ids_there {l : List Ent} {L : List (Int × Int)} {id a : Int} (hp : l.Perm (L.map idE)) (h : (a, id) ∈ L) : ∃ u, getS (id, 0) l = some u := by
  cases hg : getS (id, 0) l with
  | some u => exact ⟨u, rfl⟩
  | none => exact absurd rfl (get_none.1 hg (idE (a, id)) (hp.mem_iff.2 (List.mem_map_of_mem h)))

theorem perm_snoc {l : List Ent} {L : List (Int × Int)} {f : Int × Int → Ent} {p : Int × Int} {k : Int × Int} {v : Int} (hp : l.Perm (L.map f)) (hf : f p = (k, v)) (hn : getS k l = none) : (insS k v l).Perm ((L ++ [p]).map f) := by
  rw [List.map_append, List.map_cons, List.map_nil, hf]
  exact (ins_perm hn).trans ((List.Perm.cons _ hp).trans (List.perm_append_comm (l₁ := [(k, v)])))

theorem once_id {L : List (Int × Int)} (h : onceT L) {p q : Int × Int} (hp : p ∈ L) (hq : q ∈ L) (e : p.2 = q.2) : p = q := by
  unfold onceT at h
  induction L with
  | nil => cases hp
  | cons x xs ih =>
    rw [List.map_cons, List.nodup_cons] at h
    rcases List.mem_cons.1 hp with rfl | hp' <;> rcases List.mem_cons.1 hq with rfl | hq'
    · rfl
    · exact absurd (List.mem_map.2 ⟨q, hq', e.symm⟩) h.1
    · exact absurd (List.mem_map.2 ⟨p, hp', e⟩) h.1
    · exact ih h.2 hp' hq'

theorem ids_del {l : List Ent} {L : List (Int × Int)} {id : Int} (hp : l.Perm (L.map idE)) : (delS (id, 0) l).Perm ((L.filter (fun p => p.2 != id)).map idE) := by
  unfold delS
  refine (hp.filter _).trans ?_
  rw [List.filter_map]
  have : (fun e : Ent => e.1 != (id, 0)) ∘ idE = fun p : Int × Int => p.2 != id := by
    funext p
    show ((p.2, (0 : Int)) != (id, 0)) = (p.2 != id)
    rw [Bool.eq_iff_iff]
    simp
  rw [this]

theorem turns_del {l : List Ent} {L : List (Int × Int)} {id a : Int} (hp : l.Perm (L.map turnE)) (ho : onceT L) (hm : (a, id) ∈ L) : (delS (a, id) l).Perm ((L.filter (fun p => p.2 != id)).map turnE) := by
  unfold delS
  refine (hp.filter _).trans ?_
  rw [List.filter_map]
  have : L.filter ((fun e : Ent => e.1 != (a, id)) ∘ turnE) = L.filter (fun p : Int × Int => p.2 != id) := by
    apply List.filter_congr
    intro p hp'
    show (p != (a, id)) = (p.2 != id)
    rw [Bool.eq_iff_iff, bne_iff_ne, bne_iff_ne]
    exact ⟨fun h e => h (once_id ho hp' hm e), fun h e => h (by rw [e])⟩
  rw [this]

theorem filter_len {L : List (Int × Int)} {id a : Int} (ho : onceT L) (hm : (a, id) ∈ L) : (L.filter (fun p => p.2 != id)).length + 1 = L.length := by
  induction L with
  | nil => cases hm
  | cons x xs ih =>
    have ho' := ho
    unfold onceT at ho
    rw [List.map_cons, List.nodup_cons] at ho
    rcases List.mem_cons.1 hm with rfl | hm'
    · rw [List.filter_cons_of_neg (by simp), filter_whole]
      · rfl
      · intro p hp
        have : p.2 ≠ id := fun e => ho.1 (List.mem_map.2 ⟨p, hp, e⟩)
        simpa using this
    · have : x.2 ≠ id := fun e => ho.1 (List.mem_map.2 ⟨(a, id), hm', e.symm⟩)
      rw [List.filter_cons_of_pos (by simpa using this), List.length_cons, ih ho.2 hm', List.length_cons]

/-- The first of the turns. -/
theorem turns_first {t : Tr} {L : List (Int × Int)} (hp : t.toL.Perm (L.map turnE)) (hs : srt t.toL) : firstB L = decide (t.toL ≠ []) ∧ firstT L = (fstE t).1 ∧ (t.toL ≠ [] → (fstE t).1 ∈ L) := by
  by_cases h0 : t.toL = []
  · have hL : L = [] := by
      rw [h0] at hp
      have := hp.length_eq
      simp at this
      exact List.length_eq_zero_iff.1 this.symm
    subst hL
    simp [first_nil, fstE, h0]
  · obtain ⟨l, hx⟩ := fstE_cons h0
    have hm : (fstE t).1 ∈ L := by
      have : fstE t ∈ t.toL := by rw [hx]; simp
      obtain ⟨p, hm, he⟩ := List.mem_map.1 (hp.mem_iff.1 this)
      rw [← he]
      exact hm
    have hmin : ∀ r ∈ L, ¬ aheadB r (fstE t).1 = true := by
      intro r hr
      have hr' : turnE r ∈ t.toL := hp.mem_iff.2 (List.mem_map_of_mem hr)
      rw [hx] at hr' hs
      rcases List.mem_cons.1 hr' with e | hr'
      · rw [← e, turnE]
        simp [ahead_refl]
      · have := List.rel_of_pairwise_cons hs hr'
        simp only [turnE] at this
        simp [ahead_not this]
    have := first_unique (List.Perm.refl L) hm hmin
    exact ⟨by rw [this.1]; simp [h0], this.2, fun _ => hm⟩

end Go.Proofs.YtfhncfghblkgeaaGreat
