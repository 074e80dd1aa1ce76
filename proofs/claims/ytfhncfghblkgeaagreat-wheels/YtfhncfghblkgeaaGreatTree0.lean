/-
  The program's trees: lists in the order of their keys. No program.
-/
import Derived.Test.YtfhncfghblkgeaaGreatWBase
namespace Go.Proofs.YtfhncfghblkgeaaGreat
open Go.RowKit

/-- An entry: a key, and what stands under it. -/
abbrev Ent := (Int × Int) × Int

/-- In the order of the keys, no two of one key. -/
def srt (l : List Ent) : Prop := l.Pairwise (fun x y => aheadB x.1 y.1 = true)

theorem ahead_iff (a b : Int × Int) : aheadB a b = true ↔ a.1 < b.1 ∨ (a.1 = b.1 ∧ a.2 < b.2) := aheadB_iff

theorem ahead_not {a b : Int × Int} (h : aheadB a b = true) : aheadB b a = false := by
  rw [← Bool.not_eq_true, ahead_iff]; rw [ahead_iff] at h; omega

theorem ahead_ne {a b : Int × Int} (h : aheadB a b = true) : a ≠ b := by
  rintro rfl; rw [ahead_iff] at h; omega

theorem ahead_trans {a b c : Int × Int} (h1 : aheadB a b = true) (h2 : aheadB b c = true) : aheadB a c = true := by
  rw [ahead_iff] at *; omega

theorem ahead_eq {a b : Int × Int} (h1 : aheadB a b = false) (h2 : aheadB b a = false) : a = b :=
  ahead_antisymm (by simp [h1]) (by simp [h2])

theorem ahead_refl (a : Int × Int) : aheadB a a = false := by
  rw [← Bool.not_eq_true, ahead_iff]; omega

theorem srt_split {A B : List Ent} {x : Ent} : srt (A ++ x :: B) ↔ srt A ∧ srt B ∧ (∀ a ∈ A, aheadB a.1 x.1 = true) ∧ (∀ b ∈ B, aheadB x.1 b.1 = true) := by
  unfold srt
  rw [List.pairwise_append, List.pairwise_cons]
  constructor
  · rintro ⟨h1, ⟨h2, h3⟩, h4⟩
    exact ⟨h1, h3, fun a ha => h4 a ha x (by simp), h2⟩
  · rintro ⟨h1, h2, h3, h4⟩
    refine ⟨h1, ⟨h4, h2⟩, fun a ha b hb => ?_⟩
    rcases List.mem_cons.1 hb with rfl | hb
    · exact h3 a ha
    · exact ahead_trans (h3 a ha) (h4 b hb)

/-- With an entry, in place of one of the same key. -/
def insS (k : Int × Int) (v : Int) (l : List Ent) : List Ent := l.filter (fun e => aheadB e.1 k) ++ (k, v) :: l.filter (fun e => aheadB k e.1)
/-- But the one of a key. -/
def delS (k : Int × Int) (l : List Ent) : List Ent := l.filter (fun e => e.1 != k)
/-- What stands under a key. -/
def getS (k : Int × Int) (l : List Ent) : Option Int := (l.find? (fun e => e.1 == k)).map (·.2)

theorem filter_none {α : Type} {p : α → Bool} {l : List α} (h : ∀ a ∈ l, p a = false) : l.filter p = [] := by
  rw [List.filter_eq_nil_iff]; intro a ha; simp [h a ha]
theorem filter_whole {α : Type} {p : α → Bool} {l : List α} (h : ∀ a ∈ l, p a = true) : l.filter p = l := by
  rw [List.filter_eq_self]; exact h

theorem find_none' {α : Type} {p : α → Bool} {l : List α} (h : ∀ a ∈ l, p a = false) : l.find? p = none := by
  rw [List.find?_eq_none]; intro a ha; simp [h a ha]

theorem ins_left {A B : List Ent} {x : Ent} {k : Int × Int} {v : Int} (hs : srt (A ++ x :: B)) (h : aheadB k x.1 = true) : insS k v (A ++ x :: B) = insS k v A ++ x :: B := by
  obtain ⟨_, _, _, hB⟩ := srt_split.1 hs
  have hb : ∀ b ∈ x :: B, aheadB k b.1 = true := fun b hb => by
    rcases List.mem_cons.1 hb with rfl | hb
    · exact h
    · exact ahead_trans h (hB b hb)
  unfold insS
  rw [List.filter_append, List.filter_append, filter_none (l := x :: B) (fun b m => ahead_not (hb b m)), filter_whole (l := x :: B) hb]
  simp

theorem ins_right {A B : List Ent} {x : Ent} {k : Int × Int} {v : Int} (hs : srt (A ++ x :: B)) (h : aheadB x.1 k = true) : insS k v (A ++ x :: B) = A ++ x :: insS k v B := by
  obtain ⟨_, _, hA, _⟩ := srt_split.1 hs
  have ha : ∀ a ∈ A, aheadB a.1 k = true := fun a m => ahead_trans (hA a m) h
  unfold insS
  rw [List.filter_append, List.filter_append, filter_whole ha, filter_none (l := A) (p := fun e => aheadB k e.1) (fun b m => ahead_not (ha b m))]
  rw [List.filter_cons_of_pos (by simpa using h), List.filter_cons_of_neg (by simpa using ahead_not h)]
  simp

theorem ins_here {A B : List Ent} {x : Ent} {k : Int × Int} {v : Int} (hs : srt (A ++ x :: B)) (h : x.1 = k) : insS k v (A ++ x :: B) = A ++ (k, v) :: B := by
  obtain ⟨_, _, hA, hB⟩ := srt_split.1 hs
  subst h
  unfold insS
  rw [List.filter_append, List.filter_append, filter_whole hA, filter_none (l := A) (p := fun e => aheadB x.1 e.1) (fun b m => ahead_not (hA b m))]
  rw [List.filter_cons_of_neg (by simp [ahead_refl]), List.filter_cons_of_neg (by simp [ahead_refl]), filter_none (l := B) (fun b m => ahead_not (hB b m)), filter_whole hB]
  simp

theorem del_left {A B : List Ent} {x : Ent} {k : Int × Int} (hs : srt (A ++ x :: B)) (h : aheadB k x.1 = true) : delS k (A ++ x :: B) = delS k A ++ x :: B := by
  obtain ⟨_, _, _, hB⟩ := srt_split.1 hs
  unfold delS
  rw [List.filter_append, filter_whole (l := x :: B)]
  intro b hb
  rcases List.mem_cons.1 hb with rfl | hb
  · simpa using (ahead_ne h).symm
  · simpa using (ahead_ne (ahead_trans h (hB b hb))).symm

theorem del_right {A B : List Ent} {x : Ent} {k : Int × Int} (hs : srt (A ++ x :: B)) (h : aheadB x.1 k = true) : delS k (A ++ x :: B) = A ++ x :: delS k B := by
  obtain ⟨_, _, hA, _⟩ := srt_split.1 hs
  unfold delS
  rw [List.filter_append, filter_whole (l := A), List.filter_cons_of_pos (by simpa using ahead_ne h)]
  intro a ha
  simpa using ahead_ne (ahead_trans (hA a ha) h)

theorem del_here {A B : List Ent} {x : Ent} {k : Int × Int} (hs : srt (A ++ x :: B)) (h : x.1 = k) : delS k (A ++ x :: B) = A ++ B := by
  obtain ⟨_, _, hA, hB⟩ := srt_split.1 hs
  subst h
  unfold delS
  rw [List.filter_append, filter_whole (l := A) (fun a m => by simpa using ahead_ne (hA a m)), List.filter_cons_of_neg (by simp), filter_whole (l := B) (fun b m => by simpa using (ahead_ne (hB b m)).symm)]

theorem get_left {A B : List Ent} {x : Ent} {k : Int × Int} (hs : srt (A ++ x :: B)) (h : aheadB k x.1 = true) : getS k (A ++ x :: B) = getS k A := by
  obtain ⟨_, _, _, hB⟩ := srt_split.1 hs
  unfold getS
  rw [List.find?_append, find_none' (l := x :: B)]
  · simp
  · intro b hb
    rcases List.mem_cons.1 hb with rfl | hb
    · simpa using (ahead_ne h).symm
    · simpa using (ahead_ne (ahead_trans h (hB b hb))).symm

theorem get_right {A B : List Ent} {x : Ent} {k : Int × Int} (hs : srt (A ++ x :: B)) (h : aheadB x.1 k = true) : getS k (A ++ x :: B) = getS k B := by
  obtain ⟨_, _, hA, _⟩ := srt_split.1 hs
  unfold getS
  rw [List.find?_append, find_none' (l := A), List.find?_cons_of_neg (by simpa using ahead_ne h)]
  · simp
  · intro a ha
    simpa using ahead_ne (ahead_trans (hA a ha) h)

theorem get_here {A B : List Ent} {x : Ent} {k : Int × Int} (hs : srt (A ++ x :: B)) (h : x.1 = k) : getS k (A ++ x :: B) = some x.2 := by
  obtain ⟨_, _, hA, _⟩ := srt_split.1 hs
  subst h
  unfold getS
  rw [List.find?_append, find_none' (l := A), List.find?_cons_of_pos (by simp)]
  · simp
  · intro a ha
    simpa using ahead_ne (hA a ha)

theorem srt_del {l : List Ent} (k : Int × Int) (h : srt l) : srt (delS k l) := List.Pairwise.sublist List.filter_sublist h

theorem srt_ins {l : List Ent} (k : Int × Int) (v : Int) (h : srt l) : srt (insS k v l) := by
  unfold insS
  rw [srt_split]
  refine ⟨List.Pairwise.sublist List.filter_sublist h, List.Pairwise.sublist List.filter_sublist h, fun a ha => ?_, fun b hb => ?_⟩
  · exact (List.mem_filter.1 ha).2
  · exact (List.mem_filter.1 hb).2

theorem get_none {l : List Ent} {k : Int × Int} : getS k l = none ↔ ∀ e ∈ l, e.1 ≠ k := by
  unfold getS; simp [List.find?_eq_none]

theorem get_some {l : List Ent} {k : Int × Int} {v : Int} (h : getS k l = some v) : (k, v) ∈ l := by
  unfold getS at h
  rw [Option.map_eq_some_iff] at h
  obtain ⟨e, he, rfl⟩ := h
  have := List.find?_some he
  simp at this
  rw [← this]
  exact List.mem_of_find?_eq_some he

/-- Where the key is new, an entry more. -/
theorem ins_perm {l : List Ent} {k : Int × Int} {v : Int} (hn : getS k l = none) : (insS k v l).Perm ((k, v) :: l) := by
  rw [get_none] at hn
  unfold insS
  refine List.perm_middle.trans (List.Perm.cons _ ?_)
  have : l.filter (fun e => aheadB k e.1) = l.filter (fun e => !aheadB e.1 k) := by
    apply List.filter_congr
    intro e he
    cases h1 : aheadB e.1 k
    · cases h2 : aheadB k e.1
      · exact absurd (ahead_eq h1 h2) (hn e he)
      · rfl
    · simp [ahead_not h1]
  rw [this]
  exact List.filter_append_perm _ l

/-- The tree, and the blocks that it lies in. -/
inductive Tr where
  | leaf : Tr
  | node (p : Nat) (l : Tr) (k : Int × Int) (v h : Int) (r : Tr) : Tr

def Tr.addr : Tr → Option Addr
  | .leaf => none
  | .node p .. => some ⟨p, 0, none⟩

theorem Tr.addr_leaf : Tr.leaf.addr = none := rfl
theorem Tr.addr_node (p : Nat) (l r : Tr) (k : Int × Int) (v h : Int) : (Tr.node p l k v h r).addr = some ⟨p, 0, none⟩ := rfl

abbrev Tr.ptr (t : Tr) : Value := .pointer t.addr

def Tr.toL : Tr → List Ent
  | .leaf => []
  | .node _ l k v _ r => l.toL ++ (k, v) :: r.toL

def Tr.has : Tr → Nat → Prop
  | .leaf, _ => False
  | .node p l _ _ _ r, n => n = p ∨ l.has n ∨ r.has n

def Tr.at (w : World) : Tr → Prop
  | .leaf => True
  | .node p l k v h r => w.heap[p]? = some (.cells #[l.ptr, r.ptr, .int .i64 k.1, .int .i64 k.2, .int .i64 v, .int .i64 h] 211 (0, 0)) ∧ l.at w ∧ r.at w

theorem Tr.at_lt {w : World} {n : Nat} : ∀ {t : Tr}, t.at w → t.has n → n < w.heap.size
  | .leaf, _, hh => hh.elim
  | .node _ _ _ _ _ _, ⟨hp, hl, hr⟩, hh => by
    rcases hh with rfl | hh | hh
    · exact (Array.getElem?_eq_some_iff.1 hp).1
    · exact at_lt hl hh
    · exact at_lt hr hh

theorem Tr.at_keep {w w' : World} : ∀ {t : Tr}, t.at w → (∀ n, t.has n → w'.heap[n]? = w.heap[n]?) → t.at w'
  | .leaf, _, _ => trivial
  | .node p _ _ _ _ _, ⟨hp, hl, hr⟩, hk => ⟨(hk p (.inl rfl)).trans hp, at_keep hl (fun n hn => hk n (.inr (.inl hn))), at_keep hr (fun n hn => hk n (.inr (.inr hn)))⟩

theorem Tr.at_below {w w' : World} {t : Tr} (h : t.at w) (hb : Below w.heap.size w w') : t.at w' := t.at_keep h (fun n hn => hb.block n (t.at_lt h hn))

theorem Tr.at_type {w : World} {n : Nat} : ∀ {t : Tr}, t.at w → t.has n → ∃ C, w.heap[n]? = some (.cells C 211 (0, 0))
  | .leaf, _, hh => hh.elim
  | .node _ _ _ _ _ _, ⟨hp, hl, hr⟩, hh => by
    rcases hh with rfl | hh | hh
    · exact ⟨_, hp⟩
    · exact at_type hl hh
    · exact at_type hr hh

/-- A tree that a call makes out of trees whose blocks are in S. -/
def mk (w w' : World) (S : Nat → Prop) (l : List Ent) (t : Tr) : Prop := t.at w' ∧ t.toL = l ∧ Below w.heap.size w w' ∧ ∀ n, t.has n → S n ∨ w.heap.size ≤ n

end Go.Proofs.YtfhncfghblkgeaaGreat
