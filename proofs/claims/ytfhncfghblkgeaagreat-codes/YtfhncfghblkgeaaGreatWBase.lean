/-
  Timers, no program: lists of timers, what the calls on them answer, what must be shown of the program's.
-/
import Derived.Test.YtfhncfghblkgeaaGreatLeaf2
import Derived.Lib.SmallJoins
import Derived.Maps.AppendAt
import Derived.Deep.RegionHeld3
namespace Go.Proofs.YtfhncfghblkgeaaGreat
open Go.RowKit


/-- Tiers as cells. -/
def flatT (ts : List (Int × Int)) : List Value := ts.flatMap fun p => [.int .i64 p.1, .int .i64 p.2]

theorem flatT_nil : flatT [] = [] := rfl
theorem flatT_cons (p : Int × Int) (ts : List (Int × Int)) : flatT (p :: ts) = .int .i64 p.1 :: .int .i64 p.2 :: flatT ts := rfl
theorem flatT_app (a b : List (Int × Int)) : flatT (a ++ b) = flatT a ++ flatT b := by simp [flatT]
theorem flatT_len (ts : List (Int × Int)) : (flatT ts).length = ts.length * 2 := by
  induction ts with
  | nil => rfl
  | cons p ts ih => rw [flatT_cons]; simp [ih]; omega
theorem flatT_one (ts : List (Int × Int)) : ∀ v ∈ flatT ts, v.oneCell' = true := by
  intro v hv
  obtain ⟨p, _, hv⟩ := List.mem_flatMap.1 hv
  simp at hv
  rcases hv with rfl | rfl <;> rfl
theorem flatT_at : ∀ (ts : List (Int × Int)) (i : Nat), i < ts.length → (flatT ts)[i * 2]? = some (.int .i64 (ts.getD i (0, 0)).1) ∧ (flatT ts)[i * 2 + 1]? = some (.int .i64 (ts.getD i (0, 0)).2)
  | [], i, h => by simp at h
  | p :: ts, 0, _ => by simp [flatT_cons]
  | p :: ts, i + 1, h => by
    have ih := flatT_at ts i (by simpa using h)
    rw [flatT_cons]
    have e1 : (i + 1) * 2 = i * 2 + 2 := by omega
    rw [e1]
    simpa using ih

theorem row_cell {w : World} {g : Nat} {A Z : List Value} {z : Value} {T : TypeId} (h : w.heap[g]? = some (.cells (A ++ z :: Z).toArray T (0, 0))) {i : Nat} (hi : A.length = i) : w.cell? ⟨g, i, none⟩ = some z := by
  rw [Joins.cell_of_block h]
  subst hi
  simp
theorem row_free {w : World} {g : Nat} {C : Array Value} {T : TypeId} (h : w.heap[g]? = some (.cells C T (0, 0))) (i : Nat) : w.frozen? ⟨g, i, none⟩ = false := Joins.unfrozen_of_block h i
theorem row_store {w : World} {g : Nat} {A Z : List Value} {z : Value} {T : TypeId} (h : w.heap[g]? = some (.cells (A ++ z :: Z).toArray T (0, 0))) {i : Nat} (hi : A.length = i) (v : Value) :
    (w.setCell ⟨g, i, none⟩ v).heap[g]? = some (.cells (A ++ v :: Z).toArray T (0, 0)) := by
  rw [Joins.block_setCell h v]
  subst hi
  simp
theorem row_store2 {w : World} {g : Nat} {A Z : List Value} {z0 z1 : Value} {T : TypeId} (h : w.heap[g]? = some (.cells (A ++ z0 :: z1 :: Z).toArray T (0, 0))) {i : Nat} (hi : A.length = i) (v0 v1 : Value) :
    ((w.setCell ⟨g, i, none⟩ v0).setCell ⟨g, i + 1, none⟩ v1).heap[g]? = some (.cells (A ++ v0 :: v1 :: Z).toArray T (0, 0)) := by
  have h1 := row_store h hi v0
  have h2 : (w.setCell ⟨g, i, none⟩ v0).heap[g]? = some (.cells ((A ++ [v0]) ++ z1 :: Z).toArray T (0, 0)) := by rw [h1]; simp
  have h3 := row_store h2 (i := i + 1) (by simp [hi]) v1
  rw [h3]; simp

/-- What is owned stays owned where nothing below the heap's size is written. -/
theorem ownsRow_below {w w' : World} {base B : Nat} {e : TypeId} {size : Nat} {v : Value} {n : Nat} {xs : List Value} (h : w.ownsRow base e size v n xs) (hb : Below B w w') (hB : w.heap.size ≤ B) : w'.ownsRow base e size v n xs := by
  refine ⟨h.1, ?_⟩
  rcases h.2 with h | ⟨g, cap, cur, h1, h2, h3, h4⟩
  · exact .inl h
  · exact .inr ⟨g, cap, cur, h1, h2, (hb.block g (by have := (Array.getElem?_eq_some_iff.1 h3).1; omega)).trans h3, h4⟩

/-- But for the blocks of own, what was there is as it was. -/
structure Same (own : Nat → Prop) (w w' : World) : Prop where
  os : w'.os = w.os
  tape : w'.tape = w.tape
  output : w'.output = w.output
  size : w.heap.size ≤ w'.heap.size
  block : ∀ k, k < w.heap.size → ¬ own k → w'.heap[k]? = w.heap[k]?

theorem Same.of_below {own : Nat → Prop} {w w' : World} (h : Below w.heap.size w w') : Same own w w' := ⟨h.os, h.tape, h.output, h.size, fun k hk _ => h.block k hk⟩
theorem Same.cell {own : Nat → Prop} {w w' : World} (h : Same own w w') {b o : Nat} (hb : b < w.heap.size) (hn : ¬ own b) : w'.cell? ⟨b, o, none⟩ = w.cell? ⟨b, o, none⟩ := World.cell?_of_block (a := ⟨b, o, none⟩) (h.block b hb hn)


theorem Tryz.infoDue : (Tryz.prog.info? 131).map (fun i => (i.zero, i.size, i.bytes)) = some (some (.agg #[.int .i64 0, .int .i64 0]), 2, 16) := by kernel_rfl

/-- A slice of timers (At, ID) that the reference keeps: its cells. -/
def duesAt (w : World) (v : Value) (L : List (Int × Int)) : Prop :=
  ∃ a c, v = .slice a L.length c ∧ (0 < L.length → ∃ g, a = some ⟨g, 0, none⟩ ∧ g < w.heap.size ∧ ∀ i, i < L.length → w.cell? ⟨g, i * 2, none⟩ = some (.int .i64 (L.getD i (0, 0)).1) ∧ w.cell? ⟨g, i * 2 + 1, none⟩ = some (.int .i64 (L.getD i (0, 0)).2))

theorem duesAt_of {w : World} {B : Nat} {v : Value} {L : List (Int × Int)} {T : TypeId} (h : w.ownsRow B T 2 v L.length (flatT L)) : duesAt w v L := by
  rcases h.2 with ⟨rfl, h0⟩ | ⟨g, cap, cur, rfl, hg, hh, _⟩
  · exact ⟨none, 0, by rw [h0], fun hp => by omega⟩
  · refine ⟨_, _, rfl, fun _ => ⟨g, rfl, (Array.getElem?_eq_some_iff.1 hh).1, fun i hi => ?_⟩⟩
    have hf := flatT_at L i hi
    have c0 := h.cells (g := g) rfl _ _ hf.1
    have c1 := h.cells (g := g) rfl _ _ hf.2
    rw [Addr.add_lit, Nat.zero_add] at c0 c1
    exact ⟨c0, c1⟩

/-- Does a go off ahead of b? -/
def aheadB (a b : Int × Int) : Bool := decide (a.1 < b.1) || (a.1 == b.1 && decide (a.2 < b.2))

theorem all_succP {p : Nat → Prop} {k : Nat} (h : ∀ i, i < k → p i) (hk : p k) : ∀ i, i < k + 1 → p i := by
  intro i hi
  by_cases e : i = k
  · rw [e]; exact hk
  · exact h i (by omega)

/-- The index of the timer of an id: -1: none. -/
def idxT (L : List (Int × Int)) (id : Int) : Int := match L.findIdx? (fun p => p.2 == id) with | some i => (i : Int) | none => -1

theorem idxT_none {L : List (Int × Int)} {id : Int} (h : ∀ i, i < L.length → (L.getD i (0, 0)).2 ≠ id) : idxT L id = -1 := by
  unfold idxT
  have : L.findIdx? (fun p => p.2 == id) = none := by
    rw [List.findIdx?_eq_none_iff]
    intro p hp
    obtain ⟨i, hi, rfl⟩ := List.getElem_of_mem hp
    have := h i hi
    simp [List.getD, List.getElem?_eq_getElem hi] at this
    simpa using this
  rw [this]
theorem idxT_some {L : List (Int × Int)} {id : Int} {k : Nat} (hk : k < L.length) (h : ∀ i, i < k → (L.getD i (0, 0)).2 ≠ id) (he : (L.getD k (0, 0)).2 = id) : idxT L id = k := by
  unfold idxT
  have : L.findIdx? (fun p => p.2 == id) = some k := by
    rw [List.findIdx?_eq_some_iff_getElem]
    refine ⟨hk, ?_, fun j hj => ?_⟩
    · simp [List.getD, List.getElem?_eq_getElem hk] at he
      simpa using he
    · have := h j hj
      simp [List.getD, List.getElem?_eq_getElem (show j < L.length by omega)] at this
      simpa using this
  rw [this]

theorem take_get (L : List (Int × Int)) {j : Nat} (h : j < L.length) : L.take (j + 1) = L.take j ++ [L.getD j (0, 0)] := by
  rw [List.take_succ_eq_append_getElem h]
  simp [List.getD, List.getElem?_eq_getElem h]

theorem flatT_snoc (l : List (Int × Int)) (p : Int × Int) : flatT (l ++ [p]) = flatT l ++ [.int .i64 p.1, .int .i64 p.2] := by rw [flatT_app]; rfl

theorem two_new {w : World} {T : TypeId} {x y : Value} : ∀ j u, ([x, y] : List Value)[j]? = some u → (w.alloc (.cells #[x, y] T)).cell? ((⟨w.heap.size, 0, none⟩ : Addr).add j) = some u := by
  intro j u hu
  rw [Addr.add_lit, Nat.zero_add, Joins.cell_of_block (heap_alloc_new w _)]
  simpa using hu


/-- The index of the timer that goes off first, of the first j: -1: there is none. -/
def leastTo (L : List (Int × Int)) : Nat → Int
  | 0 => -1
  | j + 1 => if leastTo L j < 0 then (j : Int) else if aheadB (L.getD j (0, 0)) (L.getD (leastTo L j).toNat (0, 0)) then (j : Int) else leastTo L j

theorem leastTo_lt (L : List (Int × Int)) : ∀ j, leastTo L j < (j : Int) ∧ -1 ≤ leastTo L j
  | 0 => by simp [leastTo]
  | j + 1 => by
    have := leastTo_lt L j
    unfold leastTo
    split
    · omega
    · split <;> omega

theorem rw_cells {w : World} {R : Nat} {c0 c1 : Value} {T : TypeId} (h : w.heap[R]? = some (.cells #[c0, c1] T (0, 0))) : w.cell? ⟨R, 0, none⟩ = some c0 ∧ w.cell? ⟨R, 1, none⟩ = some c1 :=
  ⟨by rw [Joins.cell_of_block h]; rfl, by rw [Joins.cell_of_block h]; rfl⟩

theorem own_slice {w : World} {B n size : Nat} {T : TypeId} {v : Value} {xs : List Value} (h : w.ownsRow B T size v n xs) : ∃ a c, v = .slice a n c := by
  rcases h.2 with ⟨rfl, h0⟩ | ⟨g, cap, cur, rfl, _⟩
  · exact ⟨none, 0, by rw [h0]⟩
  · exact ⟨_, _, rfl⟩

/-- Set: its answer, and the timers behind it. -/
def setE (now : Int) (L : List (Int × Int)) (id at' : Int) : Int := if at' ≤ now then 3 else if 0 ≤ idxT L id then 4 else 0
def setL (now : Int) (L : List (Int × Int)) (id at' : Int) : List (Int × Int) := if at' ≤ now then L else if 0 ≤ idxT L id then L else L ++ [(at', id)]

/-- Unset: its answer, and the timers behind it. -/
def unsetE (L : List (Int × Int)) (id : Int) : Int := if idxT L id < 0 then 5 else 0
def unsetL (L : List (Int × Int)) (id : Int) : List (Int × Int) := if idxT L id < 0 then L else L.eraseIdx (idxT L id).toNat


/-- First: the timer that goes off first, if there is one. -/
def firstT (L : List (Int × Int)) : Int × Int := if leastTo L L.length < 0 then (0, 0) else L.getD (leastTo L L.length).toNat (0, 0)
def firstB (L : List (Int × Int)) : Bool := decide (0 ≤ leastTo L L.length)


/-- Advance: what goes off, in its order, and what is left. -/
def advN (to : Int) : Nat → List (Int × Int) → List (Int × Int) × List (Int × Int)
  | 0, L => ([], L)
  | n + 1, L => if leastTo L L.length < 0 ∨ to < (L.getD (leastTo L L.length).toNat (0, 0)).1 then ([], L)
    else (L.getD (leastTo L L.length).toNat (0, 0) :: (advN to n (L.eraseIdx (leastTo L L.length).toNat)).1, (advN to n (L.eraseIdx (leastTo L L.length).toNat)).2)

def adv (to : Int) (L : List (Int × Int)) : List (Int × Int) × List (Int × Int) := advN to L.length L

theorem adv_stop {to : Int} {L : List (Int × Int)} (h : leastTo L L.length < 0 ∨ to < (L.getD (leastTo L L.length).toNat (0, 0)).1) : adv to L = ([], L) := by
  unfold adv
  cases hn : L.length with
  | zero => rfl
  | succ n => rw [advN, if_pos h]

theorem adv_go {to : Int} {L : List (Int × Int)} {q : Nat} (hq : leastTo L L.length = q) (hl : q < L.length) (h : (L.getD q (0, 0)).1 ≤ to) : adv to L = (L.getD q (0, 0) :: (adv to (L.eraseIdx q)).1, (adv to (L.eraseIdx q)).2) := by
  unfold adv
  have he : (L.eraseIdx q).length = L.length - 1 := List.length_eraseIdx_of_lt hl
  obtain ⟨n, hn⟩ : ∃ n, L.length = n + 1 := ⟨L.length - 1, by omega⟩
  have hf : ¬ (leastTo L L.length < 0 ∨ to < (L.getD (leastTo L L.length).toNat (0, 0)).1) := by rw [hq, Int.toNat_natCast]; omega
  rw [he, hn, Nat.add_sub_cancel, advN, if_neg hf, hq, Int.toNat_natCast]

/-- How long a slice is. -/
def lenOf : Value → Nat
  | .slice _ n _ => n
  | _ => 0

def advE (now to : Int) : Int := if to < now then 3 else 0
def advO (now to : Int) (L : List (Int × Int)) : List (Int × Int) := if to < now then [] else (adv to L).1
def advL (now to : Int) (L : List (Int × Int)) : List (Int × Int) := if to < now then L else (adv to L).2
def advT (now to : Int) : Int := if to < now then now else to


theorem aheadB_iff {a b : Int × Int} : aheadB a b = true ↔ a.1 < b.1 ∨ (a.1 = b.1 ∧ a.2 < b.2) := by
  simp [aheadB]

theorem not_ahead {a b : Int × Int} : ¬ aheadB a b = true ↔ b.1 < a.1 ∨ (b.1 = a.1 ∧ b.2 ≤ a.2) := by
  rw [aheadB_iff]; omega

theorem ahead_antisymm {a b : Int × Int} (h1 : ¬ aheadB a b = true) (h2 : ¬ aheadB b a = true) : a = b := by
  rw [not_ahead] at h1 h2
  obtain ⟨a1, a2⟩ := a
  obtain ⟨b1, b2⟩ := b
  simp only at h1 h2
  have e1 : a1 = b1 := by omega
  have e2 : a2 = b2 := by omega
  rw [e1, e2]

theorem nahead_trans {a b c : Int × Int} (h1 : ¬ aheadB b a = true) (h2 : ¬ aheadB c b = true) : ¬ aheadB c a = true := by
  rw [not_ahead] at h1 h2 ⊢
  omega

/-- In the order in which they go off. -/
def inOrder (L : List (Int × Int)) : Prop := L.Pairwise fun a b => ¬ aheadB b a = true

theorem inOrder_unique : ∀ {A B : List (Int × Int)}, A.Perm B → inOrder A → inOrder B → A = B
  | [], B, hp, _, _ => (List.nil_perm.1 hp).symm
  | a :: A, [], hp, _, _ => absurd hp.length_eq (by simp)
  | a :: A, b :: B, hp, ha, hb => by
    have ha' := List.pairwise_cons.1 ha
    have hb' := List.pairwise_cons.1 hb
    have e : a = b := by
      have m1 : a ∈ b :: B := hp.mem_iff.1 (by simp)
      have m2 : b ∈ a :: A := hp.mem_iff.2 (by simp)
      rcases List.mem_cons.1 m1 with h | h
      · exact h
      · rcases List.mem_cons.1 m2 with h' | h'
        · exact h'.symm
        · exact ahead_antisymm (hb'.1 a h) (ha'.1 b h')
    subst e
    rw [inOrder_unique (List.perm_cons a |>.1 hp) ha'.2 hb'.2]

theorem leastTo_min (L : List (Int × Int)) : ∀ j, ∀ i, i < j → 0 ≤ leastTo L j ∧ ¬ aheadB (L.getD i (0, 0)) (L.getD (leastTo L j).toNat (0, 0)) = true
  | 0, i, h => by omega
  | j + 1, i, h => by
    have hb := leastTo_lt L j
    unfold leastTo
    by_cases h0 : leastTo L j < 0
    · rw [if_pos h0]
      have hi : i = j := by
        by_cases hi : i < j
        · have := (leastTo_min L j i hi).1; omega
        · omega
      subst hi
      refine ⟨by omega, ?_⟩
      rw [Int.toNat_natCast, not_ahead]
      omega
    · rw [if_neg h0]
      by_cases ha : aheadB (L.getD j (0, 0)) (L.getD (leastTo L j).toNat (0, 0)) = true
      · rw [if_pos ha]
        refine ⟨by omega, ?_⟩
        rw [Int.toNat_natCast]
        by_cases hi : i < j
        · have h1 := (leastTo_min L j i hi).2
          rw [aheadB_iff] at ha
          rw [not_ahead] at h1 ⊢
          omega
        · have : i = j := by omega
          subst this
          rw [not_ahead]; omega
      · rw [if_neg ha]
        refine ⟨by omega, ?_⟩
        by_cases hi : i < j
        · exact (leastTo_min L j i hi).2
        · have : i = j := by omega
          subst this
          exact ha

theorem getD_mem {L : List (Int × Int)} {q : Nat} (h : q < L.length) : L.getD q (0, 0) ∈ L := by
  simp [List.getD, List.getElem?_eq_getElem h]

theorem least_all {L : List (Int × Int)} {p : Int × Int} (hp : p ∈ L) : 0 ≤ leastTo L L.length ∧ (leastTo L L.length).toNat < L.length ∧ ¬ aheadB p (L.getD (leastTo L L.length).toNat (0, 0)) = true := by
  obtain ⟨i, hi, rfl⟩ := List.getElem_of_mem hp
  have h := leastTo_min L L.length i hi
  have hb := leastTo_lt L L.length
  refine ⟨h.1, by omega, ?_⟩
  have := h.2
  rwa [show L.getD i (0, 0) = L[i] by simp [List.getD, List.getElem?_eq_getElem hi]] at this

theorem least_none {L : List (Int × Int)} (h : leastTo L L.length < 0) : L = [] := by
  cases L with
  | nil => rfl
  | cons p L => have := (least_all (p := p) (L := p :: L) (by simp)).1; omega

theorem first_nil : firstT [] = (0, 0) ∧ firstB [] = false := by simp [firstT, firstB, leastTo]
theorem first_some {L : List (Int × Int)} (h : L ≠ []) : firstB L = true ∧ firstT L ∈ L ∧ ∀ p ∈ L, ¬ aheadB p (firstT L) = true := by
  obtain ⟨p, hp⟩ := List.exists_mem_of_ne_nil L h
  have h0 := least_all hp
  have he : firstT L = L.getD (leastTo L L.length).toNat (0, 0) := by unfold firstT; rw [if_neg (by omega)]
  refine ⟨by simp [firstB]; exact h0.1, by rw [he]; exact getD_mem h0.2.1, fun p hp => ?_⟩
  rw [he]
  exact (least_all hp).2.2

/-- The first of all is one, in whatever order the timers are kept. -/
theorem first_unique {L L' : List (Int × Int)} (hp : L.Perm L') {p : Int × Int} (hm : p ∈ L') (hf : ∀ r ∈ L', ¬ aheadB r p = true) : firstB L = true ∧ firstT L = p := by
  have hL : p ∈ L := hp.mem_iff.2 hm
  have h := first_some (L := L) (fun e => by rw [e] at hL; simp at hL)
  exact ⟨h.1, ahead_antisymm (hf _ (hp.mem_iff.1 h.2.1)) (h.2.2 p hL)⟩

theorem perm_eraseIdx {L : List (Int × Int)} {q : Nat} (h : q < L.length) : L.Perm (L.getD q (0, 0) :: L.eraseIdx q) := by
  have e : L.getD q (0, 0) = L[q] := by simp [List.getD, List.getElem?_eq_getElem h]
  rw [e]
  induction L generalizing q with
  | nil => simp at h
  | cons a L ih =>
    cases q with
    | zero => simp
    | succ q =>
      have hq : q < L.length := by simpa using h
      simp only [List.getElem_cons_succ, List.eraseIdx_cons_succ]
      exact ((ih hq (by simp [List.getD, List.getElem?_eq_getElem hq])).cons a).trans (List.Perm.swap _ _ _)

theorem filter_eraseIdx {L : List (Int × Int)} {q : Nat} (h : q < L.length) {f : Int × Int → Bool} (hf : f (L.getD q (0, 0)) = false) : (L.eraseIdx q).filter f = L.filter f := by
  induction L generalizing q with
  | nil => simp at h
  | cons a L ih =>
    cases q with
    | zero => simp at hf; simp [hf]
    | succ q =>
      have hq : q < L.length := by simpa using h
      have : f (L.getD q (0, 0)) = false := by simpa using hf
      simp only [List.eraseIdx_cons_succ, List.filter_cons, ih hq this]

/-- What Advance leaves, and what goes off. -/
theorem adv_spec (to : Int) : ∀ n (L : List (Int × Int)), L.length = n → (adv to L).2 = L.filter (fun p => decide (to < p.1)) ∧ (adv to L).1.Perm (L.filter (fun p => decide (p.1 ≤ to))) ∧ inOrder (adv to L).1
  | 0, L, hn => by
    have : L = [] := List.length_eq_zero_iff.1 hn
    subst this
    exact ⟨rfl, .refl _, .nil⟩
  | n + 1, L, hn => by
    obtain ⟨p, hp⟩ := List.exists_mem_of_ne_nil L (fun e => by rw [e] at hn; simp at hn)
    have h0 := least_all hp
    obtain ⟨q, hq⟩ := Int.eq_ofNat_of_zero_le h0.1
    have hql : q < L.length := by have := h0.2.1; rw [hq, Int.toNat_natCast] at this; exact this
    have hmin : ∀ r ∈ L, ¬ aheadB r (L.getD q (0, 0)) = true := fun r hr => by have := (least_all hr).2.2; rwa [hq, Int.toNat_natCast] at this
    by_cases ht : to < (L.getD q (0, 0)).1
    · rw [adv_stop (.inr (by rw [hq, Int.toNat_natCast]; exact ht))]
      have hall : ∀ r ∈ L, to < r.1 := fun r hr => by have := hmin r hr; rw [not_ahead] at this; omega
      refine ⟨?_, ?_, .nil⟩
      · exact (List.filter_eq_self.2 (fun r hr => by simpa using hall r hr)).symm
      · rw [List.filter_eq_nil_iff.2 (fun r hr => by have := hall r hr; simp; omega)]
    · rw [adv_go hq hql (by omega)]
      have hle : (L.eraseIdx q).length = n := by rw [List.length_eraseIdx_of_lt hql]; omega
      obtain ⟨i1, i2, i3⟩ := adv_spec to n (L.eraseIdx q) hle
      have hpe := perm_eraseIdx hql
      refine ⟨?_, ?_, ?_⟩
      · simp only
        rw [i1, filter_eraseIdx hql (by simpa using ht)]
      · refine (i2.cons _).trans ?_
        refine List.Perm.trans ?_ (hpe.filter _).symm
        rw [List.filter_cons, if_pos (decide_eq_true (by omega))]
      · refine List.pairwise_cons.2 ⟨fun r hr => ?_, i3⟩
        have : r ∈ L.eraseIdx q := (List.mem_filter.1 (i2.mem_iff.1 hr)).1
        exact hmin r (List.mem_of_mem_eraseIdx this)

/-- Whoever tells just those that are due, in their order, tells what the reference tells. -/
theorem adv_unique {to : Int} {L L' o : List (Int × Int)} (hp : L.Perm L') (ho : o.Perm (L'.filter (fun p => decide (p.1 ≤ to)))) (hs : inOrder o) : (adv to L).1 = o :=
  inOrder_unique ((adv_spec to _ L rfl).2.1.trans ((hp.filter _).trans ho.symm)) (adv_spec to _ L rfl).2.2 hs

theorem adv_left {to : Int} {L : List (Int × Int)} : (adv to L).2 = L.filter (fun p => decide (to < p.1)) := (adv_spec to _ L rfl).1

/-- The ids are each there once. -/
def onceT (L : List (Int × Int)) : Prop := (L.map (·.2)).Nodup

theorem idxT_mem {L : List (Int × Int)} {id : Int} : 0 ≤ idxT L id ↔ ∃ p ∈ L, p.2 = id := by
  unfold idxT
  cases h : L.findIdx? (fun p => p.2 == id) with
  | none =>
    rw [List.findIdx?_eq_none_iff] at h
    refine ⟨fun h' => by simp at h', ?_⟩
    rintro ⟨p, hp, rfl⟩
    have := h p hp
    simp at this
  | some i =>
    rw [List.findIdx?_eq_some_iff_getElem] at h
    obtain ⟨hi, hp, _⟩ := h
    exact ⟨fun _ => ⟨L[i], List.getElem_mem hi, by simpa using hp⟩, fun _ => by simp⟩

theorem idxT_at {L : List (Int × Int)} {id : Int} (h : 0 ≤ idxT L id) : (idxT L id).toNat < L.length ∧ (L.getD (idxT L id).toNat (0, 0)).2 = id := by
  unfold idxT at h ⊢
  cases hf : L.findIdx? (fun p => p.2 == id) with
  | none => rw [hf] at h; simp at h
  | some i =>
    rw [List.findIdx?_eq_some_iff_getElem] at hf
    obtain ⟨hi, hp, _⟩ := hf
    refine ⟨by simpa using hi, ?_⟩
    simp [List.getD, List.getElem?_eq_getElem hi]
    simpa using hp

theorem idxT_perm {L L' : List (Int × Int)} (hp : L.Perm L') (id : Int) : 0 ≤ idxT L id ↔ 0 ≤ idxT L' id := by
  rw [idxT_mem, idxT_mem]
  exact ⟨fun ⟨p, h, e⟩ => ⟨p, hp.mem_iff.1 h, e⟩, fun ⟨p, h, e⟩ => ⟨p, hp.mem_iff.2 h, e⟩⟩

theorem onceT_perm {L L' : List (Int × Int)} (hp : L.Perm L') (h : onceT L) : onceT L' := (hp.map _).nodup_iff.1 h
theorem onceT_filter {L : List (Int × Int)} (f : Int × Int → Bool) (h : onceT L) : onceT (L.filter f) := List.Nodup.sublist (List.Sublist.map _ List.filter_sublist) h

theorem unsetL_eq {L : List (Int × Int)} {id : Int} (h : onceT L) : unsetL L id = L.filter (fun p => p.2 != id) := by
  unfold unsetL
  by_cases hx : idxT L id < 0
  · rw [if_pos hx]
    refine (List.filter_eq_self.2 fun p hp => ?_).symm
    have : p.2 ≠ id := fun e => by have := idxT_mem.2 ⟨p, hp, e⟩; omega
    simpa using this
  · rw [if_neg hx]
    obtain ⟨h1, h2⟩ := idxT_at (show 0 ≤ idxT L id by omega)
    have hpe := perm_eraseIdx h1
    rw [← filter_eraseIdx h1 (f := fun p => p.2 != id) (by rw [h2]; simp)]
    refine (List.filter_eq_self.2 fun p hp => ?_).symm
    have hn := onceT_perm hpe h
    unfold onceT at hn
    rw [List.map_cons, List.nodup_cons, h2] at hn
    have : p.2 ≠ id := fun e => hn.1 (List.mem_map.2 ⟨p, hp, e⟩)
    simpa using this

theorem onceT_set {now : Int} {L : List (Int × Int)} {id at' : Int} (h : onceT L) : onceT (setL now L id at') := by
  unfold setL
  split
  · exact h
  · split
    · exact h
    · rename_i hx
      have hn : id ∉ L.map (·.2) := fun hm => by
        obtain ⟨p, hp, e⟩ := List.mem_map.1 hm
        exact hx (idxT_mem.2 ⟨p, hp, e⟩)
      have : onceT ((at', id) :: L) := by unfold onceT; rw [List.map_cons, List.nodup_cons]; exact ⟨hn, h⟩
      exact onceT_perm (by have := List.perm_append_comm (l₁ := [(at', id)]) (l₂ := L); simpa using this) this

theorem onceT_unset {L : List (Int × Int)} {id : Int} (h : onceT L) : onceT (unsetL L id) := by rw [unsetL_eq h]; exact onceT_filter _ h
theorem onceT_adv {now to : Int} {L : List (Int × Int)} (h : onceT L) : onceT (advL now to L) := by
  unfold advL
  split
  · exact h
  · rw [adv_left]; exact onceT_filter _ h

/-- How long the timers get. -/
theorem setL_len (now : Int) (L : List (Int × Int)) (id at' : Int) : (setL now L id at').length ≤ L.length + 1 := by
  unfold setL
  split
  · omega
  · split
    · omega
    · simp
theorem unsetL_len (L : List (Int × Int)) (id : Int) : (unsetL L id).length ≤ L.length := by
  unfold unsetL
  split
  · omega
  · exact List.length_eraseIdx_le _ _
theorem advL_len (now to : Int) (L : List (Int × Int)) : (advL now to L).length ≤ L.length := by
  unfold advL
  split
  · omega
  · rw [adv_left]; exact List.length_filter_le _ _


/-- The program's timers, whatever they are: a set of timers at x has the blocks of own, the time now, and the timers L (of the reference). -/
structure Timers (PW : World → Nat → (Nat → Prop) → Int → List (Int × Int) → Prop) : Prop where
  lt : ∀ {w x own now L}, PW w x own now L → ∀ k, own k → k < w.heap.size
  keep : ∀ {w w' x own now L}, PW w x own now L → w.heap.size ≤ w'.heap.size → (∀ k, own k → w'.heap[k]? = w.heap[k]?) → PW w' x own now L
  advance : ∀ {w x own now L} (to : Int), PW w x own now L → L.length * 16 + 16 ≤ 140737488351232 →
    Calls Tryz.prog 119 #[.pointer (some ⟨x, 0, none⟩), .int .i64 to] w fun e w' => ∃ out own', e = .returned (.tuple #[out, .int .i64 (advE now to)]) ∧ w'.ownsRow w.heap.size 131 2 out (advO now to L).length (flatT (advO now to L)) ∧
      (advE now to ≠ 0 → out = .slice none 0 0) ∧ PW w' x own' (advT now to) (advL now to L) ∧ Same own w w' ∧ (∀ k, own' k → own k ∨ w.heap.size ≤ k) ∧ (∀ k, out.ownBlock = some k → ¬ own' k)

/-- A block of one type is not the own block of a list of another. -/
theorem own_type {w : World} {B n size R : Nat} {T U : TypeId} {v : Value} {xs : List Value} {C : Array Value} (h : w.ownsRow B T size v n xs) (hR : w.heap[R]? = some (.cells C U (0, 0))) (hT : T ≠ U) : v.ownBlock ≠ some R := by
  intro e
  rcases h.2 with ⟨rfl, _⟩ | ⟨g, c, cur, rfl, _, hh, _⟩
  · simp [Value.ownBlock] at e
  · simp [Value.ownBlock] at e
    subst e
    rw [hR] at hh
    simp at hh
    exact hT hh.2.symm

/-- A list whose block is as it was. -/
theorem owns_keep {w w' : World} {B n size : Nat} {T : TypeId} {v : Value} {xs : List Value} (h : w.ownsRow B T size v n xs) (hk : ∀ k, v.ownBlock = some k → w'.heap[k]? = w.heap[k]?) : w'.ownsRow B T size v n xs := by
  refine ⟨h.1, h.2.imp id ?_⟩
  rintro ⟨g, cap, cur, hv, hg, hh, hr⟩
  exact ⟨g, cap, cur, hv, hg, (hk g (by rw [hv]; rfl)).trans hh, hr⟩

theorem owns_base {w : World} {B B' n size : Nat} {T : TypeId} {v : Value} {xs : List Value} (h : w.ownsRow B T size v n xs) (hB : B' ≤ B) : w.ownsRow B' T size v n xs := by
  refine ⟨h.1, h.2.imp id ?_⟩
  rintro ⟨g, cap, cur, hv, hg, hr⟩
  exact ⟨g, cap, cur, hv, by omega, hr⟩


/-- A call on the program's timers that answers r, and the timers behind it. -/
def pwAns (PW : World → Nat → (Nat → Prop) → Int → List (Int × Int) → Prop) (w w' : World) (x : Nat) (own : Nat → Prop) (now : Int) (L : List (Int × Int)) : Prop :=
  ∃ own', PW w' x own' now L ∧ Same own w w' ∧ ∀ k, own' k → own k ∨ w.heap.size ≤ k

/-- What must be shown of the program's timers. -/
structure TimersAll (PW : World → Nat → (Nat → Prop) → Int → List (Int × Int) → Prop) : Prop extends Timers PW where
  new : ∀ (w : World) (now : Int), Calls Tryz.prog 55 #[.int .i64 now] w fun e w' => ∃ x own, e = .returned (.pointer (some ⟨x, 0, none⟩)) ∧ PW w' x own now [] ∧ (∀ k, own k → w.heap.size ≤ k) ∧ Below w.heap.size w w'
  set : ∀ {w x own now L} (id at' : Int), PW w x own now L → L.length * 16 + 16 ≤ 140737488351232 →
    Calls Tryz.prog 75 #[.pointer (some ⟨x, 0, none⟩), .int .i64 id, .int .i64 at'] w fun e w' => e = .returned (.int .i64 (setE now L id at')) ∧ pwAns PW w w' x own now (setL now L id at')
  unset : ∀ {w x own now L} (id : Int), PW w x own now L → L.length * 16 + 16 ≤ 140737488351232 →
    Calls Tryz.prog 77 #[.pointer (some ⟨x, 0, none⟩), .int .i64 id] w fun e w' => e = .returned (.int .i64 (unsetE L id)) ∧ pwAns PW w w' x own now (unsetL L id)
  first : ∀ {w x own now L}, PW w x own now L → L.length * 16 + 16 ≤ 140737488351232 →
    Calls Tryz.prog 79 #[.pointer (some ⟨x, 0, none⟩)] w fun e w' => e = .returned (.tuple #[.agg #[.int .i64 (firstT L).1, .int .i64 (firstT L).2], .bool (firstB L)]) ∧ pwAns PW w w' x own now L
  size : ∀ {w x own now L}, PW w x own now L → L.length * 16 + 16 ≤ 140737488351232 →
    Calls Tryz.prog 81 #[.pointer (some ⟨x, 0, none⟩)] w fun e w' => e = .returned (.int .i64 L.length) ∧ pwAns PW w w' x own now L

theorem Same.trans {o1 o2 o : Nat → Prop} {w w1 w2 : World} (h1 : Same o1 w w1) (h2 : Same o2 w1 w2) (h : ∀ k, k < w.heap.size → o1 k ∨ o2 k → o k) : Same o w w2 :=
  ⟨h2.os.trans h1.os, h2.tape.trans h1.tape, h2.output.trans h1.output, Nat.le_trans h1.size h2.size, fun k hk hn => (h2.block k (Nat.lt_of_lt_of_le hk h1.size) (fun e => hn (h k hk (.inr e)))).trans (h1.block k hk (fun e => hn (h k hk (.inl e))))⟩

end Go.Proofs.YtfhncfghblkgeaaGreat
