/-
  The program's trees: before, heightOf, join.
-/
import Derived.Test.YtfhncfghblkgeaaGreatTree0
namespace Go.Proofs.YtfhncfghblkgeaaGreat
open Go.RowKit

def keyV (k : Int × Int) : Value := .agg #[.int .i64 k.1, .int .i64 k.2]
def entV (k : Int × Int) (v : Int) : Value := .agg #[.agg #[.int .i64 k.1, .int .i64 k.2], .int .i64 v]

set_option maxHeartbeats 400000 in
theorem before_any (a b : Int × Int) (w : World) :
    Calls Tryz.prog 129 #[.agg #[.int .i64 a.1, .int .i64 a.2], .agg #[.int .i64 b.1, .int .i64 b.2]] w fun e w' => e = .returned (.bool (aheadB a b)) ∧ Below w.heap.size w w' := by
  obtain ⟨a1, a2⟩ := a
  obtain ⟨b1, b2⟩ := b
  simp only
  by_cases h1 : a1 = b1
  · subst h1
    go_enter Tryz.func129, Tryz.ntmps129
    go_wp2
    go_ret
    exact ⟨by simp [aheadB], by repeat (first | exact Below.refl _ _ | refine Below.alloc ?_ (by first | exact Nat.le_refl _ | (simp <;> omega)) _)⟩
  · have d2 : (a1 == b1) = false := by simpa using h1
    go_enter Tryz.func129, Tryz.ntmps129
    go_wp2
    go_ret
    exact ⟨by simp [aheadB, d2], by repeat (first | exact Below.refl _ _ | refine Below.alloc ?_ (by first | exact Nat.le_refl _ | (simp <;> omega)) _)⟩

def Tr.height : Tr → Int
  | .leaf => 0
  | .node _ _ _ _ h _ => h

theorem node_cells {w : World} {R : Nat} {c0 c1 c2 c3 c4 c5 : Value} {T : TypeId} (h : w.heap[R]? = some (.cells #[c0, c1, c2, c3, c4, c5] T (0, 0))) :
    w.cell? ⟨R, 0, none⟩ = some c0 ∧ w.cell? ⟨R, 1, none⟩ = some c1 ∧ w.cell? ⟨R, 2, none⟩ = some c2 ∧ w.cell? ⟨R, 3, none⟩ = some c3 ∧ w.cell? ⟨R, 4, none⟩ = some c4 ∧ w.cell? ⟨R, 5, none⟩ = some c5 :=
  ⟨by rw [Joins.cell_of_block h]; rfl, by rw [Joins.cell_of_block h]; rfl, by rw [Joins.cell_of_block h]; rfl, by rw [Joins.cell_of_block h]; rfl, by rw [Joins.cell_of_block h]; rfl, by rw [Joins.cell_of_block h]; rfl⟩

set_option maxHeartbeats 400000 in
theorem height_any (t : Tr) (w : World) (h : t.at w) :
    Calls Tryz.prog 179 #[t.ptr] w fun e w' => e = .returned (.int .i64 t.height) ∧ w = w' := by
  cases t with
  | leaf =>
    simp only [Tr.ptr, Tr.addr, Tr.height]
    go_enter Tryz.func179, Tryz.ntmps179
    go_wp2
    go_ret
    exact ⟨rfl, rfl⟩
  | node p l k v hh r =>
    obtain ⟨c0, c1, c2, c3, c4, c5⟩ := node_cells h.1
    simp only [Tr.ptr, Tr.addr, Tr.height]
    clear h
    go_enter Tryz.func179, Tryz.ntmps179
    go_wp2
    go_ret
    exact ⟨rfl, rfl⟩

theorem Tr.at_alloc {t : Tr} {w : World} (h : t.at w) (O : Obj) : t.at (w.alloc O) := t.at_below h ((Below.refl _ _).alloc (Nat.le_refl _) _)

/-- What join makes. -/
theorem mk_node {w w1 : World} {l r : Tr} {k : Int × Int} {v h : Int} (hl : l.at w) (hr : r.at w) (hb : Below w.heap.size w w1) {O : Obj} (hO : O = .cells #[l.ptr, r.ptr, .int .i64 k.1, .int .i64 k.2, .int .i64 v, .int .i64 h] 211) :
    mk w (w1.alloc O) (fun n => l.has n ∨ r.has n) (l.toL ++ (k, v) :: r.toL) (.node w1.heap.size l k v h r) := by
  have hb2 : Below w.heap.size w (w1.alloc O) := hb.alloc hb.size _
  refine ⟨⟨?_, l.at_below hl hb2, r.at_below hr hb2⟩, rfl, hb2, ?_⟩
  · rw [heap_alloc_new, hO]
  · rintro n (rfl | hn)
    · exact .inr hb.size
    · exact .inl hn

set_option maxRecDepth 100000 in
set_option maxHeartbeats 1000000 in
theorem join_any (l r : Tr) (k : Int × Int) (v : Int) (w : World) (hl : l.at w) (hr : r.at w) :
    Calls Tryz.prog 164 #[l.ptr, .agg #[.int .i64 k.1, .int .i64 k.2, .int .i64 v], r.ptr] w fun e w' => ∃ t, e = .returned t.ptr ∧ mk w w' (fun n => l.has n ∨ r.has n) (l.toL ++ (k, v) :: r.toL) t := by
  have HH : Hid (∀ (O : Obj) (u : Value), u = l.ptr ∨ u = r.ptr → Calls Tryz.prog 179 #[u] (w.alloc O) fun e w' => (∃ a, e = .returned (.int .i64 a)) ∧ w.alloc O = w') := by
    rintro O u (rfl | rfl)
    · exact (height_any l _ (l.at_alloc hl O)).mono (by rintro e w' ⟨rfl, rfl⟩; exact ⟨⟨_, rfl⟩, rfl⟩)
    · exact (height_any r _ (r.at_alloc hr O)).mono (by rintro e w' ⟨rfl, rfl⟩; exact ⟨⟨_, rfl⟩, rfl⟩)
  have HM : Hid (∀ (O O' : Obj) (h : Int), O' = .cells #[l.ptr, r.ptr, .int .i64 k.1, .int .i64 k.2, .int .i64 v, .int .i64 h] 211 → mk w ((w.alloc O).alloc O') (fun n => l.has n ∨ r.has n) (l.toL ++ (k, v) :: r.toL) (.node (w.heap.size + 1) l k v h r)) := by
    intro O O' h hO
    have := mk_node (w := w) (w1 := w.alloc O) hl hr ((Below.refl _ _).alloc (Nat.le_refl _) _) hO
    simpa using this
  clear hl hr
  simp only [Tr.ptr] at HH HM ⊢
  generalize l.addr = lp at HH HM
  generalize r.addr = rp at HH HM
  generalize k.1 = k1 at HM
  generalize k.2 = k2 at HM
  generalize (l.toL ++ (k, v) :: r.toL) = LL at HM
  go_enter Tryz.func164, Tryz.ntmps164
  go_wp2_with (go_at_call 179; refine (HH.out _ _ ?_).mono ?_; (first | exact .inl rfl | exact .inr rfl); rintro e w1 ⟨⟨a, rfl⟩, rfl⟩)
  all_goals (go_ret; exact ⟨_, rfl, HM.out _ _ _ rfl⟩)

end Go.Proofs.YtfhncfghblkgeaaGreat
