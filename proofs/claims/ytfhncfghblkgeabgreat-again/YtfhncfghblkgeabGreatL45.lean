import Derived.Test.YtfhncfghblkgeabGreatL44
set_option maxRecDepth 100000
set_option maxHeartbeats 2000000
namespace Go.Proofs.YtfhncfghblkgeabGreat
open Go.RowKit
theorem open_psx {w w' : World} {n0 n1 n2 n3 n4 n5 n6 : Int} {len x : Nat} {ts : List (Int × Int)} (hl : ts.length = len) (hl4 : len ≤ 4) (h : popenAns w w' n0 n1 n2 n3 n4 n5 n6 len ts x) :
 ∃ own, psx 0 x ⟨⟨n0, n1, n2, n3, n4, n5, n6, ts⟩, 0, [], []⟩ 0 w' own ∧ (∀ k, own k → w.heap.size ≤ k) ∧ Below w.heap.size w w' := by
 obtain ⟨xt, ot, xa, oa, g, cp, a1, a2, a3, a4, a5, a6, a7, a8, a9⟩ := h
 have hgl : w.heap.size ≤ g ∧ g < w'.heap.size := World.ownsRow.lt a4 g rfl
 have hxl : x < w'.heap.size := (blt a1)
 refine ⟨fun k => ot k ∨ oa k ∨ k = x ∨ k = g, ⟨⟨⟨n0, n1, n2, n3, n4, n5, n6, ts⟩, 0, 0, 0, [], [], [], 0, [], [], 0, 0, [], 0, [], [], [], 0, some (aq g 0), len, cp, xt, xa⟩, ⟨⟨ot, .leaf, none, 0, .leaf, .leaf, .leaf, oa, .leaf, none, 0⟩, ?_⟩, ?_, ?_, rfl⟩, ?_, a9⟩
 ·refine ⟨a1, ?_, a2, a3, ⟨trivial, rfl⟩, ⟨trivial, rfl⟩, ⟨trivial, rfl⟩, ⟨trivial, rfl⟩, ⟨trivial, rfl⟩, World.ownsRow_nil _ _ _ _, World.ownsRow_nil _ _ _ _, fun k e => ?_, fun k e => ?_, fun k e => ?_, fun k e => ?_, fun k e => ?_⟩
  ·refine ⟨⟨hl, by show len ≤ _; omega⟩, fun _ => ⟨g, 0, rfl, hgl.2, fun i hi => ?_⟩⟩
   have hi' : i < len := hi
   obtain ⟨f0, f1⟩ := flatT_at ts i (by omega)
   have c0 := a4.cells (g := g) rfl _ _ f0
   have c1 := a4.cells (g := g) rfl _ _ f1
   rw [Addr.add_lit] at c0 c1
   exact ⟨c0, by rw [Nat.add_assoc]; exact c1⟩
  ·obtain ⟨off, e⟩ := e
   have e' : k = g := by simp at e; exact e.1.symm
   subst e'
   exact ⟨a7, by simp [Value.ownBlock], by simp [Value.ownBlock]⟩
  ·obtain ⟨b1, b2, b3, b4⟩ := a5 k e
   refine ⟨b4, ?_⟩
   rintro (c | c | c | c | c | c | c | c | ⟨off, c⟩)
   ·exact b2 c
   ·exact c
   ·exact c
   ·exact c
   ·exact c
   ·exact c
   ·simp [Value.ownBlock] at c
   ·simp [Value.ownBlock] at c
   ·have c' : (some ((aq g 0) : Addr)) = some (aq k off) := c
    simp only [Option.some.injEq, Addr.mk.injEq] at c'
    exact b3 c'.1.symm
  ·obtain ⟨b1, b2, b3⟩ := a6 k e
   rintro (c | c | c | c | c | c | c | c | ⟨off, c⟩)
   ·exact b2 c
   ·exact c
   ·exact c
   ·exact c
   ·exact c
   ·exact c
   ·simp [Value.ownBlock] at c
   ·simp [Value.ownBlock] at c
   ·have c' : (some ((aq g 0) : Addr)) = some (aq k off) := c
    simp only [Option.some.injEq, Addr.mk.injEq] at c'
    exact b3 c'.1.symm
  ·rcases e with e | e | e
   ·exact .inl e
   ·exact .inr (.inl e)
   ·rcases e with c | c | c | c | c | c | c | c | ⟨off, c⟩
    ·exact .inr (.inr (.inl c))
    ·exact c.elim
    ·exact c.elim
    ·exact c.elim
    ·exact c.elim
    ·exact c.elim
    ·simp [Value.ownBlock] at c
    ·simp [Value.ownBlock] at c
    ·have c' : (some ((aq g 0) : Addr)) = some (aq k off) := c
     simp only [Option.some.injEq, Addr.mk.injEq] at c'
     exact .inr (.inr (.inr c'.1.symm))
  ·rcases e with e | e | e | e
   ·exact pwW_lt a2 k e
   ·exact pwW_lt a3 k e
   ·rw [e]; exact hxl
   ·rw [e]; exact hgl.2
 ·refine ⟨rfl, rfl, rfl, Int.le_refl _, by unfold onceT; simp, fun p => ?_, fun i e => e.1, fun i hi => by simp at hi, listed_nil, fun o => ?_, turns_nil, sizes_nil, rfl, rfl, ?_, fun o ho => by simp at ho⟩
  ·constructor
   ·intro e; simp at e
   ·rintro ⟨i, e, _⟩; have := e.1; simp at this
  ·constructor
   ·intro e; simp at e
   ·rintro ⟨i, e, _⟩; have := e.1; simp at this
  ·exact ledg_ext ledg_nil (fun st c _ _ => rfl)
 ·refine ⟨by unfold onceT; simp, listed_nil, fun j hj => by simp at hj, fun i j hi => by simp at hi, fun a ha => by simp at ha, fun p => ?_⟩
  constructor
  ·intro e; simp at e
  ·rintro ⟨j, hj, _⟩; simp at hj
 ·rintro k (e | e | e | e)
  ·exact (a5 k e).1
  ·exact (a6 k e).1
  ·rw [e]; exact a8
  ·rw [e]; exact hgl.1
theorem numB_iff {n : Int} (h : numB n = true) : 1 ≤ n ∧ n ≤ 4294967296 := by simpa [numB] using h
theorem openW : OpenOK PSW where
 no := by
  intro w n0 n1 n2 n3 n4 n5 n6 a len cap ts ht hc
  refine open_no n0 n1 n2 n3 n4 n5 n6 a len cap w (fun W hW => ?_)
  have := check_any n0 n1 n2 n3 n4 n5 n6 a len cap ts W (ht.below hW (Nat.le_refl _))
  rw [hc] at this
  exact this
 yes := by
  intro w n0 n1 n2 n3 n4 n5 n6 a len cap ts ht hc
  have hc' := hc
  unfold cfgB at hc'
  simp only [List.all_cons, List.all_nil, Bool.and_true, Bool.and_eq_true] at hc'
  obtain ⟨⟨h0, h1, h2, h3, h4, h5, h6⟩, hp⟩ := hc'
  have hlen : 1 ≤ ts.length ∧ ts.length ≤ 4 := by
   unfold pricesB at hp
   simp only [Bool.and_eq_true, decide_eq_true_eq] at hp
   exact hp.1
  obtain ⟨t1, t2, t3, t4, t5⟩ := id ht
  obtain ⟨b, off, rfl, hb, hcell⟩ := t5 (by intro e; have := hlen.1; rw [e] at this; simp at this)
  refine (open_w n0 n1 n2 n3 n4 n5 n6 b off len cap ts w hb t1 (by omega) ⟨t2, t3⟩ hcell (fun W hW => ?_)).mono ?_
  ·have := check_any n0 n1 n2 n3 n4 n5 n6 (some (aq b off)) len cap ts W (ht.below hW (Nat.le_refl _))
   rw [hc] at this
   exact this
  ·rintro e w' ⟨x, rfl, ha⟩
   obtain ⟨own, p1, p2, p3⟩ := open_psx t1 (by omega) ha
   refine ⟨x, own, rfl, ⟨p1, ⟨⟨fun o ho => by simp at ho, fun q qs c => by simp [queueS, queueT] at c, numB_iff h3, numB_iff h4, numB_iff h5, numB_iff h6, numB_iff h2⟩, ?_, ?_⟩⟩, p2, p3⟩
   ·have := (numB_iff h2).1
    show ((0 : Nat) : Int) ≤ n2
    omega
   ·have := (numB_iff h6).1
    show ((0 : Nat) : Int) ≤ n6
    omega
end Go.Proofs.YtfhncfghblkgeabGreat
