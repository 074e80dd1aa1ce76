/-
  The program's timers: New, drop, Set, Unset. (Written by wheelgen.py.)
-/
import Derived.Test.YtfhncfghblkgeaaGreatWheel0
namespace Go.Proofs.YtfhncfghblkgeaaGreat
open Go.RowKit

theorem putAns_lift {w W w' : World} {x o : Nat} {C : Array Value} {T : TypeId} {s : Int} {t : Tr} {L : List Ent} (h : putAns W w' x o C T s t L) (hb : Below w.heap.size w W) : putAns w w' x o C T s t L := by
  obtain ⟨t', h1, h2, h3, h4, h5⟩ := h
  exact ⟨t', h1, h2, h3, Same.trans (Same.of_below (own := fun _ => False) hb) h4 (fun k _ e => e.elim False.elim id), fun n hn => (h5 n hn).imp id (Nat.le_trans hb.size)⟩

theorem pwAns_lift {PW : World → Nat → (Nat → Prop) → Int → List (Int × Int) → Prop} {w W w' : World} {x : Nat} {own : Nat → Prop} {now : Int} {L : List (Int × Int)} (h : pwAns PW W w' x own now L) (hb : Below w.heap.size w W) : pwAns PW w w' x own now L := by
  obtain ⟨own', h1, h2, h3⟩ := h
  exact ⟨own', h1, Same.trans (Same.of_below (own := fun _ => False) hb) h2 (fun k _ e => e.elim False.elim id), fun k hk => (h3 k hk).imp id (Nat.le_trans hb.size)⟩

/-- Behind a call on both trees. -/
theorem pw_end {w w2 W w' : World} {x : Nat} {own : Nat → Prop} {now s1 s2 n : Int} {ti ti' tt : Tr} {Lt : List Ent} {L' : List (Int × Int)}
    (hown : ∀ k, k = x ∨ ti.has k ∨ tt.has k → own k) (hlt : ∀ k, own k → k < w.heap.size)
    (hx2 : w2.heap[x]? = some (.cells #[.int .i64 now, .pointer ti'.addr, .int .i64 s1, .pointer tt.addr, .int .i64 n] 170 (0, 0))) (ht2 : ti'.at w2) (hs2 : Same (fun b => b = x) w w2) (hh2 : ∀ k, ti'.has k → ti.has k ∨ w.heap.size ≤ k) (hb : Below w2.heap.size w2 W)
    (A2 : putAns W w' x 3 #[.int .i64 now, .pointer ti'.addr, .int .i64 s1, .pointer tt.addr, .int .i64 n] 170 s2 tt Lt)
    (e1 : s1 = L'.length) (e2 : s2 = L'.length) (so1 : srt ti'.toL) (so2 : srt Lt) (p1 : ti'.toL.Perm (L'.map idE)) (p2 : Lt.Perm (L'.map turnE)) (on : onceT L') : pwAns pwW w w' x own now L' := by
  obtain ⟨tt', a1, a2, a3, a4, a5⟩ := A2
  have hsW : Same (fun b => b = x) w W := Same.trans hs2 (Same.of_below (own := fun _ => False) hb) (fun k _ e => e.elim id False.elim)
  have hs : Same (fun b => b = x) w w' := Same.trans hsW a4 (fun k _ e => e.elim id id)
  have hxW := (hb.block x (Array.getElem?_eq_some_iff.1 hx2).1).trans hx2
  have ht' : ti'.at w' := Tr.at_same (ti'.at_below ht2 hb) a4 hxW (by decide)
  subst e1 e2 a3
  refine ⟨fun k => own k ∨ (w.heap.size ≤ k ∧ k < w'.heap.size), ⟨ti', tt', by simpa using a1, ⟨ht', a2⟩, ⟨so1, so2⟩, ⟨p1, p2⟩, on, ?_, ?_⟩, ?_, fun k hk => hk.imp id (fun h => h.1)⟩
  · rintro k (rfl | hk | hk)
    · exact .inl (hown _ (.inl rfl))
    · rcases hh2 k hk with h | h
      · exact .inl (hown k (.inr (.inl h)))
      · exact .inr ⟨h, ti'.at_lt ht' hk⟩
    · rcases a5 k hk with h | h
      · exact .inl (hown k (.inr (.inr h)))
      · exact .inr ⟨Nat.le_trans hsW.size h, tt'.at_lt a2 hk⟩
  · rintro k (h | h)
    · exact Nat.lt_of_lt_of_le (hlt k h) hs.size
    · exact h.2
  · exact ⟨hs.os, hs.tape, hs.output, hs.size, fun k hk hn => hs.block k hk (fun e => hn (hown k (.inl e)))⟩

set_option maxHeartbeats 400000 in
theorem idKey_any (id : Int) (w : World) : Calls Tryz.prog 111 #[.int .i64 id] w fun e w' => e = .returned (.agg #[.int .i64 id, .int .i64 0]) ∧ Below w.heap.size w w' := by
  go_enter Tryz.func111, Tryz.ntmps111
  go_wp2
  exact bodyPost_ret (v := .agg #[.int .i64 id, .int .i64 0]) (by simp [results, Tryz.results111, go_sem]) rfl ⟨rfl, (by repeat (first | exact Below.refl _ _ | assumption | refine Below.drew ?_ | refine below_drawn ?_ _ | refine Below.alloc ?_ (by first | exact Nat.le_refl _ | (simp <;> omega)) _))⟩

set_option maxHeartbeats 400000 in
theorem turnKey_any (id a : Int) (w : World) : Calls Tryz.prog 113 #[.int .i64 id, .int .i64 a] w fun e w' => e = .returned (.agg #[.int .i64 a, .int .i64 id]) ∧ Below w.heap.size w w' := by
  go_enter Tryz.func113, Tryz.ntmps113
  go_wp2
  exact bodyPost_ret (v := .agg #[.int .i64 a, .int .i64 id]) (by simp [results, Tryz.results113, go_sem]) rfl ⟨rfl, (by repeat (first | exact Below.refl _ _ | assumption | refine Below.drew ?_ | refine below_drawn ?_ _ | refine Below.alloc ?_ (by first | exact Nat.le_refl _ | (simp <;> omega)) _))⟩

theorem pw_new {w : World} {now : Int} : pwW (w.alloc (.cells #[.int .i64 now, .pointer none, .int .i64 0, .pointer none, .int .i64 0] 170)) w.heap.size (fun k => k = w.heap.size) now [] :=
  ⟨.leaf, .leaf, heap_alloc_new _ _, ⟨trivial, trivial⟩, ⟨List.Pairwise.nil, List.Pairwise.nil⟩, ⟨List.Perm.refl _, List.Perm.refl _⟩, by simp [onceT], fun k hk => hk.elim id (fun h => h.elim False.elim False.elim), fun k hk => by subst hk; simp⟩

set_option maxHeartbeats 400000 in
theorem new_any (w : World) (now : Int) : Calls Tryz.prog 55 #[.int .i64 now] w fun e w' => ∃ x own, e = .returned (.pointer (some ⟨x, 0, none⟩)) ∧ pwW w' x own now [] ∧ (∀ k, own k → w.heap.size ≤ k) ∧ Below w.heap.size w w' := by
  have HN : Hid (pwW (w.alloc (.cells #[.int .i64 now, .pointer none, .int .i64 0, .pointer none, .int .i64 0] 170)) w.heap.size (fun k => k = w.heap.size) now []) := pw_new
  go_enter Tryz.func55, Tryz.ntmps55
  go_wp2
  go_ret
  exact ⟨_, _, rfl, HN.out, fun k hk => Nat.le_of_eq hk.symm, (by repeat (first | exact Below.refl _ _ | assumption | refine Below.drew ?_ | refine below_drawn ?_ _ | refine Below.alloc ?_ (by first | exact Nat.le_refl _ | (simp <;> omega)) _))⟩

set_option maxRecDepth 100000 in
set_option maxHeartbeats 2000000 in
theorem drop_walk (x : Nat) (id a : Int) (w : World) (Q1 : World → Prop) (Q2 : World → Prop)
    (HI : Hid (∀ W, Below w.heap.size w W → Calls Tryz.prog 111 #[.int .i64 id] W fun e w' => e = .returned (.agg #[.int .i64 id, .int .i64 0]) ∧ Below W.heap.size W w'))
    (HT : Hid (∀ W, Calls Tryz.prog 113 #[.int .i64 id, .int .i64 a] W fun e w' => e = .returned (.agg #[.int .i64 a, .int .i64 id]) ∧ Below W.heap.size W w'))
    (HP1 : Hid (∀ W, Below w.heap.size w W → Calls Tryz.prog 143 #[.pointer (some ⟨x, 1, none⟩), .agg #[.int .i64 id, .int .i64 0]] W fun e w' => e = .returned (.tuple #[]) ∧ Q1 w'))
    (HP2 : Hid (∀ w2, Q1 w2 → ∀ W, Below w2.heap.size w2 W → Calls Tryz.prog 143 #[.pointer (some ⟨x, 3, none⟩), .agg #[.int .i64 a, .int .i64 id]] W fun e w' => e = .returned (.tuple #[]) ∧ Q2 w')) :
    Calls Tryz.prog 115 #[.pointer (some ⟨x, 0, none⟩), .int .i64 id, .int .i64 a] w fun e w' => e = .returned (.tuple #[]) ∧ Q2 w' := by
  go_enter Tryz.func115, Tryz.ntmps115
  go_wp2_with fail
  go_region_held3 (fun _ => True) (trivial) (first
    | (go_at_call 111; refine (HI.out _ (by repeat (first | exact Below.refl _ _ | assumption | refine Below.drew ?_ | refine below_drawn ?_ _ | refine Below.alloc ?_ (by first | exact Nat.le_refl _ | (simp <;> omega)) _))).mono ?_; rintro e w1 ⟨rfl, b1⟩
       have hb1 : Below w.heap.size w w1 := Below.trans (show Below w.heap.size w _ from (by repeat (first | exact Below.refl _ _ | assumption | refine Below.drew ?_ | refine below_drawn ?_ _ | refine Below.alloc ?_ (by first | exact Nat.le_refl _ | (simp <;> omega)) _))) (b1.mono (by simp)))
    | (go_at_call 143; refine (HP1.out _ (by repeat (first | exact Below.refl _ _ | assumption | refine Below.drew ?_ | refine below_drawn ?_ _ | refine Below.alloc ?_ (by first | exact Nat.le_refl _ | (simp <;> omega)) _))).mono ?_; rintro e w2 ⟨rfl, q1⟩))
  go_wp2_with fail
  go_region_held3 (fun _ => True) (trivial) (first
    | (go_at_call 113; refine (HT.out _).mono ?_; rintro e w3 ⟨rfl, b3⟩
       have hb3 : Below w2.heap.size w2 w3 := Below.trans (show Below w2.heap.size w2 _ from (by repeat (first | exact Below.refl _ _ | assumption | refine Below.drew ?_ | refine below_drawn ?_ _ | refine Below.alloc ?_ (by first | exact Nat.le_refl _ | (simp <;> omega)) _))) (b3.mono (by simp)))
    | (go_at_call 143; refine (HP2.out _ q1 _ (by repeat (first | exact Below.refl _ _ | assumption | refine Below.drew ?_ | refine below_drawn ?_ _ | refine Below.alloc ?_ (by first | exact Nat.le_refl _ | (simp <;> omega)) _))).mono ?_; rintro e w4 ⟨rfl, q2⟩))
  go_wp2
  go_end0
  exact ⟨rfl, q2⟩

/-- drop: a timer that is set is gone. -/
theorem drop_any {w : World} {x : Nat} {own : Nat → Prop} {now : Int} {L : List (Int × Int)} (id a : Int) (h : pwW w x own now L) (hm : (a, id) ∈ L) (hl : L.length * 16 + 16 ≤ 140737488351232) :
    Calls Tryz.prog 115 #[.pointer (some ⟨x, 0, none⟩), .int .i64 id, .int .i64 a] w fun e w' => e = .returned (.tuple #[]) ∧ pwAns pwW w w' x own now (L.filter (fun p => p.2 != id)) := by
  obtain ⟨ti, tt, h1, ⟨h2, h2'⟩, ⟨h3, h3'⟩, ⟨h4, h4'⟩, h5, h6, h7⟩ := h
  have hxw : x < w.heap.size := (Array.getElem?_eq_some_iff.1 h1).1
  have hlen := filter_len h5 hm
  obtain ⟨u, hu⟩ := ids_there h4 hm
  obtain ⟨u', hu'⟩ := turns_some h4' hm
  refine drop_walk x id a w (fun w2 => putAns w w2 x 1 #[.int .i64 now, .pointer ti.addr, .int .i64 L.length, .pointer tt.addr, .int .i64 L.length] 170 ((L.length : Int) - 1) ti (delS (id, 0) ti.toL)) _
    (fun W _ => idKey_any id W) (fun W => turnKey_any id a W) (fun W hb => ?_) (fun w2 A1 W hb => ?_)
  · have hxW := (hb.block x hxw).trans h1
    exact (remove_old x 1 _ _ (by decide) ti L.length id 0 u W hxW rfl rfl (ti.at_below h2 hb) h3 hu (by omega)).mono (by rintro e w' ⟨rfl, A⟩; exact ⟨rfl, putAns_lift A hb⟩)
  · obtain ⟨ti', a1, a2, a3, a4, a5⟩ := A1
    have a1' : w2.heap[x]? = some (.cells #[.int .i64 now, .pointer ti'.addr, .int .i64 ((L.length : Int) - 1), .pointer tt.addr, .int .i64 L.length] 170 (0, 0)) := by simpa using a1
    have hxW := (hb.block x (Array.getElem?_eq_some_iff.1 a1').1).trans a1'
    refine (remove_old x 3 _ _ (by decide) tt L.length a id u' W hxW rfl rfl (tt.at_below (Tr.at_same h2' a4 h1 (by decide)) hb) h3' hu' (by omega)).mono ?_
    rintro e w' ⟨rfl, A2⟩
    exact ⟨rfl, pw_end h6 h7 a1' a2 a4 a5 hb A2 (by omega) (by omega) (a3 ▸ srt_del _ h3) (srt_del _ h3') (a3 ▸ ids_del h4) (turns_del h4' h5 hm) (onceT_filter _ h5)⟩

end Go.Proofs.YtfhncfghblkgeaaGreat
