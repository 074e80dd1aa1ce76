/-
  The program's trees: balance. (Written by treegen3.py.)
-/
import Derived.Test.YtfhncfghblkgeaaGreatTree2
namespace Go.Proofs.YtfhncfghblkgeaaGreat
open Go.RowKit

theorem leanRight_makes {w w2 : World} {S : Nat → Prop} {L : List Ent} (p : Nat) (ll lr r : Tr) (lk k : Int × Int) (lv lh v : Int) (hl : Tr.at w2 (.node p ll lk lv lh lr)) (hr : r.at w2) (hb : Below w.heap.size w w2) (hS : ∀ n, Tr.has (.node p ll lk lv lh lr) n ∨ r.has n → S n ∨ w.heap.size ≤ n) (hL : (ll.toL ++ (lk, lv) :: lr.toL) ++ (k, v) :: r.toL = L) :
    makes 180 #[.pointer (some ⟨p, 0, none⟩), .agg #[.int .i64 k.1, .int .i64 k.2, .int .i64 v], .pointer r.addr] w w2 S L := by
  refine makes_of hb (fun W hW => ?_) hL
  have h1 := Tr.at_below hl hW
  have h2 := Tr.at_below hr hW
  cases lr with
  | leaf => exact (leanRight_leaf p ll r lk k lv lh v W h1 h2).mono (by rintro e w' ⟨t, rfl, h⟩; exact ⟨t, rfl, mk_sub h hS⟩)
  | node q tl tk tv th tr => exact (leanRight_node p q tl tr tk tv th ll r lk k lv lh v W h1 h2).mono (by rintro e w' ⟨t, rfl, h⟩; exact ⟨t, rfl, mk_sub h hS⟩)

theorem leanLeft_makes {w w2 : World} {S : Nat → Prop} {L : List Ent} (p : Nat) (l rl rr : Tr) (rk k : Int × Int) (rv rh v : Int) (hl : Tr.at w2 (.node p rl rk rv rh rr)) (hr : l.at w2) (hb : Below w.heap.size w w2) (hS : ∀ n, l.has n ∨ Tr.has (.node p rl rk rv rh rr) n → S n ∨ w.heap.size ≤ n) (hL : l.toL ++ (k, v) :: (rl.toL ++ (rk, rv) :: rr.toL) = L) :
    makes 181 #[.pointer l.addr, .agg #[.int .i64 k.1, .int .i64 k.2, .int .i64 v], .pointer (some ⟨p, 0, none⟩)] w w2 S L := by
  refine makes_of hb (fun W hW => ?_) hL
  have h1 := Tr.at_below hl hW
  have h2 := Tr.at_below hr hW
  cases rl with
  | leaf => exact (leanLeft_leaf p l rr rk k rv rh v W h1 h2).mono (by rintro e w' ⟨t, rfl, h⟩; exact ⟨t, rfl, mk_sub h hS⟩)
  | node q tl tk tv th tr => exact (leanLeft_node p q tl tr tk tv th l rr rk k rv rh v W h1 h2).mono (by rintro e w' ⟨t, rfl, h⟩; exact ⟨t, rfl, mk_sub h hS⟩)

set_option maxRecDepth 100000 in
set_option maxHeartbeats 4000000 in
theorem balance_walk (la ra : Option Addr) (k1 k2 v : Int) (w : World) (S : Nat → Prop) (L : List Ent) (hl : la = none ∨ ∃ p, la = some ⟨p, 0, none⟩) (hr : ra = none ∨ ∃ p, ra = some ⟨p, 0, none⟩)
    (HH : Hid (∀ u W, u = la ∨ u = ra → Below w.heap.size w W → Calls Tryz.prog 179 #[.pointer u] W fun e w' => (∃ a, e = .returned (.int .i64 a)) ∧ W = w'))
    (HR : Hid (la ≠ none → makes 180 #[.pointer la, .agg #[.int .i64 k1, .int .i64 k2, .int .i64 v], .pointer ra] w w S L))
    (HL : Hid (ra ≠ none → makes 181 #[.pointer la, .agg #[.int .i64 k1, .int .i64 k2, .int .i64 v], .pointer ra] w w S L))
    (HJ : Hid (makes 164 #[.pointer la, .agg #[.int .i64 k1, .int .i64 k2, .int .i64 v], .pointer ra] w w S L)) :
    Calls Tryz.prog 165 #[.pointer la, .agg #[.int .i64 k1, .int .i64 k2, .int .i64 v], .pointer ra] w fun e w' => ∃ t : Tr, e = .returned (.pointer t.addr) ∧ mk w w' S L t := by
  rcases hl with rfl | ⟨p, rfl⟩
  · rcases hr with rfl | ⟨q, rfl⟩
    · go_enter Tryz.func165, Tryz.ntmps165
      go_wp2_with (first
        | (go_at_call 179; refine (HH.out _ _ ?_ (by repeat (first | exact Below.refl _ _ | assumption | refine Below.drew ?_ | refine below_drawn ?_ _ | refine Below.alloc ?_ (by first | exact Nat.le_refl _ | (simp <;> omega)) _))).mono ?_; (first | exact .inl rfl | exact .inr rfl); rintro e w1 ⟨⟨a, rfl⟩, rfl⟩)
        | (go_at_call 164; refine (HJ.out _ (by repeat (first | exact Below.refl _ _ | assumption | refine Below.drew ?_ | refine below_drawn ?_ _ | refine Below.alloc ?_ (by first | exact Nat.le_refl _ | (simp <;> omega)) _))).mono ?_; rintro e w1 ⟨t, rfl, m, b⟩)
        | (go_at_call 180; refine (HR.out (by simp) _ (by repeat (first | exact Below.refl _ _ | assumption | refine Below.drew ?_ | refine below_drawn ?_ _ | refine Below.alloc ?_ (by first | exact Nat.le_refl _ | (simp <;> omega)) _))).mono ?_; rintro e w1 ⟨t, rfl, m, b⟩)
        | (go_at_call 181; refine (HL.out (by simp) _ (by repeat (first | exact Below.refl _ _ | assumption | refine Below.drew ?_ | refine below_drawn ?_ _ | refine Below.alloc ?_ (by first | exact Nat.le_refl _ | (simp <;> omega)) _))).mono ?_; rintro e w1 ⟨t, rfl, m, b⟩))
      all_goals (go_ret; exact ⟨_, rfl, m⟩)
    · go_enter Tryz.func165, Tryz.ntmps165
      go_wp2_with (first
        | (go_at_call 179; refine (HH.out _ _ ?_ (by repeat (first | exact Below.refl _ _ | assumption | refine Below.drew ?_ | refine below_drawn ?_ _ | refine Below.alloc ?_ (by first | exact Nat.le_refl _ | (simp <;> omega)) _))).mono ?_; (first | exact .inl rfl | exact .inr rfl); rintro e w1 ⟨⟨a, rfl⟩, rfl⟩)
        | (go_at_call 164; refine (HJ.out _ (by repeat (first | exact Below.refl _ _ | assumption | refine Below.drew ?_ | refine below_drawn ?_ _ | refine Below.alloc ?_ (by first | exact Nat.le_refl _ | (simp <;> omega)) _))).mono ?_; rintro e w1 ⟨t, rfl, m, b⟩)
        | (go_at_call 180; refine (HR.out (by simp) _ (by repeat (first | exact Below.refl _ _ | assumption | refine Below.drew ?_ | refine below_drawn ?_ _ | refine Below.alloc ?_ (by first | exact Nat.le_refl _ | (simp <;> omega)) _))).mono ?_; rintro e w1 ⟨t, rfl, m, b⟩)
        | (go_at_call 181; refine (HL.out (by simp) _ (by repeat (first | exact Below.refl _ _ | assumption | refine Below.drew ?_ | refine below_drawn ?_ _ | refine Below.alloc ?_ (by first | exact Nat.le_refl _ | (simp <;> omega)) _))).mono ?_; rintro e w1 ⟨t, rfl, m, b⟩))
      all_goals (go_ret; exact ⟨_, rfl, m⟩)
  · rcases hr with rfl | ⟨q, rfl⟩
    · go_enter Tryz.func165, Tryz.ntmps165
      go_wp2_with (first
        | (go_at_call 179; refine (HH.out _ _ ?_ (by repeat (first | exact Below.refl _ _ | assumption | refine Below.drew ?_ | refine below_drawn ?_ _ | refine Below.alloc ?_ (by first | exact Nat.le_refl _ | (simp <;> omega)) _))).mono ?_; (first | exact .inl rfl | exact .inr rfl); rintro e w1 ⟨⟨a, rfl⟩, rfl⟩)
        | (go_at_call 164; refine (HJ.out _ (by repeat (first | exact Below.refl _ _ | assumption | refine Below.drew ?_ | refine below_drawn ?_ _ | refine Below.alloc ?_ (by first | exact Nat.le_refl _ | (simp <;> omega)) _))).mono ?_; rintro e w1 ⟨t, rfl, m, b⟩)
        | (go_at_call 180; refine (HR.out (by simp) _ (by repeat (first | exact Below.refl _ _ | assumption | refine Below.drew ?_ | refine below_drawn ?_ _ | refine Below.alloc ?_ (by first | exact Nat.le_refl _ | (simp <;> omega)) _))).mono ?_; rintro e w1 ⟨t, rfl, m, b⟩)
        | (go_at_call 181; refine (HL.out (by simp) _ (by repeat (first | exact Below.refl _ _ | assumption | refine Below.drew ?_ | refine below_drawn ?_ _ | refine Below.alloc ?_ (by first | exact Nat.le_refl _ | (simp <;> omega)) _))).mono ?_; rintro e w1 ⟨t, rfl, m, b⟩))
      all_goals (go_ret; exact ⟨_, rfl, m⟩)
    · go_enter Tryz.func165, Tryz.ntmps165
      go_wp2_with (first
        | (go_at_call 179; refine (HH.out _ _ ?_ (by repeat (first | exact Below.refl _ _ | assumption | refine Below.drew ?_ | refine below_drawn ?_ _ | refine Below.alloc ?_ (by first | exact Nat.le_refl _ | (simp <;> omega)) _))).mono ?_; (first | exact .inl rfl | exact .inr rfl); rintro e w1 ⟨⟨a, rfl⟩, rfl⟩)
        | (go_at_call 164; refine (HJ.out _ (by repeat (first | exact Below.refl _ _ | assumption | refine Below.drew ?_ | refine below_drawn ?_ _ | refine Below.alloc ?_ (by first | exact Nat.le_refl _ | (simp <;> omega)) _))).mono ?_; rintro e w1 ⟨t, rfl, m, b⟩)
        | (go_at_call 180; refine (HR.out (by simp) _ (by repeat (first | exact Below.refl _ _ | assumption | refine Below.drew ?_ | refine below_drawn ?_ _ | refine Below.alloc ?_ (by first | exact Nat.le_refl _ | (simp <;> omega)) _))).mono ?_; rintro e w1 ⟨t, rfl, m, b⟩)
        | (go_at_call 181; refine (HL.out (by simp) _ (by repeat (first | exact Below.refl _ _ | assumption | refine Below.drew ?_ | refine below_drawn ?_ _ | refine Below.alloc ?_ (by first | exact Nat.le_refl _ | (simp <;> omega)) _))).mono ?_; rintro e w1 ⟨t, rfl, m, b⟩))
      all_goals (go_ret; exact ⟨_, rfl, m⟩)

/-- balance makes a tree of both sides and the entry between them. -/
theorem balance_any (l r : Tr) (k : Int × Int) (v : Int) (w : World) (hl : l.at w) (hr : r.at w) :
    Calls Tryz.prog 165 #[.pointer l.addr, .agg #[.int .i64 k.1, .int .i64 k.2, .int .i64 v], .pointer r.addr] w fun e w' => ∃ t : Tr, e = .returned (.pointer t.addr) ∧ mk w w' (fun n => l.has n ∨ r.has n) (l.toL ++ (k, v) :: r.toL) t := by
  have ha : ∀ t : Tr, t.addr = none ∨ ∃ p, t.addr = some ⟨p, 0, none⟩ := by
    intro t
    cases t
    · exact .inl rfl
    · exact .inr ⟨_, rfl⟩
  refine balance_walk _ _ _ _ _ w _ _ (ha l) (ha r) ?_ ?_ ?_ ?_
  · rintro u W (rfl | rfl) hb
    · exact height_all hl W hb
    · exact height_all hr W hb
  · intro hn
    cases l with
    | leaf => exact absurd rfl hn
    | node p ll lk lv lh lr => exact leanRight_makes p ll lr r lk k lv lh v hl hr (Below.refl _ _) (fun n hn => .inl hn) rfl
  · intro hn
    cases r with
    | leaf => exact absurd rfl hn
    | node p rl rk rv rh rr => exact leanLeft_makes p l rl rr rk k rv rh v hr hl (Below.refl _ _) (fun n hn => .inl hn) rfl
  · exact join_makes l r k v hl hr (Below.refl _ _) (fun n hn => .inl hn) rfl

theorem balance_makes {w w2 : World} {S : Nat → Prop} {L : List Ent} (l r : Tr) (k : Int × Int) (v : Int) (hl : l.at w2) (hr : r.at w2) (hb : Below w.heap.size w w2) (hS : ∀ n, l.has n ∨ r.has n → S n ∨ w.heap.size ≤ n) (hL : l.toL ++ (k, v) :: r.toL = L) :
    makes 165 #[.pointer l.addr, .agg #[.int .i64 k.1, .int .i64 k.2, .int .i64 v], .pointer r.addr] w w2 S L :=
  makes_of hb (fun W hW => (balance_any l r k v W (l.at_below hl hW) (r.at_below hr hW)).mono (by rintro e w' ⟨t, rfl, h⟩; exact ⟨t, rfl, mk_sub h hS⟩)) hL

end Go.Proofs.YtfhncfghblkgeaaGreat
