/-
  The walks: saleref.has, may, is.
-/
import Derived.Test.YtfhncfghblkgeaaGreatTiers
namespace Go.Proofs.YtfhncfghblkgeaaGreat
open Go.RowKit

set_option maxHeartbeats 400000 in
theorem rmay_yes (n : Int) (w : World) :
    Calls Tryz.prog 140 #[.int .i64 n, .bool true] w fun e w' => e = .returned (.bool (numB n)) ∧ w = w' := by
  go_enter Tryz.func140, Tryz.ntmps140
  go_wp2_with (go_at_call 92; refine (rnumber_any _ _).mono ?_; rintro e w' ⟨rfl, rfl⟩)
  go_ret
  exact ⟨rfl, rfl⟩
set_option maxHeartbeats 400000 in
theorem rmay_no (n : Int) (w : World) :
    Calls Tryz.prog 140 #[.int .i64 n, .bool false] w fun e w' => e = .returned (.bool (n == 0)) ∧ w = w' := by
  go_enter Tryz.func140, Tryz.ntmps140
  go_wp2
  go_ret
  exact ⟨rfl, rfl⟩

/-- Which numbers a kind has, as has tells. -/
def hasT (k : Int) : Bool := decide (1 ≤ k) && decide (k ≤ 3)
def hasC (k : Int) : Bool := decide (1 ≤ k) && decide (k ≤ 4)
def hasO (k : Int) : Bool := decide (2 ≤ k) && decide (k ≤ 4)

set_option maxHeartbeats 400000 in
theorem rhas_any (k : Int) (w : World) :
    Calls Tryz.prog 139 #[.int .i64 k] w fun e w' => e = .returned (.tuple #[.bool (hasT k), .bool (hasC k), .bool (k == 1), .bool (hasO k)]) ∧ w = w' := by
  by_cases h1 : 1 ≤ k
  · by_cases h2 : 2 ≤ k
    · go_enter Tryz.func139, Tryz.ntmps139
      go_wp2
      refine bodyPost_ret (v := .tuple #[.bool (hasT k), .bool (hasC k), .bool (k == 1), .bool (hasO k)]) (by simp [results, Tryz.results139, go_sem, hasT, hasC, hasO, h1, h2]) rfl ⟨rfl, rfl⟩
    · have d2 : decide (2 ≤ k) = false := by simpa using h2
      go_enter Tryz.func139, Tryz.ntmps139
      go_wp2
      refine bodyPost_ret (v := .tuple #[.bool (hasT k), .bool (hasC k), .bool (k == 1), .bool (hasO k)]) (by simp [results, Tryz.results139, go_sem, hasT, hasC, hasO, h1, d2]) rfl ⟨rfl, rfl⟩
  · have d1 : decide (1 ≤ k) = false := by simpa using h1
    have d2 : decide (2 ≤ k) = false := by simp; omega
    go_enter Tryz.func139, Tryz.ntmps139
    go_wp2
    refine bodyPost_ret (v := .tuple #[.bool (hasT k), .bool (hasC k), .bool (k == 1), .bool (hasO k)]) (by simp [results, Tryz.results139, go_sem, hasT, hasC, hasO, d1, d2]) rfl ⟨rfl, rfl⟩

/-- May the number be? -/
def mayB (n : Int) (h : Bool) : Bool := if h then numB n else n == 0
theorem mayB_true (n : Int) : mayB n true = numB n := rfl
theorem mayB_false (n : Int) : mayB n false = (n == 0) := rfl
theorem rmay_any (n : Int) (h : Bool) (w : World) : Calls Tryz.prog 140 #[.int .i64 n, .bool h] w fun e w' => e = .returned (.bool (mayB n h)) ∧ w = w' := by
  cases h
  · exact rmay_no n w
  · exact rmay_yes n w
theorem rhas_is (k : Int) (a b c d : Bool) (w : World) (ha : hasT k = a) (hb : hasC k = b) (hc : (k == 1) = c) (hd : hasO k = d) :
    Calls Tryz.prog 139 #[.int .i64 k] w fun e w' => e = .returned (.tuple #[.bool a, .bool b, .bool c, .bool d]) ∧ w = w' := by
  subst ha hb hc hd
  exact rhas_any k w

set_option maxHeartbeats 1000000 in
theorem ris_any (k t c u o : Int) (w : World) :
    Calls Tryz.prog 107 #[.agg #[.int .i64 k, .int .i64 t, .int .i64 c, .int .i64 u, .int .i64 o]] w fun e w' => e = .returned (.bool (isB k t c u o)) ∧ Below w.heap.size w w' := by
  by_cases h1 : k = 1
  · subst h1
    go_enter Tryz.func107, Tryz.ntmps107
    go_wp2_with (first
      | (go_at_call 139; refine (rhas_is 1 true true true false _ rfl rfl rfl rfl).mono ?_; rintro e w' ⟨rfl, rfl⟩)
      | (go_at_call 140; refine (rmay_any _ _ _).mono ?_; rintro e w' ⟨rfl, rfl⟩; simp only [mayB_true, mayB_false]))
    all_goals
      go_ret
      refine ⟨?_, (Below.refl _ _).alloc (Nat.le_refl _) _⟩
      simp [isB, *]
  by_cases h2 : k = 2
  · subst h2
    go_enter Tryz.func107, Tryz.ntmps107
    go_wp2_with (first
      | (go_at_call 139; refine (rhas_is 2 true true false true _ rfl rfl rfl rfl).mono ?_; rintro e w' ⟨rfl, rfl⟩)
      | (go_at_call 140; refine (rmay_any _ _ _).mono ?_; rintro e w' ⟨rfl, rfl⟩; simp only [mayB_true, mayB_false]))
    all_goals
      go_ret
      refine ⟨?_, (Below.refl _ _).alloc (Nat.le_refl _) _⟩
      simp [isB, *]
  by_cases h3 : k = 3
  · subst h3
    go_enter Tryz.func107, Tryz.ntmps107
    go_wp2_with (first
      | (go_at_call 139; refine (rhas_is 3 true true false true _ rfl rfl rfl rfl).mono ?_; rintro e w' ⟨rfl, rfl⟩)
      | (go_at_call 140; refine (rmay_any _ _ _).mono ?_; rintro e w' ⟨rfl, rfl⟩; simp only [mayB_true, mayB_false]))
    all_goals
      go_ret
      refine ⟨?_, (Below.refl _ _).alloc (Nat.le_refl _) _⟩
      simp [isB, *]
  by_cases h4 : k = 4
  · subst h4
    go_enter Tryz.func107, Tryz.ntmps107
    go_wp2_with (first
      | (go_at_call 139; refine (rhas_is 4 false true false true _ rfl rfl rfl rfl).mono ?_; rintro e w' ⟨rfl, rfl⟩)
      | (go_at_call 140; refine (rmay_any _ _ _).mono ?_; rintro e w' ⟨rfl, rfl⟩; simp only [mayB_true, mayB_false]))
    all_goals
      go_ret
      refine ⟨?_, (Below.refl _ _).alloc (Nat.le_refl _) _⟩
      simp [isB, *]
  have hb : isB k t c u o = false := by simp [isB, h1, h2, h3, h4]
  have hC : Hid (hasC k = false) := by unfold Hid hasC; simp; omega
  generalize hT : hasT k = a
  generalize hU : (k == 1) = b
  generalize hO : hasO k = d
  have HH : Hid (∀ w', Calls Tryz.prog 139 #[.int .i64 k] w' fun e w2 => e = .returned (.tuple #[.bool a, .bool false, .bool b, .bool d]) ∧ w' = w2) := fun w' => rhas_is k a false b d w' hT hC.out hU hO
  clear hT hU hO
  go_enter Tryz.func107, Tryz.ntmps107
  go_wp2_with (go_at_call 139; refine (HH.out _).mono ?_; rintro e w' ⟨rfl, rfl⟩)
  go_ret
  exact ⟨by rw [hb]; rfl, (Below.refl _ _).alloc (Nat.le_refl _) _⟩

end Go.Proofs.YtfhncfghblkgeaaGreat
