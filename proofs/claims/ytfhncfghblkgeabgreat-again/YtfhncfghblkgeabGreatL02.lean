import Derived.Test.YtfhncfghblkgeabGreatL01
set_option maxRecDepth 100000
set_option maxHeartbeats 2000000
namespace Go.Proofs.YtfhncfghblkgeabGreat
open Go.RowKit
def numB (n : Int) : Bool := decide (1 ≤ n) && decide (n ≤ 4294967296)
theorem ret_int {k : IntKind} {a b : Int} (h : a = b) : Ending.returned (.int k a) = .returned (.int k b) := by rw [h]
theorem code_len9 {n : Nat} (hn : n < 9223372036854775808) : (code n).length ≤ 9 := code_len_le 8 n (Nat.lt_of_lt_of_le hn (by decide))
theorem groups_step {n m j : Nat} (h : ¬ m < 128) (hc : (code n).length + 1 = j + (code m).length) : (code n).length + 1 = j + 1 + (code (m / 128)).length := by
 rw [code_great (n := m) (by omega), List.length_cons] at hc; omega
theorem groups_end {n m j : Nat} (h : m < 128) (hc : (code n).length + 1 = j + (code m).length) : j = (code n).length := by
 have := code_len_one.2 h; omega
def numsOf (k t c u o : Int) : List Int := if k = 1 then [t, c, u] else if k = 2 ∨ k = 3 then [t, c, o] else if k = 4 then [c, o] else []
def isB (k t c u o : Int) : Bool :=
 if k = 1 then numB t && numB c && numB u && o == 0
 else if k = 2 ∨ k = 3 then numB t && numB c && numB o && u == 0
 else if k = 4 then numB c && numB o && t == 0 && u == 0
 else false
theorem Tryz.infoU8 : (Tryz.prog.info? 5).map (fun i => (i.zero, i.size, i.bytes)) = some (some (.int .u8 0), 1, 1) := by kernel_rfl
theorem ownsRow_mono {w : World} {base base' : Nat} {e : TypeId} {size : Nat} {v : Value} {n : Nat} {xs : List Value} (h : w.ownsRow base e size v n xs) (hb : base' ≤ base) : w.ownsRow base' e size v n xs := by
 refine ⟨h.1, ?_⟩
 rcases h.2 with h | ⟨g, cap, cur, h1, h2, h3⟩
 ·exact .inl h
 ·exact .inr ⟨g, cap, cur, h1, Nat.le_trans hb h2, h3⟩
theorem ownsRow_empty (w : World) (base : Nat) (e : TypeId) (hb : base ≤ w.heap.size) : (w.alloc (.cells #[] e)).ownsRow base e 1 (.slice (some (aq w.heap.size 0)) 0 0) 0 [] :=
 World.ownsRow_made w #[] 0 hb (Nat.zero_le _) rfl
theorem code_split_great {n m : Nat} {g : List Int} (h : code n = g ++ code m) (hm : ¬ m < 128) : code n = (g ++ [((m % 128 + 128 : Nat) : Int)]) ++ code (m / 128) := by
 rw [h, code_great (n := m) (by omega)]; simp
theorem number_any (n : Int) (w : World) :
 Calls Tryz.prog 21 #[iv n] w fun e w' => e = .returned (.bool (numB n)) ∧ w = w' := by
 by_cases h : 1 ≤ n
 ·go_enter Tryz.func21, Tryz.ntmps21
  go_wp2
  go_ret
  exact ⟨by simp [numB, h], rfl⟩
 ·have hd : decide (1 ≤ n) = false := by simpa using h
  go_enter Tryz.func21, Tryz.ntmps21
  go_wp2
  go_ret
  exact ⟨by simp [numB, hd], rfl⟩
theorem groups_any (n : Nat) (w : World) (hn : n < 9223372036854775808) :
 Calls Tryz.prog 70 #[iv n] w fun e w' => e = .returned (iv (code n).length) ∧ w = w' := by
 have hl := code_len9 hn
 go_enter Tryz.func70, Tryz.ntmps70
 go_wp2
 go_loop [0, 3] (fun x k => ∃ m j : Nat, m ≤ n ∧ j ≤ 9 ∧ x = iv m ∧ k = iv j ∧ Hid ((code n).length + 1 = j + (code m).length)) (fun x _ => (intOf x).toNat)
 case atStart => exact ⟨n, 1, Nat.le_refl _, by omega, rfl, rfl, by unfold Hid; omega⟩
 case round =>
  obtain ⟨m, j, hm, hj, rfl, rfl, hc⟩ := hrel
  by_cases hlt : m < 128
  ·go_wp2
   go_ret
   exact ⟨ret_int (by rw [groups_end hlt hc]), rfl⟩
  ·have hs := groups_step hlt hc
   have hp := code_pos (m / 128)
   have hj' : j + 1 ≤ 9 := by omega
   have HS : Hid ((code n).length + 1 = j + 1 + (code (m / 128)).length) := hs
   clear hs hp
   go_wp2
   go_round
   case rel => exact ⟨m / 128, j + 1, by omega, by omega, by go_num, by go_num, HS⟩
   case measure => simp [intOf]; omega
theorem is_any (k t c u o : Int) (w : World) :
 Calls Tryz.prog 10 #[.agg #[iv k, iv t, iv c, iv u, iv o]] w fun e w' => e = .returned (.bool (isB k t c u o)) ∧ Below w.heap.size w w' := by
 by_cases h1 : k = 1
 ·subst h1
  go_enter Tryz.func10, Tryz.ntmps10
  go_wp2_with (go_at_call 21; refine (number_any _ _).mono ?_; rintro e w' ⟨rfl, rfl⟩)
  all_goals
   go_ret
   refine ⟨?_, (Below.refl _ _).alloc (Nat.le_refl _) _⟩
   simp [isB, *]
 by_cases h2 : k = 2
 ·subst h2
  go_enter Tryz.func10, Tryz.ntmps10
  go_wp2_with (go_at_call 21; refine (number_any _ _).mono ?_; rintro e w' ⟨rfl, rfl⟩)
  all_goals
   go_ret
   refine ⟨?_, (Below.refl _ _).alloc (Nat.le_refl _) _⟩
   simp [isB, *]
 by_cases h3 : k = 3
 ·subst h3
  go_enter Tryz.func10, Tryz.ntmps10
  go_wp2_with (go_at_call 21; refine (number_any _ _).mono ?_; rintro e w' ⟨rfl, rfl⟩)
  all_goals
   go_ret
   refine ⟨?_, (Below.refl _ _).alloc (Nat.le_refl _) _⟩
   simp [isB, *]
 by_cases h4 : k = 4
 ·subst h4
  go_enter Tryz.func10, Tryz.ntmps10
  go_wp2_with (go_at_call 21; refine (number_any _ _).mono ?_; rintro e w' ⟨rfl, rfl⟩)
  all_goals
   go_ret
   refine ⟨?_, (Below.refl _ _).alloc (Nat.le_refl _) _⟩
   simp [isB, *]
 have e1 : (k == 1) = false := by simpa using h1
 have e2 : (k == 2) = false := by simpa using h2
 have e3 : (k == 3) = false := by simpa using h3
 have e4 : (k == 4) = false := by simpa using h4
 have hb : isB k t c u o = false := by simp [isB, h1, h2, h3, h4]
 go_enter Tryz.func10, Tryz.ntmps10
 go_wp2_with (go_at_call 21; refine (number_any _ _).mono ?_; rintro e w' ⟨rfl, rfl⟩)
 go_ret
 exact ⟨by rw [hb]; rfl, (Below.refl _ _).alloc (Nat.le_refl _) _⟩
theorem numbersOf_1 (t c u o : Int) (w : World) :
 Calls Tryz.prog 63 #[.agg #[iv 1, iv t, iv c, iv u, iv o]] w fun e w' => e = .returned (.slice (some (aq (w.heap.size + 1) 0)) 3 3) ∧
  w' = (w.alloc (.cells #[iv 1, iv t, iv c, iv u, iv o] 39)).alloc (.cells #[iv t, iv c, iv u] 3) := by
 go_enter Tryz.func63, Tryz.ntmps63
 go_wp2
 go_ret
 exact ⟨rfl, rfl⟩
theorem numbersOf_2 (t c u o : Int) (w : World) :
 Calls Tryz.prog 63 #[.agg #[iv 2, iv t, iv c, iv u, iv o]] w fun e w' => e = .returned (.slice (some (aq (w.heap.size + 1) 0)) 3 3) ∧
  w' = (w.alloc (.cells #[iv 2, iv t, iv c, iv u, iv o] 39)).alloc (.cells #[iv t, iv c, iv o] 3) := by
 go_enter Tryz.func63, Tryz.ntmps63
 go_wp2
 go_ret
 exact ⟨rfl, rfl⟩
theorem numbersOf_3 (t c u o : Int) (w : World) :
 Calls Tryz.prog 63 #[.agg #[iv 3, iv t, iv c, iv u, iv o]] w fun e w' => e = .returned (.slice (some (aq (w.heap.size + 1) 0)) 3 3) ∧
  w' = (w.alloc (.cells #[iv 3, iv t, iv c, iv u, iv o] 39)).alloc (.cells #[iv t, iv c, iv o] 3) := by
 go_enter Tryz.func63, Tryz.ntmps63
 go_wp2
 go_ret
 exact ⟨rfl, rfl⟩
theorem numbersOf_4 (t c u o : Int) (w : World) :
 Calls Tryz.prog 63 #[.agg #[iv 4, iv t, iv c, iv u, iv o]] w fun e w' => e = .returned (.slice (some (aq (w.heap.size + 1) 0)) 2 2) ∧
  w' = (w.alloc (.cells #[iv 4, iv t, iv c, iv u, iv o] 39)).alloc (.cells #[iv c, iv o] 3) := by
 go_enter Tryz.func63, Tryz.ntmps63
 go_wp2
 go_ret
 exact ⟨rfl, rfl⟩
theorem numbersOf_no (k t c u o : Int) (w : World) (h1 : ¬ k = 1) (h2 : ¬ k = 2) (h3 : ¬ k = 3) (h4 : ¬ k = 4) :
 Calls Tryz.prog 63 #[.agg #[iv k, iv t, iv c, iv u, iv o]] w fun e w' => e = .returned (.slice none 0 0) ∧
  w' = w.alloc (.cells #[iv k, iv t, iv c, iv u, iv o] 39) := by
 have e1 : (k == 1) = false := by simpa using h1
 have e2 : (k == 2) = false := by simpa using h2
 have e3 : (k == 3) = false := by simpa using h3
 have e4 : (k == 4) = false := by simpa using h4
 go_enter Tryz.func63, Tryz.ntmps63
 go_wp2
 go_ret
 exact ⟨rfl, rfl⟩
theorem all_snoc (ns : List Int) (k : Nat) (h : k < ns.length) {x : Int} (hx : ns.getD k 0 = x) : (ns.take (k + 1)).all numB = ((ns.take k).all numB && numB x) := by
 rw [List.take_succ_eq_append_getElem h, List.all_append]
 simp [List.getD, List.getElem?_eq_getElem h] at hx
 simp [hx]
theorem all_not (ns : List Int) (k : Nat) (h : k < ns.length) {x : Int} (hx : ns.getD k 0 = x) (hn : numB x = false) : ns.all numB = false := by
 rw [List.all_eq_false]
 simp [List.getD, List.getElem?_eq_getElem h] at hx
 exact ⟨ns[k], List.getElem_mem h, by rw [hx, hn]; simp⟩
theorem areNumbers_any (b off cap : Nat) (ns : List Int) (w : World) (hl : ns.length ≤ 100) (hcell : ∀ i, i < ns.length → w.cell? (aq b (off + i)) = some (iv (ns.getD i 0))) :
 Calls Tryz.prog 57 #[.slice (some (aq b off)) ns.length cap] w fun e w' => e = .returned (.bool (ns.all numB)) ∧ w = w' := by
 go_enter Tryz.func57, Tryz.ntmps57
 go_wp2
 go_loop [3] (fun i => ∃ k : Nat, k ≤ ns.length ∧ i = iv k ∧ Hid ((ns.take k).all numB = true)) (fun i => ns.length - (intOf i).toNat)
 case atStart => exact ⟨0, Nat.zero_le _, rfl, by simp [Hid]⟩
 case round =>
  obtain ⟨k, hk, rfl, hall⟩ := hrel
  by_cases hlt : k < ns.length
  ·have hc := hcell k hlt
   have hx : ∃ x, ns.getD k 0 = x := ⟨_, rfl⟩
   obtain ⟨x, hx⟩ := hx
   rw [hx] at hc
   have HX : Hid (ns.getD k 0 = x) := hx
   clear hx
   clear hcell
   by_cases h1 : 1 ≤ x
   ·by_cases h2 : x ≤ 4294967296
    ·go_wp2
     go_round
     case rel => exact ⟨k + 1, by omega, by go_num, by unfold Hid; rw [all_snoc ns k hlt HX.out, hall.out]; simp [numB, h1, h2]⟩
     case measure => simp [intOf]; omega
    ·have HN : Hid (ns.all numB = false) := all_not ns k hlt HX.out (by simp [numB]; omega)
     go_wp2
     go_ret
     exact ⟨by rw [HN.out]; rfl, rfl⟩
   ·have HN : Hid (ns.all numB = false) := all_not ns k hlt HX.out (by simp [numB]; omega)
    go_wp2
    go_ret
    exact ⟨by rw [HN.out]; rfl, rfl⟩
  ·have HN : Hid (ns.all numB = true) := by have := hall.out; rwa [List.take_of_length_le (by omega)] at this
   go_wp2
   go_ret
   exact ⟨by rw [HN.out]; rfl, rfl⟩
end Go.Proofs.YtfhncfghblkgeabGreat
