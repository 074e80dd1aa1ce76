import Derived.Test.YtfhncfghblkgeabGreatL31
import Derived.Test.YtfhncfghblkgeabGreatL34
set_option maxRecDepth 100000
set_option maxHeartbeats 2000000
namespace Go.Proofs.YtfhncfghblkgeabGreat
open Go.RowKit
theorem code_zero : code 0 = [0] := by first | rfl | (simp [code, codeF])
theorem coded_neg (v : Value) (xs : List Int) (z : Int) (B : Nat) (w : World) (hz : z < 0) (hB : B ≤ w.heap.size) (hx : xs.length ≤ 1000) (hv : w.ownsRow B 5 1 v xs.length (xs.map (Value.int .u8))) :
 Calls Tryz.prog 45 #[v, iv z] w fun e w' => ∃ v', e = .returned v' ∧ w'.ownsRow B 5 1 v' (xs ++ [0]).length ((xs ++ [0]).map (Value.int .u8)) ∧ Below B w w' := by
 obtain ⟨i0, hi, hz0, hz1, hz2⟩ := info_parts Tryz.infoU8
 have hG : Hid (∀ W, Calls Tryz.prog 70 #[iv 0] W fun e w' => e = .returned (iv 1) ∧ W = w') := fun W => by
  have := groups_any 0 W (by omega)
  rw [code_zero] at this
  exact this
 go_enter Tryz.func45, Tryz.ntmps45
 go_wp2_with (go_at_call 70; refine (hG.out _).mono ?_; rintro e w' ⟨rfl, rfl⟩)
 go_loopw [0, 1, 6] (fun b x i wr => ∃ (j : Nat) (g : List Int), x = iv 0 ∧ i = iv j ∧ ((j = 0 ∧ g = []) ∨ (j = 1 ∧ g = [0])) ∧ wr.ownsRow B 5 1 b (xs ++ g).length ((xs ++ g).map (Value.int .u8)) ∧ Below B w wr) (fun _ _ i _ => 1 - (intOf i).toNat)
 case atStart => exact ⟨0, [], rfl, rfl, .inl ⟨rfl, rfl⟩, by simpa using hv, Below.refl _ _⟩
 case round =>
  obtain ⟨j, g, rfl, rfl, hjg, hown, hbel⟩ := hrel
  clear hv
  have hsz : B ≤ wr.heap.size := Nat.le_trans hB hbel.size
  have HO : Hid (∀ k, u0.ownBlock = some k → B ≤ k ∧ k < wr.heap.size) := World.ownsRow.lt hown
  rcases hjg with ⟨rfl, rfl⟩ | ⟨rfl, rfl⟩
  ·rw [List.append_nil] at hown
   go_wp2_with (at_builtin; refine wpList_append_own _ rfl _ _ 70 rfl B 5 i0 (.int .u8 0) 1 1 Tryz.underlying70 hi hz0 hz1 hz2 rfl (by decide) _ _ _ rfl (hown.alloc _) (aq wr.heap.size 0) 1 1 [.int .u8 0] rfl rfl ?c1 ?c2 ?c3 ?c4 ?c5 ?_)
   case c1 => exact cell_one_new _ _ _
   case c2 => intro u hu; simp at hu; subst hu; rfl
   case c3 => unfold maxLen; omega
   case c4 => omega
   case c5 => simp; omega
   intro v' w1 hown' hgrow _
   clear hown
   go_wp2
   go_roundw
   case rel =>
    refine ⟨1, [0], rfl, by go_num, .inr ⟨rfl, rfl⟩, ?_, ?_⟩
    ·simpa [Nat.add_assoc] using hown'
    ·exact (hbel.alloc hsz _).grown hgrow (by simp; omega) (fun k hk => (HO.out k hk).1)
   case measure => simp [intOf]
  ·go_wp2
   go_ret
   exact ⟨_, rfl, hown, hbel⟩
theorem coded_any (v : Value) (xs : List Int) (z : Int) (B : Nat) (w : World) (hz : z < 9223372036854775808) (hB : B ≤ w.heap.size) (hx : xs.length ≤ 1000) (hv : w.ownsRow B 5 1 v xs.length (xs.map (Value.int .u8))) :
 Calls Tryz.prog 45 #[v, iv z] w fun e w' => ∃ v', e = .returned v' ∧ w'.ownsRow B 5 1 v' (xs ++ code z.toNat).length ((xs ++ code z.toNat).map (Value.int .u8)) ∧ Below B w w' := by
 by_cases h0 : z < 0
 ·have e : z.toNat = 0 := by omega
  rw [e, code_zero]
  exact coded_neg v xs z B w h0 hB hx hv
 ·have := coded_nat v xs z.toNat B w (by omega) hB hx hv
  rw [show ((z.toNat : Nat) : Int) = z by omega] at this
  exact this
theorem framedI_1 (t c u o : Int) (w : World) (ht : t < 9223372036854775808) (hc : c < 9223372036854775808) (hu : u < 9223372036854775808) :
 Calls Tryz.prog 28 #[.agg #[iv 1, iv t, iv c, iv u, iv o]] w fun e w' => ∃ v, e = .returned v ∧ w'.ownsRow w.heap.size 5 1 v (frameB 1 [t, c, u]).length ((frameB 1 [t, c, u]).map (Value.int .u8)) ∧ Below w.heap.size w w' := by
 have lt := code_len9 (show t.toNat < 9223372036854775808 by omega)
 have lc := code_len9 (show c.toNat < 9223372036854775808 by omega)
 have lu := code_len9 (show u.toNat < 9223372036854775808 by omega)
 go_enter Tryz.func28, Tryz.ntmps28
 go_wp2_with fail
 refine (coded_any _ ([(1 : Int)]) t (w.heap.size + 1) _ ht (by simp) (by simp <;> omega) (ownsRow_one (by simp) (.int .u8 1))).mono ?_
 rintro e w0 ⟨v0, rfl, h0, b0⟩
 have s0 : w.heap.size + 1 ≤ w0.heap.size := Nat.le_trans (by simp) b0.size
 have k00 : w0.cell? (aq w.heap.size 0) = some (iv 1) := (bcellAt b0 _ _ (by omega)).trans (by simp [go_sem])
 have k01 : w0.cell? (aq w.heap.size 1) = some (iv t) := (bcellAt b0 _ _ (by omega)).trans (by simp [go_sem])
 have k02 : w0.cell? (aq w.heap.size 2) = some (iv c) := (bcellAt b0 _ _ (by omega)).trans (by simp [go_sem])
 have k03 : w0.cell? (aq w.heap.size 3) = some (iv u) := (bcellAt b0 _ _ (by omega)).trans (by simp [go_sem])
 have k04 : w0.cell? (aq w.heap.size 4) = some (iv o) := (bcellAt b0 _ _ (by omega)).trans (by simp [go_sem])
 go_wp2_with fail
 refine (coded_any _ ([(1 : Int)] ++ code t.toNat) c (w.heap.size + 1) _ hc s0 (by simp <;> omega) h0).mono ?_
 rintro e w1 ⟨v1, rfl, h1, b1⟩
 have s1 : w.heap.size + 1 ≤ w1.heap.size := Nat.le_trans s0 b1.size
 have k10 : w1.cell? (aq w.heap.size 0) = some (iv 1) := (bcellAt b1 _ _ (by omega)).trans k00
 have k11 : w1.cell? (aq w.heap.size 1) = some (iv t) := (bcellAt b1 _ _ (by omega)).trans k01
 have k12 : w1.cell? (aq w.heap.size 2) = some (iv c) := (bcellAt b1 _ _ (by omega)).trans k02
 have k13 : w1.cell? (aq w.heap.size 3) = some (iv u) := (bcellAt b1 _ _ (by omega)).trans k03
 have k14 : w1.cell? (aq w.heap.size 4) = some (iv o) := (bcellAt b1 _ _ (by omega)).trans k04
 clear k00 k01 k02 k03 k04
 go_wp2_with fail
 refine (coded_any _ ([(1 : Int)] ++ code t.toNat ++ code c.toNat) u (w.heap.size + 1) _ hu s1 (by simp <;> omega) h1).mono ?_
 rintro e w2 ⟨v2, rfl, h2, b2⟩
 go_wp2_with fail
 go_ret
 refine ⟨_, rfl, ?_, ?_⟩
 ·have e : frameB 1 [t, c, u] = [(1 : Int)] ++ code t.toNat ++ code c.toNat ++ code u.toNat := by simp [frameB]
  rw [e]; exact ownsRow_mono h2 (by omega)
 ·exact ((((show Below w.heap.size w _ from bL)).trans (b0.mono (by omega))).trans (b1.mono (by omega))).trans (b2.mono (by omega))
theorem framedI_4 (t c u o : Int) (w : World) (hc : c < 9223372036854775808) (ho : o < 9223372036854775808) :
 Calls Tryz.prog 28 #[.agg #[iv 4, iv t, iv c, iv u, iv o]] w fun e w' => ∃ v, e = .returned v ∧ w'.ownsRow w.heap.size 5 1 v (frameB 4 [c, o]).length ((frameB 4 [c, o]).map (Value.int .u8)) ∧ Below w.heap.size w w' := by
 have lc := code_len9 (show c.toNat < 9223372036854775808 by omega)
 have lo := code_len9 (show o.toNat < 9223372036854775808 by omega)
 go_enter Tryz.func28, Tryz.ntmps28
 go_wp2_with fail
 refine (coded_any _ ([(4 : Int)]) c (w.heap.size + 1) _ hc (by simp) (by simp <;> omega) (ownsRow_one (by simp) (.int .u8 4))).mono ?_
 rintro e w0 ⟨v0, rfl, h0, b0⟩
 have s0 : w.heap.size + 1 ≤ w0.heap.size := Nat.le_trans (by simp) b0.size
 have k00 : w0.cell? (aq w.heap.size 0) = some (iv 4) := (bcellAt b0 _ _ (by omega)).trans (by simp [go_sem])
 have k01 : w0.cell? (aq w.heap.size 1) = some (iv t) := (bcellAt b0 _ _ (by omega)).trans (by simp [go_sem])
 have k02 : w0.cell? (aq w.heap.size 2) = some (iv c) := (bcellAt b0 _ _ (by omega)).trans (by simp [go_sem])
 have k03 : w0.cell? (aq w.heap.size 3) = some (iv u) := (bcellAt b0 _ _ (by omega)).trans (by simp [go_sem])
 have k04 : w0.cell? (aq w.heap.size 4) = some (iv o) := (bcellAt b0 _ _ (by omega)).trans (by simp [go_sem])
 go_wp2_with fail
 refine (coded_any _ ([(4 : Int)] ++ code c.toNat) o (w.heap.size + 1) _ ho s0 (by simp <;> omega) h0).mono ?_
 rintro e w1 ⟨v1, rfl, h1, b1⟩
 go_wp2_with fail
 go_ret
 refine ⟨_, rfl, ?_, ?_⟩
 ·have e : frameB 4 [c, o] = [(4 : Int)] ++ code c.toNat ++ code o.toNat := by simp [frameB]
  rw [e]; exact ownsRow_mono h1 (by omega)
 ·exact (((show Below w.heap.size w _ from bL)).trans (b0.mono (by omega))).trans (b1.mono (by omega))
theorem framedI_k (k t c u o : Int) (w : World) (hk0 : 0 ≤ k) (hk1 : k < 256) (hk2 : k ≠ 1) (hk3 : k ≠ 4) (ht : t < 9223372036854775808) (hc : c < 9223372036854775808) (ho : o < 9223372036854775808) :
 Calls Tryz.prog 28 #[.agg #[iv k, iv t, iv c, iv u, iv o]] w fun e w' => ∃ v, e = .returned v ∧ w'.ownsRow w.heap.size 5 1 v (frameB k [t, c, o]).length ((frameB k [t, c, o]).map (Value.int .u8)) ∧ Below w.heap.size w w' := by
 have lt := code_len9 (show t.toNat < 9223372036854775808 by omega)
 have lc := code_len9 (show c.toNat < 9223372036854775808 by omega)
 have lo := code_len9 (show o.toNat < 9223372036854775808 by omega)
 have hw8 : IntKind.u8.wrap k = k := by unfold IntKind.wrap; simp [IntKind.signed, IntKind.bits]; omega
 have e1 : (k == 1) = false := by simpa using hk2
 have e4 : (k == 4) = false := by simpa using hk3
 go_enter Tryz.func28, Tryz.ntmps28
 go_wp2_with fail
 refine (coded_any _ ([(k : Int)]) t (w.heap.size + 1) _ ht (by simp) (by simp <;> omega) (ownsRow_one (by simp) (.int .u8 k))).mono ?_
 rintro e w0 ⟨v0, rfl, h0, b0⟩
 have s0 : w.heap.size + 1 ≤ w0.heap.size := Nat.le_trans (by simp) b0.size
 have k00 : w0.cell? (aq w.heap.size 0) = some (iv k) := (bcellAt b0 _ _ (by omega)).trans (by simp [go_sem])
 have k01 : w0.cell? (aq w.heap.size 1) = some (iv t) := (bcellAt b0 _ _ (by omega)).trans (by simp [go_sem])
 have k02 : w0.cell? (aq w.heap.size 2) = some (iv c) := (bcellAt b0 _ _ (by omega)).trans (by simp [go_sem])
 have k03 : w0.cell? (aq w.heap.size 3) = some (iv u) := (bcellAt b0 _ _ (by omega)).trans (by simp [go_sem])
 have k04 : w0.cell? (aq w.heap.size 4) = some (iv o) := (bcellAt b0 _ _ (by omega)).trans (by simp [go_sem])
 go_wp2_with fail
 refine (coded_any _ ([(k : Int)] ++ code t.toNat) c (w.heap.size + 1) _ hc s0 (by simp <;> omega) h0).mono ?_
 rintro e w1 ⟨v1, rfl, h1, b1⟩
 have s1 : w.heap.size + 1 ≤ w1.heap.size := Nat.le_trans s0 b1.size
 have k10 : w1.cell? (aq w.heap.size 0) = some (iv k) := (bcellAt b1 _ _ (by omega)).trans k00
 have k11 : w1.cell? (aq w.heap.size 1) = some (iv t) := (bcellAt b1 _ _ (by omega)).trans k01
 have k12 : w1.cell? (aq w.heap.size 2) = some (iv c) := (bcellAt b1 _ _ (by omega)).trans k02
 have k13 : w1.cell? (aq w.heap.size 3) = some (iv u) := (bcellAt b1 _ _ (by omega)).trans k03
 have k14 : w1.cell? (aq w.heap.size 4) = some (iv o) := (bcellAt b1 _ _ (by omega)).trans k04
 clear k00 k01 k02 k03 k04
 go_wp2_with fail
 refine (coded_any _ ([(k : Int)] ++ code t.toNat ++ code c.toNat) o (w.heap.size + 1) _ ho s1 (by simp <;> omega) h1).mono ?_
 rintro e w2 ⟨v2, rfl, h2, b2⟩
 go_wp2_with fail
 go_ret
 refine ⟨_, rfl, ?_, ?_⟩
 ·have e : frameB k [t, c, o] = [(k : Int)] ++ code t.toNat ++ code c.toNat ++ code o.toNat := by simp [frameB]
  rw [e]; exact ownsRow_mono h2 (by omega)
 ·exact ((((show Below w.heap.size w _ from bL)).trans (b0.mono (by omega))).trans (b1.mono (by omega))).trans (b2.mono (by omega))
def numsK (k t c u o : Int) : List Int := if k = 4 then [c, o] else if k = 1 then [t, c, u] else [t, c, o]
theorem framedI (k t c u o : Int) (w : World) (hk0 : 0 ≤ k) (hk1 : k < 256) (ht : t < 9223372036854775808) (hc : c < 9223372036854775808) (hu : u < 9223372036854775808) (ho : o < 9223372036854775808) :
 Calls Tryz.prog 28 #[.agg #[iv k, iv t, iv c, iv u, iv o]] w fun e w' => ∃ v, e = .returned v ∧ w'.ownsRow w.heap.size 5 1 v (frameB k (numsK k t c u o)).length ((frameB k (numsK k t c u o)).map (Value.int .u8)) ∧ Below w.heap.size w w' := by
 unfold numsK
 by_cases h4 : k = 4
 ·subst h4; exact framedI_4 t c u o w hc ho
 ·rw [if_neg h4]
  by_cases h1 : k = 1
  ·subst h1; exact framedI_1 t c u o w ht hc hu
  ·rw [if_neg h1]; exact framedI_k k t c u o w hk0 hk1 h1 h4 ht hc ho
def bareT (k t : Int) : Int := if k = 4 then 0 else t
def bareU (k u : Int) : Int := if k = 1 then u else 0
def bareO (k o : Int) : Int := if k = 1 then 0 else o
theorem bare_any (k t c u o : Int) (w : World) :
 Calls Tryz.prog 46 #[.agg #[iv k, iv t, iv c, iv u, iv o]] w fun e w' => e = .returned (.agg #[iv k, iv (bareT k t), iv c, iv (bareU k u), iv (bareO k o)]) ∧ Below w.heap.size w w' := by
 by_cases h4 : k = 4
 ·subst h4
  rw [show bareT 4 t = 0 from rfl, show bareU 4 u = 0 from rfl, show bareO 4 o = o from rfl]
  go_enter Tryz.func46, Tryz.ntmps46
  go_wp2
  refine bodyPost_ret (v := .agg #[iv 4, iv 0, iv c, iv 0, iv o]) (by simp [results, Tryz.results46, go_sem]) rfl ⟨rfl, bL⟩
 ·by_cases h1 : k = 1
  ·subst h1
   rw [show bareT 1 t = t from rfl, show bareU 1 u = u from rfl, show bareO 1 o = 0 from rfl]
   go_enter Tryz.func46, Tryz.ntmps46
   go_wp2
   refine bodyPost_ret (v := .agg #[iv 1, iv t, iv c, iv u, iv 0]) (by simp [results, Tryz.results46, go_sem]) rfl ⟨rfl, bL⟩
  ·rw [show bareT k t = t from if_neg h4, show bareU k u = 0 from if_neg h1, show bareO k o = o from if_neg h1]
   have e4 : (k == 4) = false := by simpa using h4
   have e1 : (k == 1) = false := by simpa using h1
   go_enter Tryz.func46, Tryz.ntmps46
   go_wp2
   refine bodyPost_ret (v := .agg #[iv k, iv t, iv c, iv 0, iv o]) (by simp [results, Tryz.results46, go_sem]) rfl ⟨rfl, bL⟩
theorem small_any (k t c u o : Int) (w : World) :
 Calls Tryz.prog 26 #[.agg #[iv k, iv t, iv c, iv u, iv o]] w fun e w' => e = .returned (.bool (decide (0 ≤ k) && decide (k < 256))) ∧ Below w.heap.size w w' := by
 by_cases h0 : 0 ≤ k
 ·by_cases h1 : k < 256
  ·have d0 : decide (0 ≤ k) = true := decide_eq_true h0
   have d1 : decide (k < 256) = true := decide_eq_true h1
   rw [d0, d1]
   go_enter Tryz.func26, Tryz.ntmps26
   go_wp2
   refine bodyPost_ret (v := .bool true) (by simp [results, Tryz.results26, go_sem]) rfl ⟨rfl, bL⟩
  ·have d0 : decide (0 ≤ k) = true := decide_eq_true h0
   have d1 : decide (k < 256) = false := decide_eq_false h1
   rw [d0, d1]
   go_enter Tryz.func26, Tryz.ntmps26
   go_wp2
   refine bodyPost_ret (v := .bool false) (by simp [results, Tryz.results26, go_sem]) rfl ⟨rfl, bL⟩
 ·have d0 : decide (0 ≤ k) = false := decide_eq_false h0
  rw [d0]
  go_enter Tryz.func26, Tryz.ntmps26
  go_wp2
  refine bodyPost_ret (v := .bool false) (by simp [results, Tryz.results26, go_sem]) rfl ⟨rfl, bL⟩
def fitP (k o pk po pc pu : Int) : Prop :=
 (k = 1 ∧ ((pk = 2 ∧ 0 < po ∧ 0 < pc ∧ 0 < pu) ∨ (pk = 3 ∧ 0 < po ∧ pc = 0 ∧ 0 < pu) ∨ ((pk = 4 ∨ pk = 5 ∨ pk = 6 ∨ pk = 10 ∨ pk = 11) ∧ po = 0 ∧ pc = 0 ∧ pu = 0))) ∨
 (k = 2 ∧ ((pk = 7 ∧ o = po ∧ 0 < o ∧ 0 < pc ∧ pu = 0) ∨ ((pk = 9 ∨ pk = 10 ∨ pk = 11) ∧ po = 0 ∧ pc = 0 ∧ pu = 0))) ∨
 (k = 3 ∧ ((pk = 8 ∧ o = po ∧ 0 < o ∧ pc = 0 ∧ pu = 0) ∨ ((pk = 9 ∨ pk = 10 ∨ pk = 11) ∧ po = 0 ∧ pc = 0 ∧ pu = 0))) ∨
 (k = 4 ∧ ((pk = 12 ∧ o = po ∧ 0 < o ∧ pc = 0 ∧ 0 < pu) ∨ (pk = 13 ∧ o = po ∧ 0 < o ∧ 0 < pc ∧ 0 < pu) ∨ (pk = 14 ∧ o = po ∧ 0 < o ∧ 0 < pc ∧ pu = 0) ∨ ((pk = 15 ∨ pk = 16 ∨ pk = 17 ∨ pk = 18) ∧ o = po ∧ 0 < o ∧ pc = 0 ∧ pu = 0) ∨ (pk = 19 ∧ po = 0 ∧ pc = 0 ∧ pu = 0)))
structure rightC (C : Cfg) : Prop where
 some : 1 ≤ C.prices.length
 first : (C.prices.getD 0 (0, 0)).1 = 0
 cents : ∀ p ∈ C.prices, 1 ≤ p.2
theorem priceT_pos {ps : List (Int × Int)} (h0 : (ps.getD 0 (0, 0)).1 = 0) (h : ∀ p ∈ ps, 1 ≤ p.2) {sold : Int} (hs : 0 ≤ sold) : ∀ k, 1 ≤ k → k ≤ ps.length → 1 ≤ priceT ps sold k
 | 0, h1, _ => by omega
 | 1, _, hk => by
   unfold priceT
   rw [h0, if_pos hs]
   exact h _ (getD_mem (q := 0) (by omega))
 | k + 2, _, hk => by
   have ih := priceT_pos h0 h hs (k + 1) (by omega) (by omega)
   rw [priceT]
   split
   ·exact h _ (getD_mem (by omega))
   ·exact ih
def ordK (o : Ord) : Prop := 1 ≤ o.units ∧ (12 ≤ o.state ∧ o.state ≤ 18) ∧ ((o.state = 13 ∨ o.state = 14) → 1 ≤ o.cents)
theorem price_pos {S : Sal} (hC : rightC S.C) (h : ∀ o ∈ S.os, 1 ≤ o.units) : 1 ≤ S.price :=
 priceT_pos hC.first hC.cents (units_nonneg 14 0 (fun o ho => by have := h o ho; omega)) _ hC.some (Nat.le_refl _)
theorem holds_price {S : Sal} (hC : rightC S.C) (h : ∀ o ∈ S.os, 1 ≤ o.units) {i : Nat} (hi : i < S.os.length) : 1 ≤ (S.put i { S.os.getD i ord0 with state := 13 }).price := by
 refine price_pos (S := S.put i { S.os.getD i ord0 with state := 13 }) hC (fun o ho => ?_)
 rcases mem_set (show o ∈ S.os.set i _ from ho) with rfl | ho
 ·have := h _ (ord_mem hi)
  exact this
 ·exact h o ho
theorem promoteN_ordK : ∀ (n : Nat) (S : Sal), rightC S.C → (∀ o ∈ S.os, ordK o) → ∀ o ∈ (promoteN n S).os, ordK o
 | 0, _, _, h => h
 | n + 1, S, hC, h => by
   unfold promoteN
   split
   ·exact h
   ·next q qs hq =>
    split
    ·exact h
    ·obtain ⟨_, hl, hs⟩ := queue_tail hq ord0 (by decide)
     refine promoteN_ordK n (S.holds q) hC (fun o ho => ?_)
     rcases mem_set (show o ∈ S.os.set q _ from ho) with rfl | ho
     ·have hp := holds_price hC (fun o ho => (h o ho).1) hl
      exact ⟨(h _ (ord_mem hl)).1, by show (12 : Int) ≤ 13 ∧ (13 : Int) ≤ 18; omega, fun _ => hp⟩
     ·exact h o ho
theorem promote_ordK {S : Sal} (hC : rightC S.C) (h : ∀ o ∈ S.os, ordK o) : ∀ o ∈ S.promote.os, ordK o := promoteN_ordK _ S hC h
theorem ends_ordK {S : Sal} (h : ∀ o ∈ S.os, ordK o) {i : Nat} (hi : i < S.os.length) {st : Int} (hst : 14 ≤ st ∧ st ≤ 18) (h14 : st = 14 → (S.os.getD i ord0).state = 13) : ∀ o ∈ (S.ends i st).os, ordK o := by
 intro o ho
 rcases mem_set (show o ∈ S.os.set i _ from ho) with rfl | ho
 ·obtain ⟨a, b, c⟩ := h _ (ord_mem hi)
  refine ⟨a, by show 12 ≤ st ∧ st ≤ 18; omega, ?_⟩
  rintro (e | e)
  ·have e' : st = 13 := e; omega
  ·exact c (.inl (h14 e))
 ·exact h o ho
theorem drained_ordK {S : Sal} (h : ∀ o ∈ S.os, ordK o) : ∀ o ∈ S.drained.os, ordK o := by
 intro o ho
 obtain ⟨p, hp, rfl⟩ := List.mem_map.1 (show o ∈ S.os.map (dry S.left S.now) from ho)
 unfold dry
 split
 ·obtain ⟨a, b, c⟩ := h p hp
  exact ⟨a, by show (12 : Int) ≤ 18 ∧ (18 : Int) ≤ 18; omega, fun e => by rcases e with e | e <;> simp at e⟩
 ·exact h p hp
theorem pastN_ordK {S : Sal} (h : ∀ o ∈ S.os, ordK o) {st en : Int} (hen : 15 ≤ en ∧ en ≤ 18) : ∀ n, n ≤ S.os.length → ∀ o ∈ (pastN S st en n).os, ordK o
 | 0, _ => h
 | n + 1, hn => by
   have ih := pastN_ordK h (st := st) hen n (by omega)
   unfold pastN
   split
   ·exact ends_ordK ih (by rw [pastN_len]; omega) ⟨by omega, hen.2⟩ (fun e => by omega)
   ·exact ih
theorem past_ordK {S : Sal} (hC : rightC S.C) (h : ∀ o ∈ S.os, ordK o) {st en : Int} (hen : 15 ≤ en ∧ en ≤ 18) : ∀ o ∈ (S.past st en).os, ordK o :=
 promote_ordK (by rw [(pastN_keep S st en _).1]; exact hC) (pastN_ordK h hen _ (Nat.le_refl _))
theorem round_ordK {S : Sal} (hC : rightC S.C) (h : ∀ o ∈ S.os, ordK o) (t : Int) : ∀ o ∈ (S.round t).os, ordK o :=
 past_ordK (by rw [(past_keep _ 13 15).1]; exact hC) (past_ordK (S := { S with now := t }) hC h ⟨by decide, by decide⟩) ⟨by decide, by decide⟩
theorem tickN_ordK : ∀ (n : Nat) (S : Sal) (to : Int), rightC S.C → (∀ o ∈ S.os, ordK o) → ∀ o ∈ (tickN n S to).os, ordK o
 | 0, _, _, _, h => h
 | n + 1, S, to, hC, h => by
   unfold tickN
   split
   ·exact h
   ·exact tickN_ordK n _ to (by rw [(round_keep S _).1]; exact hC) (round_ordK hC h _)
def ansK (a : Ans) : Prop := ∃ k t c u o : Int, isB k t c u o = true ∧ k ≠ 4 ∧ a.token = t ∧ a.frame = strOfNums (frameB k (numsOf k t c u o)) ∧ fitP k o a.rep.kind a.rep.order a.rep.cents a.rep.upto
structure keepI (S : Sal) : Prop where
 C : rightC S.C
 os : ∀ o ∈ S.os, ordK o
 an : ∀ a ∈ S.ansL, ansK a
theorem tick_keepI {S : Sal} (h : keepI S) (n : Int) : keepI (S.tick n).2 := by
 obtain ⟨a, b, _⟩ := tick_keep S n
 refine ⟨by rw [a]; exact h.C, ?_, by rw [b]; exact h.an⟩
 unfold Sal.tick
 split
 ·exact h.os
 split <;> exact tickN_ordK _ _ _ h.C h.os
theorem ask_fit {S : Sal} (h : keepI S) (hR : restP S) (h0 : 0 ≤ S.now) (r : Req) : fitP 1 r.order (S.ask r).1.kind (S.ask r).1.order (S.ask r).1.cents (S.ask r).1.upto ∧ (1 ≤ r.units → ∀ o ∈ (S.ask r).2.os, ordK o) := by
 have hl := hR.R.lease
 have hwt := hR.R.wait
 unfold Sal.ask
 split
 ·exact ⟨.inl ⟨rfl, .inr (.inr ⟨.inl rfl, rfl, rfl, rfl⟩)⟩, fun _ => h.os⟩
 split
 ·exact ⟨.inl ⟨rfl, .inr (.inr ⟨.inr (.inl rfl), rfl, rfl, rfl⟩)⟩, fun _ => h.os⟩
 split
 ·exact ⟨.inl ⟨rfl, .inr (.inr ⟨.inr (.inr (.inl rfl)), rfl, rfl, rfl⟩)⟩, fun _ => h.os⟩
 split
 ·have hp : 1 ≤ S.price := price_pos h.C (fun o ho => (h.os o ho).1)
  obtain ⟨e1, e2⟩ := more_holds S r.cust r.units
  rw [e1, e2]
  have hg : (S.more ⟨r.cust, r.units, 13, S.price, S.now + S.C.lease, 0⟩).os.getD S.os.length ord0 = ⟨r.cust, r.units, 13, S.price, S.now + S.C.lease, 0⟩ := by
   show (S.os ++ [_]).getD S.os.length ord0 = _
   rw [getD_snoc (by omega), if_pos rfl]
  rw [hg]
  refine ⟨.inl ⟨rfl, .inl ⟨rfl, ?_, ?_, ?_⟩⟩, fun hu o ho => ?_⟩
  ·show (0 : Int) < (S.os.length : Int) + 1; omega
  ·show 0 < S.price; omega
  ·show 0 < S.now + S.C.lease; omega
  ·rcases List.mem_append.1 (show o ∈ S.os ++ [_] from ho) with ho | ho
   ·exact h.os o ho
   ·have e : o = ⟨r.cust, r.units, 13, S.price, S.now + S.C.lease, 0⟩ := by simpa using ho
    rw [e]
    exact ⟨hu, by show (12 : Int) ≤ 13 ∧ (13 : Int) ≤ 18; omega, fun _ => hp⟩
 split
 ·exact ⟨.inl ⟨rfl, .inr (.inr ⟨.inr (.inr (.inl rfl)), rfl, rfl, rfl⟩)⟩, fun _ => h.os⟩
 ·refine ⟨.inl ⟨rfl, .inr (.inl ⟨rfl, ?_, rfl, ?_⟩)⟩, fun hu o ho => ?_⟩
  ·show (0 : Int) < (S.os.length : Int) + 1; omega
  ·show 0 < S.now + S.C.wait; omega
  ·rcases List.mem_append.1 (show o ∈ S.os ++ [_] from ho) with ho | ho
   ·exact h.os o ho
   ·have e : o = ⟨r.cust, r.units, 12, 0, S.now + S.C.wait, 0⟩ := by simpa using ho
    rw [e]
    exact ⟨hu, by show (12 : Int) ≤ 12 ∧ (12 : Int) ≤ 18; omega, fun c => by rcases c with c | c <;> simp at c⟩
theorem confirm_fit {S : Sal} (h : keepI S) (r : Req) (ho : 1 ≤ r.order) : fitP 2 r.order (S.confirm r).1.kind (S.confirm r).1.order (S.confirm r).1.cents (S.confirm r).1.upto ∧ ∀ o ∈ (S.confirm r).2.os, ordK o := by
 unfold Sal.confirm
 split
 ·exact ⟨.inr (.inl ⟨rfl, .inr ⟨.inl rfl, rfl, rfl, rfl⟩⟩), h.os⟩
 ·next i hf =>
  obtain ⟨hi, _, _⟩ := findS_some ho hf
  split
  ·exact ⟨.inr (.inl ⟨rfl, .inr ⟨.inl rfl, rfl, rfl, rfl⟩⟩), h.os⟩
  ·next hs =>
   have hs' : (S.os.getD i ord0).state = 13 := Classical.not_not.1 hs
   have h1 := ends_ordK h.os hi (st := 14) (by decide) (fun _ => hs')
   rw [drainS_queue]
   have h2 := promote_ordK (S := (S.ends i 14).drained) h.C (drained_ordK h1)
   refine ⟨.inr (.inl ⟨rfl, .inl ⟨rfl, rfl, by omega, ?_, rfl⟩⟩), h2⟩
   have hg : (S.ends i 14).os.getD i ord0 = { S.os.getD i ord0 with state := 14, ended := S.now } := by
    have : (S.ends i 14).os.getD i ord0 = if i = i then _ else _ := getD_set _ hi
    rw [if_pos rfl] at this
    exact this
   have e1 : (S.ends i 14).drained.os.getD i ord0 = (S.ends i 14).os.getD i ord0 := drained_far _ (by rw [hg]; show ¬ (14 : Int) = 12; decide)
   have e2 : (S.ends i 14).drained.promote.os.getD i ord0 = (S.ends i 14).os.getD i ord0 := (promote_far _ (by rw [e1, hg]; show ¬ (14 : Int) = 12; decide)).trans e1
   show 0 < ((S.ends i 14).drained.promote.os.getD i ord0).units * ((S.ends i 14).drained.promote.os.getD i ord0).cents
   rw [e2, hg]
   obtain ⟨a, b, c⟩ := h.os _ (ord_mem hi)
   have c' := c (.inl hs')
   show 0 < (S.os.getD i ord0).units * (S.os.getD i ord0).cents
   exact Int.mul_pos (by omega) (by omega)
theorem cancel_fit {S : Sal} (h : keepI S) (r : Req) (ho : 1 ≤ r.order) : fitP 3 r.order (S.cancel r).1.kind (S.cancel r).1.order (S.cancel r).1.cents (S.cancel r).1.upto ∧ ∀ o ∈ (S.cancel r).2.os, ordK o := by
 unfold Sal.cancel
 split
 ·exact ⟨.inr (.inr (.inl ⟨rfl, .inr ⟨.inl rfl, rfl, rfl, rfl⟩⟩)), h.os⟩
 ·next i hf =>
  obtain ⟨hi, _, _⟩ := findS_some ho hf
  split
  ·exact ⟨.inr (.inr (.inl ⟨rfl, .inr ⟨.inl rfl, rfl, rfl, rfl⟩⟩)), h.os⟩
  ·refine ⟨.inr (.inr (.inl ⟨rfl, .inl ⟨rfl, rfl, by omega, rfl, rfl⟩⟩)), ?_⟩
   exact promote_ordK (S := S.ends i 16) h.C (ends_ordK h.os hi (st := 16) (by decide) (fun e => by omega))
theorem poll_fit {S : Sal} (h : keepI S) (hR : restP S) (h0 : 0 ≤ S.now) (r : Req) (ho : 1 ≤ r.order) : fitP 4 r.order (S.poll r).kind (S.poll r).order (S.poll r).cents (S.poll r).upto := by
 unfold Sal.poll
 split
 ·exact .inr (.inr (.inr ⟨rfl, .inr (.inr (.inr (.inr ⟨rfl, rfl, rfl, rfl⟩)))⟩))
 ·next i hf =>
  obtain ⟨hi, _, _⟩ := findS_some ho hf
  obtain ⟨a, b, c⟩ := h.os _ (ord_mem hi)
  split
  ·next hs =>
   have := hR.R.fut _ (ord_mem hi) (.inl hs)
   exact .inr (.inr (.inr ⟨rfl, .inl ⟨rfl, rfl, by omega, rfl, by show 0 < (S.os.getD i ord0).upto; omega⟩⟩))
  split
  ·next hs =>
   have := hR.R.fut _ (ord_mem hi) (.inr hs)
   have := c (.inl hs)
   exact .inr (.inr (.inr ⟨rfl, .inr (.inl ⟨rfl, rfl, by omega, by show 0 < (S.os.getD i ord0).cents; omega, by show 0 < (S.os.getD i ord0).upto; omega⟩)⟩))
  split
  ·exact .inr (.inr (.inr ⟨rfl, .inr (.inr (.inr (.inr ⟨rfl, rfl, rfl, rfl⟩)))⟩))
  split
  ·next hs =>
   have := c (.inr hs)
   exact .inr (.inr (.inr ⟨rfl, .inr (.inr (.inl ⟨rfl, rfl, by omega, Int.mul_pos (by omega) (by omega), rfl⟩))⟩))
  ·next h12 h13 _ h14 =>
   refine .inr (.inr (.inr ⟨rfl, .inr (.inr (.inr (.inl ⟨?_, rfl, by omega, rfl, rfl⟩)))⟩))
   show (S.os.getD i ord0).state = 15 ∨ (S.os.getD i ord0).state = 16 ∨ (S.os.getD i ord0).state = 17 ∨ (S.os.getD i ord0).state = 18
   omega
structure Stp where
 n : Int
 k : Int
 t : Int
 c : Int
 u : Int
 o : Int
def Stp.req (p : Stp) : Req := ⟨p.k, bareT p.k p.t, p.c, bareU p.k p.u, bareO p.k p.o⟩
def Stp.ok (p : Stp) : Bool := isB p.k (bareT p.k p.t) p.c (bareU p.k p.u) (bareO p.k p.o)
def Stp.bytes (p : Stp) : List Int := frameB p.k (numsK p.k p.t p.c p.u p.o)
def Stp.val (p : Stp) : Value := .agg #[iv p.n, iv p.k, iv p.t, iv p.c, iv p.u, iv p.o]
def inI (n : Int) : Prop := -9223372036854775808 ≤ n ∧ n < 9223372036854775808
def Stp.fine (p : Stp) : Prop := inI p.n ∧ inI p.k ∧ inI p.t ∧ inI p.c ∧ inI p.u ∧ inI p.o
theorem Stp.nums {p : Stp} (h : p.ok = true) : numsOf p.k (bareT p.k p.t) p.c (bareU p.k p.u) (bareO p.k p.o) = numsK p.k p.t p.c p.u p.o := by
 unfold Stp.ok isB at h
 unfold numsOf numsK bareT bareU bareO
 by_cases h1 : p.k = 1
 ·simp [h1]
 ·by_cases h2 : p.k = 2 ∨ p.k = 3
  ·have h4 : p.k ≠ 4 := by omega
   simp [h1, h2, h4]
  ·by_cases h4 : p.k = 4
   ·simp [h4]
   ·simp [h1, h2, h4] at h
def Sal.sendK (S : Sal) (p : Stp) : Rep × Sal := if p.ok then S.send p.bytes p.req 0 else (⟨1, 0, 0, 0⟩, S)
def Sal.does (S : Sal) (p : Stp) : Rep × Sal :=
 if 0 ≤ p.k ∧ p.k < 256 then (if p.k = 0 then (rep0, (S.tick p.n).2) else S.sendK p) else (rep0, S)
theorem fit_plain {k o : Int} (e : k = 1 ∨ k = 2 ∨ k = 3) (pk' : Int) (h' : pk' = 10 ∨ pk' = 11) : fitP k o pk' 0 0 0 := by
 rcases e with rfl | rfl | rfl
 ·exact .inl ⟨rfl, .inr (.inr ⟨by omega, rfl, rfl, rfl⟩)⟩
 ·exact .inr (.inl ⟨rfl, .inr ⟨by omega, rfl, rfl, rfl⟩⟩)
 ·exact .inr (.inr (.inl ⟨rfl, .inr ⟨by omega, rfl, rfl, rfl⟩⟩))
theorem isB_kind {k t c u o : Int} (h : isB k t c u o = true) : k = 1 ∨ k = 2 ∨ k = 3 ∨ k = 4 := by
 unfold isB at h
 by_cases h1 : k = 1
 ·exact .inl h1
 ·by_cases h2 : k = 2 ∨ k = 3
  ·omega
  ·by_cases h4 : k = 4
   ·omega
   ·simp [h1, h2, h4] at h
theorem isB_parts {k t c u o : Int} (h : isB k t c u o = true) : (k = 1 ∧ 1 ≤ u ∧ u ≤ 4294967296 ∧ c ≠ 0) ∨ (k ≠ 1 ∧ 1 ≤ o ∧ c ≠ 0) := by
 unfold isB numB at h
 by_cases h1 : k = 1
 ·simp [h1] at h
  refine .inl ⟨h1, by omega, by omega, by omega⟩
 ·by_cases h2 : k = 2 ∨ k = 3
  ·simp [h1, h2] at h
   exact .inr ⟨h1, by omega, by omega⟩
  ·by_cases h4 : k = 4
   ·simp [h4] at h
    exact .inr ⟨h1, by omega, by omega⟩
   ·simp [h1, h2, h4] at h
theorem doS_fit {S : Sal} (h : keepI S) (hR : restP S) (h0 : 0 ≤ S.now) (r : Req) (hb : isB r.kind r.token r.cust r.units r.order = true) (h4 : r.kind ≠ 4) : fitP r.kind r.order (S.doS r).1.kind (S.doS r).1.order (S.doS r).1.cents (S.doS r).1.upto ∧ ∀ o ∈ (S.doS r).2.os, ordK o := by
 have hp := isB_parts hb
 unfold Sal.doS
 rcases isB_kind hb with e | e | e | e
 ·rw [if_pos e]
  obtain ⟨a, b⟩ := ask_fit h hR h0 r
  rw [e]
  exact ⟨a, b (by omega)⟩
 ·rw [if_neg (by omega), if_pos e]
  have := confirm_fit h r (by omega)
  rw [e]
  exact this
 ·rw [if_neg (by omega), if_neg (by omega)]
  have := cancel_fit h r (by omega)
  rw [e]
  exact this
 ·exact absurd e h4
theorem used_mem {S : Sal} {t : Int} {a : Ans} (h : S.used t = some a) : a ∈ S.ansL ∧ a.token = t ∧ S.remem a = true := by
 unfold Sal.used at h
 have h1 := List.mem_of_find?_eq_some h
 have h2 := List.find?_some h
 simp only [Bool.and_eq_true, beq_iff_eq] at h2
 exact ⟨h1, h2.2, h2.1⟩
theorem fitP_cast {k k' o o' pk po pc pu : Int} (e : k = k') (e' : o = o') (h : fitP k o pk po pc pu) : fitP k' o' pk po pc pu := by rw [← e, ← e']; exact h
theorem sendK_fit {S : Sal} (h : keepI S) (hR : restP S) (h0 : 0 ≤ S.now) {p : Stp} (hb : p.ok = true) : fitP p.k (bareO p.k p.o) (S.sendK p).1.kind (S.sendK p).1.order (S.sendK p).1.cents (S.sendK p).1.upto ∧ keepI (S.sendK p).2 := by
 have hb' : isB p.k (bareT p.k p.t) p.c (bareU p.k p.u) (bareO p.k p.o) = true := hb
 have hk := isB_kind hb'
 have hpart := isB_parts hb'
 unfold Sal.sendK
 rw [if_pos hb]
 unfold Sal.send
 rw [if_neg (fun c => c rfl)]
 split
 ·next h4 =>
  have h4' : p.k = 4 := h4
  have ho : 1 ≤ bareO p.k p.o := by
   rcases hpart with c | c
   ·omega
   ·exact c.2.1
  exact ⟨fitP_cast h4'.symm rfl (poll_fit h hR h0 p.req ho), h⟩
 ·next h4 =>
  have h4' : p.k ≠ 4 := h4
  have hk3 : p.k = 1 ∨ p.k = 2 ∨ p.k = 3 := by omega
  split
  ·next a ha =>
   obtain ⟨m1, m2, m3⟩ := used_mem ha
   split
   ·next hf =>
    obtain ⟨k, t, c, u, o, q1, q2, q3, q4, q5⟩ := h.an a m1
    rw [q4] at hf
    have hbytes : p.bytes = frameB p.k (numsOf p.k (bareT p.k p.t) p.c (bareU p.k p.u) (bareO p.k p.o)) := by unfold Stp.bytes; rw [Stp.nums hb]
    rw [hbytes] at hf
    obtain ⟨e1, _, _, _, e5⟩ := frame_inj q1 hb' (str_inj (frame_byte q1) (frame_byte hb') hf)
    exact ⟨fitP_cast e1 e5 q5, h⟩
   ·exact ⟨fit_plain hk3 10 (.inl rfl), h⟩
  ·split
   ·exact ⟨fit_plain hk3 11 (.inr rfl), h⟩
   ·obtain ⟨a, b⟩ := doS_fit h hR h0 p.req hb' h4'
    obtain ⟨c, _, d⟩ := doS_same S p.req
    refine ⟨a, ⟨by show rightC (S.doS p.req).2.C; rw [c]; exact h.C, b, fun x hx => ?_⟩⟩
    rcases List.mem_append.1 (show x ∈ (S.doS p.req).2.ansL ++ [_] from hx) with hx | hx
    ·rw [d] at hx; exact h.an x hx
    ·have e : x = ⟨strOfNums p.bytes, p.req.token, (S.doS p.req).1, S.now⟩ := by simpa using hx
     rw [e]
     exact ⟨p.k, bareT p.k p.t, p.c, bareU p.k p.u, bareO p.k p.o, hb', h4', rfl, by unfold Stp.bytes; rw [Stp.nums hb], a⟩
theorem Stp.un (p : Stp) : (p.ok = true ∧ UN p.bytes p.k (bareT p.k p.t) p.c (bareU p.k p.u) (bareO p.k p.o) 0) ∨ (p.ok = false ∧ UN p.bytes 0 0 0 0 0 2) := by
 cases hb : p.ok
 ·refine .inr ⟨rfl, ?_⟩
  unfold Stp.bytes
  rw [frameB_codes]
  unfold Stp.ok isB at hb
  have hnb : ∀ n : Int, numB ((n.toNat : Nat) : Int) = numB n := fun n => by
   unfold numB
   by_cases h : 0 ≤ n
   ·rw [Int.toNat_of_nonneg h]
   ·have e : n.toNat = 0 := by omega
    rw [e]
    have h1 : decide (1 ≤ n) = false := decide_eq_false (by omega)
    rw [h1]; rfl
  have hall : ∀ l : List Int, ((l.map Int.toNat).map fun n : Nat => (n : Int)).all numB = l.all numB := fun l => by
   induction l with
   | nil => rfl
   | cons a l ih => simp only [List.map_cons, List.all_cons, hnb, ih]
  by_cases h1 : p.k = 1
  ·have e : numsK p.k p.t p.c p.u p.o = [p.t, p.c, p.u] := by unfold numsK; rw [if_neg (by omega), if_pos h1]
   rw [if_pos h1, show bareT p.k p.t = p.t from if_neg (by omega), show bareU p.k p.u = p.u from if_pos h1, show bareO p.k p.o = 0 from if_pos h1] at hb
   refine un_bad (by rw [e, h1]; rfl) rfl ?_
   rw [hall, e]
   simp only [List.all_cons, List.all_nil]
   revert hb
   cases numB p.t <;> cases numB p.c <;> cases numB p.u <;> simp
  ·by_cases h2 : p.k = 2 ∨ p.k = 3
   ·have e : numsK p.k p.t p.c p.u p.o = [p.t, p.c, p.o] := by unfold numsK; rw [if_neg (by omega), if_neg h1]
    rw [if_neg h1, if_pos h2, show bareT p.k p.t = p.t from if_neg (by omega), show bareU p.k p.u = 0 from if_neg h1, show bareO p.k p.o = p.o from if_neg h1] at hb
    refine un_bad (by rw [e]; unfold cnt; rw [if_neg h1, if_pos h2]; rfl) rfl ?_
    rw [hall, e]
    simp only [List.all_cons, List.all_nil]
    revert hb
    cases numB p.t <;> cases numB p.c <;> cases numB p.o <;> simp
   ·by_cases h4 : p.k = 4
    ·have e : numsK p.k p.t p.c p.u p.o = [p.c, p.o] := by unfold numsK; rw [if_pos h4]
     rw [if_neg h1, if_neg h2, if_pos h4, show bareT p.k p.t = 0 from if_pos h4, show bareU p.k p.u = 0 from if_neg h1, show bareO p.k p.o = p.o from if_neg h1] at hb
     refine un_bad (by rw [e, h4]; rfl) rfl ?_
     rw [hall, e]
     simp only [List.all_cons, List.all_nil]
     revert hb
     cases numB p.c <;> cases numB p.o <;> simp
    ·exact un_none (by unfold cnt; simp [h1, h2, h4])
 ·refine .inl ⟨rfl, .inl ⟨rfl, hb, ?_⟩⟩
  unfold Stp.bytes
  rw [Stp.nums hb]
theorem doS_salI {S : Sal} (h : salJ S) (r : Req) (hb : isB r.kind r.token r.cust r.units r.order = true) : salI (S.doS r).2 := by
 have hp := isB_parts hb
 have hI := h.I
 unfold Sal.doS
 split
 ·next hk =>
  have hu : 1 ≤ r.units ∧ r.units ≤ 4294967296 ∧ r.cust ≠ 0 := by omega
  unfold Sal.ask
  split
  ·exact hI
  ·next hcap =>
   split
   ·exact hI
   split
   ·exact hI
   split
   ·next hg =>
    obtain ⟨e1, e2⟩ := more_holds S r.cust r.units
    rw [e1, e2]
    have hpr : 0 ≤ S.price ∧ S.price ≤ 1073741824 := priceT_bounds hI.prices _ _ (Nat.le_refl _)
    exact salI_grant hI _ rfl ⟨hu.1, hu.2.1⟩ hg.2 ⟨hpr, by show (0 : Int) ≤ 0 ∧ (0 : Int) ≤ 4611686018427387904; omega⟩
   split
   ·exact hI
   ·have h13 := units_lo hI 13 r.cust
    have h14 := units_lo hI 14 r.cust
    have := h.cap
    exact salI_wait hI _ _ ⟨hu.1, hu.2.1⟩ (by omega) _
 split
 ·unfold Sal.confirm
  split
  ·exact hI
  ·next i hf =>
   obtain ⟨hi, _, _⟩ := findS_some (by omega) hf
   split
   ·exact hI
   ·next hs =>
    have hs' : (S.os.getD i ord0).state = 13 := Classical.not_not.1 hs
    have h1 := salI_end hI hi 14 (.inl rfl) (fun _ => hs')
    exact promote_inv _ (drain_inv (n := (S.ends i 14).os.length) _ _ h1 rfl (fun q hq => ((queueT_mem _ _ q).1 hq).1)).1
 ·unfold Sal.cancel
  split
  ·exact hI
  ·next i hf =>
   obtain ⟨hi, _, _⟩ := findS_some (by omega) hf
   split
   ·exact hI
   ·exact promote_inv _ (salI_end hI hi 16 (.inr (by decide)) (fun e => by omega))
theorem sendK_salJ {S : Sal} (h : salJ S) (p : Stp) : salJ (S.sendK p).2 := by
 unfold Sal.sendK
 split
 ·next hb =>
  refine salJ_send h _ _ _ ?_
  unfold Sal.send
  rw [if_neg (fun c => c rfl)]
  split
  ·exact h.I
  ·next h4 =>
   split
   ·split
    ·exact h.I
    ·exact h.I
   ·split
    ·exact h.I
    ·obtain ⟨a, b, c, d, e, f, g⟩ := doS_salI h p.req hb
     exact ⟨a, b, c, d, e, f, g⟩
 ·exact h
theorem tickN_salI : ∀ (n : Nat) (S : Sal) (to : Int), salI S → 0 ≤ to → to ≤ 4611686018427387904 → salI (tickN n S to)
 | 0, _, _, h, h0, h1 => salI_now h ⟨h0, h1⟩
 | n + 1, S, to, h, h0, h1 => by
   unfold tickN
   split
   ·exact salI_now h ⟨h0, h1⟩
   ·next hd =>
    obtain ⟨_, _, _, _, hle⟩ := due_one S.os to S.os.length (Nat.le_refl _) (by unfold Sal.due at hd; omega)
    have hle' : S.due to ≤ to := hle
    exact tickN_salI n _ to (past_inv (past_inv (salI_now h ⟨by omega, by omega⟩) 13 15 (by decide)) 12 17 (by decide)) h0 h1
theorem tick_salJ {S : Sal} (h : salJ S) (n : Int) : salJ (S.tick n).2 := by
 refine salJ_tick h n ?_
 have h0 := h.I.now
 unfold Sal.tick
 split
 ·exact h.I
 split
 ·exact tickN_salI _ _ _ h.I (by omega) (by omega)
 ·exact tickN_salI _ _ _ h.I (by omega) (by omega)
theorem Stp.bytes_byte (p : Stp) (h : 0 ≤ p.k ∧ p.k < 256) : ∀ x ∈ p.bytes, 0 ≤ x ∧ x < 256 := by
 intro x hx
 rcases List.mem_cons.1 hx with rfl | hx
 ·exact h
 ·obtain ⟨n, _, hx⟩ := List.mem_flatMap.1 hx
  exact code_byte _ x hx
section
open Go.ChangeShapes Go.WideShapes Go.ChangeAt Go.RowKit
def stp0 : Stp := ⟨0, 0, 0, 0, 0, 0⟩
def stpAt (w : World) (b o : Nat) (p : Stp) : Prop := w.cell? (aq b o) = some (iv p.n) ∧ w.cell? (aq b (o + 1)) = some (iv p.k) ∧ w.cell? (aq b (o + 2)) = some (iv p.t) ∧ w.cell? (aq b (o + 3)) = some (iv p.c) ∧ w.cell? (aq b (o + 4)) = some (iv p.u) ∧ w.cell? (aq b (o + 5)) = some (iv p.o)
def stepsAt (w : World) (a : Option Addr) (len : Nat) (ps : List Stp) : Prop :=
 ps.length = len ∧ (ps ≠ [] → ∃ b off, a = some (aq b off) ∧ b < w.heap.size ∧ ∀ i, i < len → stpAt w b (off + i * 6) (ps.getD i stp0))
theorem stpAt_keep {w w' : World} {b o : Nat} {p : Stp} (h : stpAt w b o p) (hk : w'.heap[b]? = w.heap[b]?) : stpAt w' b o p := by
 obtain ⟨a0, a1, a2, a3, a4, a5⟩ := h
 exact ⟨(World.cell?_of_block (a := (aq b o)) hk).trans a0, (World.cell?_of_block (a := (aq b (o + 1))) hk).trans a1, (World.cell?_of_block (a := (aq b (o + 2))) hk).trans a2, (World.cell?_of_block (a := (aq b (o + 3))) hk).trans a3, (World.cell?_of_block (a := (aq b (o + 4))) hk).trans a4, (World.cell?_of_block (a := (aq b (o + 5))) hk).trans a5⟩
theorem stepsAt.below {w w' : World} {a : Option Addr} {len : Nat} {ps : List Stp} (h : stepsAt w a len ps) (hb : Below w.heap.size w w') : stepsAt w' a len ps := by
 refine ⟨h.1, fun hn => ?_⟩
 obtain ⟨b, off, e, hbw, hc⟩ := h.2 hn
 exact ⟨b, off, e, Nat.lt_of_lt_of_le hbw hb.size, fun i hi => stpAt_keep (hc i hi) (hb.block b hbw)⟩
theorem Tryz.cellsCase : Tryz.prog.cellsOf 27 = 9 := by kernel_rfl
theorem Tryz.cellsStep : Tryz.prog.cellsOf 41 = 6 := by kernel_rfl
theorem Tryz.cellsSteps : Tryz.prog.cellsOf 25 = 1 := by kernel_rfl
theorem Tryz.bytesStep : Tryz.prog.bytesOf 41 = 48 := by kernel_rfl
theorem array9 {α : Type} {cs : Array α} (h : cs.size = 9) : ∃ c0 c1 c2 c3 c4 c5 c6 c7 c8, cs = #[c0, c1, c2, c3, c4, c5, c6, c7, c8] := by
 obtain ⟨l⟩ := cs
 match l, h with
 | [c0, c1, c2, c3, c4, c5, c6, c7, c8], _ => exact ⟨c0, c1, c2, c3, c4, c5, c6, c7, c8, rfl⟩
theorem fields_open {H : Type} {enc : TypeId × Value → H} {w : World} {held : Bool} {t : TypeId} {fs : Array Field} {fuel : Nat} {cs : List Value} {x : DataW H × List MemPlace}
 (he : Tryz.prog.underlying t = some (.struct fs)) (h : DataW.trod enc Tryz.prog w 0 (fun _ => true) held fuel t cs = some x) (hw : wOK t x.1) :
 ∃ (xs : List (DataW H × List MemPlace)) (n : Nat), xs.length = fs.size ∧ (∀ (k : Nat) (f : Field), fs[k]? = some f → DataW.trod enc Tryz.prog w 0 (fun _ => true) held n f.type ((cs.drop f.offset).take (Tryz.prog.cellsOf f.type)) = xs[k]?) ∧ (∀ (k : Nat) (f : Field) y, fs[k]? = some f → xs[k]? = some y → wOK f.type y.1) := by
 obtain ⟨xs, m, _, hy, _, hxl, hxf⟩ := DataW.trod_struct he h
 refine ⟨xs, m, hxl, hxf, fun k f y hf hy' => ?_⟩
 rw [hy] at hw
 exact wOK_agg he hw hf (by simp [hy'])
theorem steps_open {H : Type} {enc : TypeId × Value → H} {w : World} {held : Bool} {fuel : Nat} {a : Option Addr} {len cap : Nat} {x : DataW H × List MemPlace}
 (h : DataW.trod enc Tryz.prog w 0 (fun _ => true) held fuel 25 [.slice a len cap] = some x) (hw : wOK 25 x.1) : ∃ ps, stepsAt w a len ps ∧ (∀ p ∈ ps, p.fine) ∧ len * 48 ≤ 140737488351232 := by
 rcases rows_open Tryz.underlying25 Tryz.underlying41 Tryz.cellsStep h hw with ⟨rfl, rfl, rfl⟩ | ⟨ad, rfl, hlc, hb, hrow⟩
 ·exact ⟨[], ⟨rfl, fun h => absurd rfl h⟩, fun p hp => by simp at hp, by omega⟩
 ·rw [Tryz.bytesStep] at hb
  have hb' : len * 48 ≤ 140737488351232 := by simp only [reachBytes] at hb; omega
  by_cases h0 : len = 0
  ·subst h0
   exact ⟨[], ⟨rfl, fun h => absurd rfl h⟩, fun p hp => by simp at hp, by omega⟩
  obtain ⟨b, off, rfl⟩ : ∃ b off, ad = (aq b off) := by
   obtain ⟨cs, xs, n, hcl, hcc, _⟩ := hrow 0 (by omega)
   have := hcc 0 (by omega)
   rw [List.getElem?_eq_getElem (by omega)] at this
   exact addr_plain (by simpa using this)
  have hall : ∀ i, i < len → ∃ q : Stp, stpAt w b (off + i * 6) q ∧ q.fine := by
   intro i hi
   obtain ⟨cs, xs, n, hcl, hcc, hxl, hf, hwt⟩ := hrow i hi
   have hxl' : xs.length = 2 := hxl
   obtain ⟨n0, e0, b0⟩ := int_field (k := 0) (by omega) (hf 0 _ rfl) (some_at hxl' (by omega))
   obtain ⟨z, hz⟩ := Option.isSome_iff_exists.1 (some_at hxl' (show 1 < 2 by omega))
   have h1 : DataW.trod enc Tryz.prog w 0 (fun _ => true) held n 39 ((cs.drop 1).take (Tryz.prog.cellsOf 39)) = xs[1]? := hf 1 _ rfl
   have hw1 : wOK 39 z.1 := hwt 1 _ z rfl hz
   rw [hz, Tryz.cellsReq] at h1
   have hdl : ((cs.drop 1).take 5).length = 5 := by simp; omega
   obtain ⟨ys, m, hyl, hyf, _⟩ := fields_open Tryz.underlying39 h1 hw1
   have hyl' : ys.length = 5 := hyl
   obtain ⟨r0, q0, s0⟩ := int_field (k := 0) (by omega) (hyf 0 _ rfl) (some_at hyl' (by omega))
   obtain ⟨r1, q1, s1⟩ := int_field (k := 1) (by omega) (hyf 1 _ rfl) (some_at hyl' (by omega))
   obtain ⟨r2, q2, s2⟩ := int_field (k := 2) (by omega) (hyf 2 _ rfl) (some_at hyl' (by omega))
   obtain ⟨r3, q3, s3⟩ := int_field (k := 3) (by omega) (hyf 3 _ rfl) (some_at hyl' (by omega))
   obtain ⟨r4, q4, s4⟩ := int_field (k := 4) (by omega) (hyf 4 _ rfl) (some_at hyl' (by omega))
   have hq : ∀ j, j < 5 → ((cs.drop 1).take 5)[j]? = cs[1 + j]? := fun j hj => by rw [List.getElem?_take_of_lt hj, List.getElem?_drop]
   rw [hq _ (by omega)] at q0 q1 q2 q3 q4
   have hc : ∀ j, j < 6 → w.cell? (aq b (off + i * 6 + j)) = cs[j]? := fun j hj => by rw [← hcc j hj, Addr.add_lit, Nat.add_assoc]
   exact ⟨⟨n0, r0, r1, r2, r3, r4⟩, ⟨(hc 0 (by omega)).trans e0, (hc 1 (by omega)).trans q0, (hc 2 (by omega)).trans q1, (hc 3 (by omega)).trans q2, (hc 4 (by omega)).trans q3, (hc 5 (by omega)).trans q4⟩, ⟨b0.1, by show n0 < _; omega⟩, ⟨s0.1, by show r0 < _; omega⟩, ⟨s1.1, by show r1 < _; omega⟩, ⟨s2.1, by show r2 < _; omega⟩, ⟨s3.1, by show r3 < _; omega⟩, ⟨s4.1, by show r4 < _; omega⟩⟩
  obtain ⟨f, hff⟩ := @Deep.choose_lt Stp ⟨stp0⟩ _ _ hall
  refine ⟨(List.range len).map f, ⟨by simp, fun _ => ⟨b, off, rfl, World.block_lt_of_cell? w _ (hff 0 (by omega)).1.1, fun i hi => ?_⟩⟩, fun p hp => ?_, hb'⟩
  ·rw [getD_map f stp0 hi]; exact (hff i hi).1
  ·obtain ⟨i, hi, rfl⟩ := List.mem_map.1 hp
   exact (hff i (List.mem_range.1 hi)).2
theorem case_open {H : Type} {enc : TypeId × Value → H} {w : World} {held : Bool} {r : Reach} {b0 : Nat} {v : Value} {d : DataW H} {p : List MemPlace}
 (hv : Value.okWide Tryz.prog w r b0 27 v) (h : DataW.Trod enc Tryz.prog w 0 (fun _ => true) held 27 v d p) (hw : wOK 27 d) :
 ∃ (n0 n1 n2 n3 n4 n5 n6 : Int) (a : Option Addr) (len cap : Nat) (ts : List (Int × Int)) (sa : Option Addr) (sl sc : Nat) (ps : List Stp), v = .agg #[iv n0, iv n1, iv n2, iv n3, iv n4, iv n5, iv n6, .slice a len cap, .slice sa sl sc] ∧ tiersAt w a len cap ts ∧ stepsAt w sa sl ps ∧ (∀ p ∈ ps, p.fine) ∧ sl * 48 ≤ 140737488351232 := by
 obtain ⟨cs, rfl, hsz⟩ := okWide_struct Tryz.underlying27 hv
 rw [Tryz.cellsCase] at hsz
 obtain ⟨c0, c1, c2, c3, c4, c5, c6, c7, c8, rfl⟩ := array9 hsz
 obtain ⟨fuel, hf⟩ := h
 obtain ⟨xs, n, hxl, hxf, hwt⟩ := fields_open Tryz.underlying27 hf hw
 have hxl' : xs.length = 2 := hxl
 obtain ⟨z0, hz0⟩ := Option.isSome_iff_exists.1 (some_at hxl' (show 0 < 2 by omega))
 obtain ⟨z1, hz1⟩ := Option.isSome_iff_exists.1 (some_at hxl' (show 1 < 2 by omega))
 have h0 : DataW.trod enc Tryz.prog w 0 (fun _ => true) held n 24 (([c0, c1, c2, c3, c4, c5, c6, c7, c8].drop 0).take (Tryz.prog.cellsOf 24)) = xs[0]? := hxf 0 _ rfl
 have h1 : DataW.trod enc Tryz.prog w 0 (fun _ => true) held n 25 (([c0, c1, c2, c3, c4, c5, c6, c7, c8].drop 8).take (Tryz.prog.cellsOf 25)) = xs[1]? := hxf 1 _ rfl
 have hw0 : wOK 24 z0.1 := hwt 0 _ z0 rfl hz0
 have hw1 : wOK 25 z1.1 := hwt 1 _ z1 rfl hz1
 rw [hz0, Tryz.cellsCfg] at h0
 rw [hz1, Tryz.cellsSteps] at h1
 have e0 : ([c0, c1, c2, c3, c4, c5, c6, c7, c8].drop 0).take 8 = [c0, c1, c2, c3, c4, c5, c6, c7] := rfl
 have e1 : ([c0, c1, c2, c3, c4, c5, c6, c7, c8].drop 8).take 1 = [c8] := rfl
 rw [e0] at h0
 rw [e1] at h1
 obtain ⟨ys, m, hyl, hyf, hyt⟩ := fields_open Tryz.underlying24 h0 hw0
 have hyl' : ys.length = 8 := hyl
 obtain ⟨n0, q0, _⟩ := int_field (k := 0) (by simp) (hyf 0 _ rfl) (some_at hyl' (by omega))
 obtain ⟨n1, q1, _⟩ := int_field (k := 1) (by simp) (hyf 1 _ rfl) (some_at hyl' (by omega))
 obtain ⟨n2, q2, _⟩ := int_field (k := 2) (by simp) (hyf 2 _ rfl) (some_at hyl' (by omega))
 obtain ⟨n3, q3, _⟩ := int_field (k := 3) (by simp) (hyf 3 _ rfl) (some_at hyl' (by omega))
 obtain ⟨n4, q4, _⟩ := int_field (k := 4) (by simp) (hyf 4 _ rfl) (some_at hyl' (by omega))
 obtain ⟨n5, q5, _⟩ := int_field (k := 5) (by simp) (hyf 5 _ rfl) (some_at hyl' (by omega))
 obtain ⟨n6, q6, _⟩ := int_field (k := 6) (by simp) (hyf 6 _ rfl) (some_at hyl' (by omega))
 obtain ⟨z, hz⟩ := Option.isSome_iff_exists.1 (some_at hyl' (show 7 < 8 by omega))
 have h7 : DataW.trod enc Tryz.prog w 0 (fun _ => true) held m 22 (([c0, c1, c2, c3, c4, c5, c6, c7].drop 7).take (Tryz.prog.cellsOf 22)) = ys[7]? := hyf 7 _ rfl
 have hw7 : wOK 22 z.1 := hyt 7 _ z rfl hz
 rw [hz, Tryz.cellsTiers] at h7
 have e7 : ([c0, c1, c2, c3, c4, c5, c6, c7].drop 7).take 1 = [c7] := rfl
 rw [e7] at h7
 obtain ⟨a, l, c, hs⟩ : ∃ a l c, [c7] = [Value.slice a l c] := by
  rcases DataW.trod_slice Tryz.underlying22 h7 with ⟨hcs, _⟩ | ⟨ad, l, cp, _, _, _, _, hcs, _⟩
  ·exact ⟨_, _, _, hcs⟩
  ·exact ⟨_, _, _, hcs⟩
 obtain ⟨sa, sl, sc, hss⟩ : ∃ a l c, [c8] = [Value.slice a l c] := by
  rcases DataW.trod_slice Tryz.underlying25 h1 with ⟨hcs, _⟩ | ⟨ad, l, cp, _, _, _, _, hcs, _⟩
  ·exact ⟨_, _, _, hcs⟩
  ·exact ⟨_, _, _, hcs⟩
 rw [hs] at h7
 rw [hss] at h1
 obtain ⟨ts, hts, _⟩ := tiers_open h7 hw7
 obtain ⟨ps, hps, hfine, hl⟩ := steps_open h1 hw1
 simp at q0 q1 q2 q3 q4 q5 q6 hs hss
 subst q0 q1 q2 q3 q4 q5 q6 hs hss
 exact ⟨n0, n1, n2, n3, n4, n5, n6, a, l, c, ts, sa, sl, sc, ps, rfl, hts, hps, hfine, hl⟩
end
theorem fiveK {w : World} {R : Nat} {c0 c1 c2 c3 c4 : Value} {T : TypeId} (h : w.heap[R]? = some (.cells #[c0, c1, c2, c3, c4] T (0, 0))) : w.cell? (aq R 0) = some c0 ∧ w.cell? (aq R 1) = some c1 ∧ w.cell? (aq R 2) = some c2 ∧ w.cell? (aq R 3) = some c3 ∧ w.cell? (aq R 4) = some c4 := by
 refine ⟨?_, ?_, ?_, ?_, ?_⟩ <;> rw [Joins.cell_of_block h] <;> rfl
theorem fourK {w : World} {R : Nat} {c0 c1 c2 c3 : Value} {T : TypeId} (h : w.heap[R]? = some (.cells #[c0, c1, c2, c3] T (0, 0))) : w.cell? (aq R 0) = some c0 ∧ w.cell? (aq R 1) = some c1 ∧ w.cell? (aq R 2) = some c2 ∧ w.cell? (aq R 3) = some c3 := by
 refine ⟨?_, ?_, ?_, ?_⟩ <;> rw [Joins.cell_of_block h] <;> rfl
theorem alloc_two (w : World) (A B : Array Value) {T U : TypeId} : ((w.alloc (.cells A T)).alloc (.cells B U)).heap[w.heap.size + 1]? = some (.cells B U (0, 0)) := by
 have h := heap_alloc_new (w.alloc (.cells A T)) (.cells B U)
 rwa [show (w.alloc (.cells A T)).heap.size = w.heap.size + 1 by simp] at h
theorem five_set {w W : World} {c0 c1 c2 c3 c4 : Value} {T : TypeId} {O : Obj} (hb : Below w.heap.size w W) (h : W.heap[w.heap.size]? = some (.cells #[c0, c1, c2, c3, c4] T (0, 0))) (hp : W.heap[w.heap.size + 1]? = some O) (v0 v1 v2 v3 v4 : Value) :
 ∃ W2, (((((W.setCell (aq w.heap.size 0) v0).setCell (aq w.heap.size 1) v1).setCell (aq w.heap.size 2) v2).setCell (aq w.heap.size 3) v3).setCell (aq w.heap.size 4) v4) = W2 ∧ Below w.heap.size w W2 ∧ W2.heap[w.heap.size]? = some (.cells #[v0, v1, v2, v3, v4] T (0, 0)) ∧ W2.heap[w.heap.size + 1]? = some O := by
 refine ⟨_, rfl, below_set5 hb (Nat.le_refl _), ?_, ?_⟩
 ·have h2 := Joins.block_setCell (i := 0) h v0
  have h3 := Joins.block_setCell (i := 1) h2 v1
  have h4 := Joins.block_setCell (i := 2) h3 v2
  have h5 := Joins.block_setCell (i := 3) h4 v3
  exact Joins.block_setCell (i := 4) h5 v4
 ·have k : ∀ (W : World) (i : Nat) (v : Value), (W.setCell (aq w.heap.size i) v).heap[w.heap.size + 1]? = W.heap[w.heap.size + 1]? := fun W i v => Below.heap_setCell _ (aq w.heap.size i) _ _ (by show w.heap.size + 1 ≠ w.heap.size; omega)
  rw [k, k, k, k, k]
  exact hp
theorem alike_walk (xa xb n : Nat) (v0 v1 v2 v3 v4 v5 v6 v7 : Value) (sa : Option Addr) (sc : Nat) (ps : List Stp) (w : World) (own : Nat → Prop) (P : World → (Nat → Prop) → Prop) (K : Keeps P) (h : P w own) (b0 b1 b2 b3 b4 now : Int) (hn : n ≤ 4611686018427387904) (hps : stepsAt w sa n ps) (hdis : ∀ b off, sa = some (aq b off) → ps ≠ [] → ¬ own b)
 (acc : Int → Int × Int × Int × Int) (rep : Int → Int → Rep)
 (HBa : Hid (doesL w own P P 22 #[pt xa 0] (.agg #[iv b0, iv b1, iv b2, iv b3, iv b4])))
 (HBb : Hid (doesL w own P P 22 #[pt xb 0] (.agg #[iv b0, iv b1, iv b2, iv b3, iv b4])))
 (HCa : Hid (doesL w own P P 23 #[pt xa 0] (iv now)))
 (HCb : Hid (doesL w own P P 23 #[pt xb 0] (iv now)))
 (HAa : Hid (∀ c, doesL w own P P 24 #[pt xa 0, iv c] (.tuple #[.agg #[iv (acc c).1, iv (acc c).2.1, iv (acc c).2.2.1], iv (acc c).2.2.2])))
 (HAb : Hid (∀ c, doesL w own P P 24 #[pt xb 0, iv c] (.tuple #[.agg #[iv (acc c).1, iv (acc c).2.1, iv (acc c).2.2.1], iv (acc c).2.2.2])))
 (HPa : Hid (∀ (i : Nat), i < n → doesL w own P P 25 #[pt xa 0, iv (ps.getD i stp0).c, iv ((i : Int) + 1)] (.tuple #[.agg #[iv (rep (ps.getD i stp0).c ((i : Int) + 1)).kind, iv (rep (ps.getD i stp0).c ((i : Int) + 1)).order, iv (rep (ps.getD i stp0).c ((i : Int) + 1)).cents, iv (rep (ps.getD i stp0).c ((i : Int) + 1)).upto], .bool true])))
 (HPb : Hid (∀ (i : Nat), i < n → doesL w own P P 25 #[pt xb 0, iv (ps.getD i stp0).c, iv ((i : Int) + 1)] (.tuple #[.agg #[iv (rep (ps.getD i stp0).c ((i : Int) + 1)).kind, iv (rep (ps.getD i stp0).c ((i : Int) + 1)).order, iv (rep (ps.getD i stp0).c ((i : Int) + 1)).cents, iv (rep (ps.getD i stp0).c ((i : Int) + 1)).upto], .bool true]))) :
 Calls Tryz.prog 14 #[.agg #[v0, v1, v2, v3, v4, v5, v6, v7, .slice sa n sc], pt xa 0, pt xb 0] w fun e w' => e = .returned (.bool true) ∧ ansP P w w' own := by
 have HW : Hid (∀ k, own k → k < w.heap.size) := K.lt h
 have HS : Hid (∀ W, Same own w W → stepsAt W sa n ps) := fun W hs => ⟨hps.1, fun hne => by
  obtain ⟨b, off, e, hb, hc⟩ := hps.2 hne
  exact ⟨b, off, e, Nat.lt_of_lt_of_le hb hs.size, fun i hi => stpAt_keep (hc i hi) (hs.block b hb (hdis b off e hne))⟩⟩
 have hlen : ps.length = n := hps.1
 have hTx : Hid (seenL P w own (fun k => k = w.heap.size) (w.alloc (.cells #[v0, v1, v2, v3, v4, v5, v6, v7, .slice sa n sc] 27))) := seenL_start K h ((Below.refl _ _).alloc (Nat.le_refl _) _) (fun k e => by simp [e])
 have ybx : Hid ((w.alloc (.cells #[v0, v1, v2, v3, v4, v5, v6, v7, .slice sa n sc] 27)).heap[w.heap.size]? = some (.cells #[v0, v1, v2, v3, v4, v5, v6, v7, .slice sa n sc] 27 (0, 0))) := heap_alloc_new w _
 clear h hps hdis
 go_enter Tryz.func14, Tryz.ntmps14
 go_wp2_with fail
 generalize w.alloc (.cells #[v0, v1, v2, v3, v4, v5, v6, v7, .slice sa n sc] 27) = W0 at hTx ybx ⊢
 refine (HBa.out _ _ hTx.out).mono ?_
 rintro e W1 ⟨rfl, hT1, hk1⟩
 have yb1 : Hid _ := (hk1 _ rfl).trans ybx.out
 have lx1 : w.heap.size < W1.heap.size := (blt yb1.out)
 have hTm : Hid (seenL P w own (fun k => k = w.heap.size ∨ k = W1.heap.size) (W1.alloc (.cells #[iv b0, iv b1, iv b2, iv b3, iv b4] 61))) := seenL_alloc K hT1 _
 have ybm : Hid ((W1.alloc (.cells #[iv b0, iv b1, iv b2, iv b3, iv b4] 61)).heap[w.heap.size]? = _) := (Below.heap_alloc _ _ _ lx1).trans yb1.out
 have mbm : Hid ((W1.alloc (.cells #[iv b0, iv b1, iv b2, iv b3, iv b4] 61)).heap[W1.heap.size]? = some (.cells #[iv b0, iv b1, iv b2, iv b3, iv b4] 61 (0, 0))) := heap_alloc_new W1 _
 clear hk1 hT1 hTx ybx HBa yb1
 go_wp2_with fail
 generalize W1.alloc (.cells #[iv b0, iv b1, iv b2, iv b3, iv b4] 61) = Wm at hTm ybm mbm ⊢
 have hmz : W1.heap.size ≠ w.heap.size := by omega
 generalize W1.heap.size = mz at hTm mbm hmz ⊢
 clear lx1
 refine (HBb.out _ _ hTm.out).mono ?_
 rintro e W2 ⟨rfl, hT2, hk2⟩
 have yb2 : Hid _ := (hk2 _ (.inl rfl)).trans ybm.out
 have mb2 : Hid _ := (hk2 _ (.inr rfl)).trans mbm.out
 have lx2 : w.heap.size < W2.heap.size := (blt yb2.out)
 have lm2 : mz < W2.heap.size := (blt mb2.out)
 have hTn : Hid (seenL P w own (fun k => (k = w.heap.size ∨ k = mz) ∨ k = W2.heap.size) (W2.alloc (.cells #[iv b0, iv b1, iv b2, iv b3, iv b4] 61))) := seenL_alloc K hT2 _
 have ybn : Hid ((W2.alloc (.cells #[iv b0, iv b1, iv b2, iv b3, iv b4] 61)).heap[w.heap.size]? = _) := (Below.heap_alloc _ _ _ lx2).trans yb2.out
 have mbn : Hid ((W2.alloc (.cells #[iv b0, iv b1, iv b2, iv b3, iv b4] 61)).heap[mz]? = _) := (Below.heap_alloc _ _ _ lm2).trans mb2.out
 have nbn : Hid ((W2.alloc (.cells #[iv b0, iv b1, iv b2, iv b3, iv b4] 61)).heap[W2.heap.size]? = some (.cells #[iv b0, iv b1, iv b2, iv b3, iv b4] 61 (0, 0))) := heap_alloc_new W2 _
 clear hk2 hT2 hTm ybm mbm HBb yb2 mb2
 go_wp2_with fail
 generalize W2.alloc (.cells #[iv b0, iv b1, iv b2, iv b3, iv b4] 61) = Wn at hTn ybn mbn nbn ⊢
 have hnz1 : W2.heap.size ≠ w.heap.size := by omega
 have hnz2 : W2.heap.size ≠ mz := by omega
 generalize W2.heap.size = nz at hTn nbn hnz1 hnz2 ⊢
 clear lx2 lm2
 refine (HCa.out _ _ hTn.out).mono ?_
 rintro e W3 ⟨rfl, hT3, hk3⟩
 have yb3 : Hid _ := (hk3 _ (.inl (.inl rfl))).trans ybn.out
 have mb3 : Hid _ := (hk3 _ (.inl (.inr rfl))).trans mbn.out
 have nb3 : Hid _ := (hk3 _ (.inr rfl)).trans nbn.out
 replace hT3 : Hid _ := hT3
 clear hk3 hTn ybn mbn nbn HCa
 go_wp2_with fail
 refine (HCb.out _ _ hT3.out).mono ?_
 rintro e W4 ⟨rfl, hT4, hk4⟩
 have yb4 : Hid _ := (hk4 _ (.inl (.inl rfl))).trans yb3.out
 have mb4 : Hid _ := (hk4 _ (.inl (.inr rfl))).trans mb3.out
 have nb4 : Hid _ := (hk4 _ (.inr rfl)).trans nb3.out
 obtain ⟨m0, m1, m2, m3, m4⟩ := fiveK mb4.out
 obtain ⟨n0, n1, n2, n3, n4⟩ := fiveK nb4.out
 have lm4 : mz < W4.heap.size := (blt mb4.out)
 have ln4 : nz < W4.heap.size := (blt nb4.out)
 have hTl : Hid (seenL P w own (fun k => k = w.heap.size) W4) := by
  obtain ⟨o1, a1, a2, a3, a4⟩ := hT4
  exact ⟨o1, a1, a2, fun k e => (a3 k e).imp id (fun c => ⟨c.1, fun d => c.2 (.inl (.inl d))⟩), fun k e => a4 k (.inl (.inl e))⟩
 clear hk4 hT4 hT3 yb3 mb3 nb3 HCb
 go_wp2_with fail
 clear m0 m1 m2 m3 m4 n0 n1 n2 n3 n4 lm4 ln4 mb4 nb4
 go_loopw [11] (fun i wr => ∃ j : Nat, j ≤ n ∧ i = iv j ∧ Hid (seenL P w own (fun k => k = w.heap.size) wr) ∧ Hid (wr.heap[w.heap.size]? = some (.cells #[v0, v1, v2, v3, v4, v5, v6, v7, .slice sa n sc] 27 (0, 0)))) (fun i _ => n - (intOf i).toNat)
 case atStart => exact ⟨0, Nat.zero_le _, rfl, hTl, yb4⟩
 case round =>
  obtain ⟨j, hj, rfl, HK, yb⟩ := hrel
  clear hTl yb4
  have lx : w.heap.size < wr.heap.size := (blt yb.out)
  have c8 : wr.cell? (aq w.heap.size 8) = some (.slice sa n sc) := by rw [Joins.cell_of_block yb.out]; rfl
  by_cases hlt : j < n
  ·obtain ⟨b, off, rfl, hb, hcell⟩ := (HS.out wr (seenL_same HK.out)).2 (by intro e; rw [e] at hlen; simp at hlen; omega)
   obtain ⟨s0, s1, s2, s3, s4, s5⟩ := hcell j hlt
   have HPaj : Hid _ := HPa.out j hlt
   have HPbj : Hid _ := HPb.out j hlt
   have bj0 : (0 : Int) ≤ (j : Int) := by omega
   have bj1 : (j : Int) < (n : Int) := by omega
   have hwj : IntKind.i64.wrap ((j : Int) + 1) = (j : Int) + 1 := wrap_in (by omega) (by omega)
   generalize hpj : ps.getD j stp0 = pj at s0 s1 s2 s3 s4 s5 HPaj HPbj
   obtain ⟨pn, pk, pt, pc, pu, po⟩ := pj
   simp only at s0 s1 s2 s3 s4 s5 HPaj HPbj
   have HAa1 : Hid _ := HAa.out pc
   have HAb1 : Hid _ := HAb.out pc
   generalize acc pc = aj at HAa1 HAb1
   obtain ⟨a1, a2, a3, a4⟩ := aj
   generalize rep pc ((j : Int) + 1) = rj at HPaj HPbj
   obtain ⟨r1, r2, r3, r4⟩ := rj
   simp only at HAa1 HAb1 HPaj HPbj
   have HSj : Hid (∀ W, Same own w W → b < W.heap.size ∧ stpAt W b (off + j * 6) ⟨pn, pk, pt, pc, pu, po⟩) := by
    intro W hs
    obtain ⟨b', off', e, hb', hc⟩ := (HS.out W hs).2 (by intro e; rw [e] at hlen; simp at hlen; omega)
    simp only [Option.some.injEq, Addr.mk.injEq] at e
    obtain ⟨rfl, rfl, _⟩ := e
    have := hc j hlt
    rw [hpj] at this
    exact ⟨hb', this⟩
   clear HAa HAb HPa HPb hcell hpj
   go_wp2_with fail
   refine (HAa1.out _ _ HK.out).mono ?_
   rintro e V1 ⟨rfl, hV, hk⟩
   clear c8 hb s0 s1 s2 s3 s4 s5 lx
   have f10 : Hid _ := (hk _ rfl).trans yb.out
   have l10 : w.heap.size < V1.heap.size := (blt f10.out)
   have hU1 : Hid (seenL P w own (fun k => k = w.heap.size ∨ k = V1.heap.size) (V1.alloc (.cells #[iv a1, iv a2, iv a3] 65))) := seenL_alloc K hV _
   have g10 : Hid ((V1.alloc (.cells #[iv a1, iv a2, iv a3] 65)).heap[w.heap.size]? = _) := (Below.heap_alloc _ _ _ l10).trans f10.out
   have g11 : Hid ((V1.alloc (.cells #[iv a1, iv a2, iv a3] 65)).heap[V1.heap.size]? = some (.cells #[iv a1, iv a2, iv a3] 65 (0, 0))) := heap_alloc_new V1 _
   have ne10 : V1.heap.size ≠ w.heap.size := by omega
   have c8 : V1.cell? (aq w.heap.size 8) = some (.slice (some (aq b off)) n sc) := by rw [Joins.cell_of_block f10.out]; rfl
   obtain ⟨hb, s0, s1, s2, s3, s4, s5⟩ := HSj.out V1 (seenL_same hV)
   have lx : w.heap.size < V1.heap.size := (blt f10.out)
   clear hk hV HAa1 HK yb f10
   go_wp2_with fail
   generalize V1.alloc (.cells #[iv a1, iv a2, iv a3] 65) = U1 at hU1 g10 g11 ⊢
   clear l10 c8 hb s0 s1 s2 s3 s4 s5 lx
   generalize V1.heap.size = cz at hU1 g11 ne10 ⊢
   have c8 : U1.cell? (aq w.heap.size 8) = some (.slice (some (aq b off)) n sc) := by rw [Joins.cell_of_block g10.out]; rfl
   obtain ⟨hb, s0, s1, s2, s3, s4, s5⟩ := HSj.out U1 (seenL_same hU1.out)
   have lx : w.heap.size < U1.heap.size := (blt g10.out)
   refine (HAb1.out _ _ hU1.out).mono ?_
   rintro e V2 ⟨rfl, hV, hk⟩
   clear c8 hb s0 s1 s2 s3 s4 s5 lx
   have f20 : Hid _ := (hk _ (.inl rfl)).trans g10.out
   have l20 : w.heap.size < V2.heap.size := (blt f20.out)
   have f21 : Hid _ := (hk _ (.inr rfl)).trans g11.out
   have l21 : cz < V2.heap.size := (blt f21.out)
   have hU2 : Hid (seenL P w own (fun k => (k = w.heap.size ∨ k = cz) ∨ k = V2.heap.size) (V2.alloc (.cells #[iv a1, iv a2, iv a3] 65))) := seenL_alloc K hV _
   have g20 : Hid ((V2.alloc (.cells #[iv a1, iv a2, iv a3] 65)).heap[w.heap.size]? = _) := (Below.heap_alloc _ _ _ l20).trans f20.out
   have g21 : Hid ((V2.alloc (.cells #[iv a1, iv a2, iv a3] 65)).heap[cz]? = _) := (Below.heap_alloc _ _ _ l21).trans f21.out
   have g22 : Hid ((V2.alloc (.cells #[iv a1, iv a2, iv a3] 65)).heap[V2.heap.size]? = some (.cells #[iv a1, iv a2, iv a3] 65 (0, 0))) := heap_alloc_new V2 _
   have ne20 : V2.heap.size ≠ w.heap.size := by omega
   have ne21 : V2.heap.size ≠ cz := by omega
   have c8 : V2.cell? (aq w.heap.size 8) = some (.slice (some (aq b off)) n sc) := by rw [Joins.cell_of_block f20.out]; rfl
   obtain ⟨hb, s0, s1, s2, s3, s4, s5⟩ := HSj.out V2 (seenL_same hV)
   have lx : w.heap.size < V2.heap.size := (blt f20.out)
   obtain ⟨q0, q1, q2⟩ := three_cells f21.out
   clear hk hV HAb1 hU1 g10 g11 f20 f21
   go_wp2_with fail
   clear q0 q1 q2
   generalize V2.alloc (.cells #[iv a1, iv a2, iv a3] 65) = U2 at hU2 g20 g21 g22 ⊢
   clear l20 l21 c8 hb s0 s1 s2 s3 s4 s5 lx
   generalize V2.heap.size = dz at hU2 g22 ne20 ne21 ⊢
   have c8 : U2.cell? (aq w.heap.size 8) = some (.slice (some (aq b off)) n sc) := by rw [Joins.cell_of_block g20.out]; rfl
   obtain ⟨hb, s0, s1, s2, s3, s4, s5⟩ := HSj.out U2 (seenL_same hU2.out)
   have lx : w.heap.size < U2.heap.size := (blt g20.out)
   refine (HPaj.out _ _ hU2.out).mono ?_
   rintro e V3 ⟨rfl, hV, hk⟩
   clear c8 hb s0 s1 s2 s3 s4 s5 lx
   have f30 : Hid _ := (hk _ (.inl (.inl rfl))).trans g20.out
   have l30 : w.heap.size < V3.heap.size := (blt f30.out)
   have f31 : Hid _ := (hk _ (.inl (.inr rfl))).trans g21.out
   have l31 : cz < V3.heap.size := (blt f31.out)
   have f32 : Hid _ := (hk _ (.inr rfl)).trans g22.out
   have l32 : dz < V3.heap.size := (blt f32.out)
   have hU3 : Hid (seenL P w own (fun k => ((k = w.heap.size ∨ k = cz) ∨ k = dz) ∨ k = V3.heap.size) (V3.alloc (.cells #[iv r1, iv r2, iv r3, iv r4] 33))) := seenL_alloc K hV _
   have g30 : Hid ((V3.alloc (.cells #[iv r1, iv r2, iv r3, iv r4] 33)).heap[w.heap.size]? = _) := (Below.heap_alloc _ _ _ l30).trans f30.out
   have g31 : Hid ((V3.alloc (.cells #[iv r1, iv r2, iv r3, iv r4] 33)).heap[cz]? = _) := (Below.heap_alloc _ _ _ l31).trans f31.out
   have g32 : Hid ((V3.alloc (.cells #[iv r1, iv r2, iv r3, iv r4] 33)).heap[dz]? = _) := (Below.heap_alloc _ _ _ l32).trans f32.out
   have g33 : Hid ((V3.alloc (.cells #[iv r1, iv r2, iv r3, iv r4] 33)).heap[V3.heap.size]? = some (.cells #[iv r1, iv r2, iv r3, iv r4] 33 (0, 0))) := heap_alloc_new V3 _
   have ne30 : V3.heap.size ≠ w.heap.size := by omega
   have ne31 : V3.heap.size ≠ cz := by omega
   have ne32 : V3.heap.size ≠ dz := by omega
   have c8 : V3.cell? (aq w.heap.size 8) = some (.slice (some (aq b off)) n sc) := by rw [Joins.cell_of_block f30.out]; rfl
   obtain ⟨hb, s0, s1, s2, s3, s4, s5⟩ := HSj.out V3 (seenL_same hV)
   have lx : w.heap.size < V3.heap.size := (blt f30.out)
   clear hk hV HPaj hU2 g20 g21 g22 f30 f31 f32
   go_wp2_with fail
   generalize V3.alloc (.cells #[iv r1, iv r2, iv r3, iv r4] 33) = U3 at hU3 g30 g31 g32 g33 ⊢
   clear l30 l31 l32 c8 hb s0 s1 s2 s3 s4 s5 lx
   generalize V3.heap.size = pz at hU3 g33 ne30 ne31 ne32 ⊢
   have c8 : U3.cell? (aq w.heap.size 8) = some (.slice (some (aq b off)) n sc) := by rw [Joins.cell_of_block g30.out]; rfl
   obtain ⟨hb, s0, s1, s2, s3, s4, s5⟩ := HSj.out U3 (seenL_same hU3.out)
   have lx : w.heap.size < U3.heap.size := (blt g30.out)
   refine (HPbj.out _ _ hU3.out).mono ?_
   rintro e V4 ⟨rfl, hV, hk⟩
   clear c8 hb s0 s1 s2 s3 s4 s5 lx
   have f40 : Hid _ := (hk _ (.inl (.inl (.inl rfl)))).trans g30.out
   have l40 : w.heap.size < V4.heap.size := (blt f40.out)
   have f41 : Hid _ := (hk _ (.inl (.inl (.inr rfl)))).trans g31.out
   have l41 : cz < V4.heap.size := (blt f41.out)
   have f42 : Hid _ := (hk _ (.inl (.inr rfl))).trans g32.out
   have l42 : dz < V4.heap.size := (blt f42.out)
   have f43 : Hid _ := (hk _ (.inr rfl)).trans g33.out
   have l43 : pz < V4.heap.size := (blt f43.out)
   have hU4 : Hid (seenL P w own (fun k => (((k = w.heap.size ∨ k = cz) ∨ k = dz) ∨ k = pz) ∨ k = V4.heap.size) (V4.alloc (.cells #[iv r1, iv r2, iv r3, iv r4] 33))) := seenL_alloc K hV _
   have g40 : Hid ((V4.alloc (.cells #[iv r1, iv r2, iv r3, iv r4] 33)).heap[w.heap.size]? = _) := (Below.heap_alloc _ _ _ l40).trans f40.out
   have g41 : Hid ((V4.alloc (.cells #[iv r1, iv r2, iv r3, iv r4] 33)).heap[cz]? = _) := (Below.heap_alloc _ _ _ l41).trans f41.out
   have g42 : Hid ((V4.alloc (.cells #[iv r1, iv r2, iv r3, iv r4] 33)).heap[dz]? = _) := (Below.heap_alloc _ _ _ l42).trans f42.out
   have g43 : Hid ((V4.alloc (.cells #[iv r1, iv r2, iv r3, iv r4] 33)).heap[pz]? = _) := (Below.heap_alloc _ _ _ l43).trans f43.out
   have g44 : Hid ((V4.alloc (.cells #[iv r1, iv r2, iv r3, iv r4] 33)).heap[V4.heap.size]? = some (.cells #[iv r1, iv r2, iv r3, iv r4] 33 (0, 0))) := heap_alloc_new V4 _
   have ne40 : V4.heap.size ≠ w.heap.size := by omega
   have ne41 : V4.heap.size ≠ cz := by omega
   have ne42 : V4.heap.size ≠ dz := by omega
   have ne43 : V4.heap.size ≠ pz := by omega
   have c8 : V4.cell? (aq w.heap.size 8) = some (.slice (some (aq b off)) n sc) := by rw [Joins.cell_of_block f40.out]; rfl
   obtain ⟨hb, s0, s1, s2, s3, s4, s5⟩ := HSj.out V4 (seenL_same hV)
   have lx : w.heap.size < V4.heap.size := (blt f40.out)
   obtain ⟨q0, q1, q2, q3⟩ := fourK f43.out
   clear hk hV HPbj hU3 g30 g31 g32 g33 f40 f41 f42 f43
   have HNX : Hid (∃ j' : Nat, j' ≤ n ∧ Value.int .i64 ((j : Int) + 1) = iv j' ∧ Hid (seenL P w own (fun k => k = w.heap.size) (V4.alloc (.cells #[iv r1, iv r2, iv r3, iv r4] 33))) ∧ Hid ((V4.alloc (.cells #[iv r1, iv r2, iv r3, iv r4] 33)).heap[w.heap.size]? = some (.cells #[v0, v1, v2, v3, v4, v5, v6, v7, .slice (some (aq b off)) n sc] 27 (0, 0)))) := ⟨j + 1, by omega, by simp, by
    obtain ⟨o1, p1, p2, p3, p4⟩ := hU4.out
    exact ⟨o1, p1, p2, fun k e => (p3 k e).imp id (fun c => ⟨c.1, fun d => c.2 (.inl (.inl (.inl (.inl d))))⟩), fun k e => p4 k (.inl (.inl (.inl (.inl e))))⟩, g40⟩
   go_wp2_with fail
   go_roundw
   case rel => first | exact HNX.out | (rw [hwj]; exact HNX.out)
   case measure => simp [intOf]; omega
  ·have hje : j = n := by omega
   subst hje
   clear HPa HPb HAa HAb HS
   go_wp2
   refine bodyPost_ret (v := .bool true) (by simp [results, Tryz.results14, go_sem]) rfl ⟨rfl, seenL_end (seenL_below K HK.out bL)⟩
end Go.Proofs.YtfhncfghblkgeabGreat
