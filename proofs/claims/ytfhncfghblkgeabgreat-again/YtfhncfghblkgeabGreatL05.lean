import Derived.Test.YtfhncfghblkgeabGreatL04
set_option maxRecDepth 100000
set_option maxHeartbeats 2000000
namespace Go.Proofs.YtfhncfghblkgeabGreat
open Go.RowKit
def codedAt (n K j m : Nat) (g : List Int) : Prop := K = (code n).length ∧ g.length = j ∧ (j < K → code n = g ++ code m) ∧ (j = K → code n = g)
theorem codedAt_start (n : Nat) : codedAt n (code n).length 0 n [] := ⟨rfl, rfl, fun _ => rfl, fun h => by have := code_pos n; omega⟩
theorem codedAt_last {n K j m : Nat} {g : List Int} (h : codedAt n K j m g) (hj : j < K) (hm : m < 128) : j + 1 = K ∧ codedAt n K (j + 1) (m / 128) (g ++ [(m : Int)]) := by
 obtain ⟨hK, hg, h1, _⟩ := h
 have h1 := h1 hj
 rw [code_small hm] at h1
 have e : K = j + 1 := by rw [hK, h1]; simp [hg]
 exact ⟨e.symm, hK, by simp [hg], fun h => by omega, fun _ => h1⟩
theorem codedAt_more {n K j m : Nat} {g : List Int} (h : codedAt n K j m g) (hj : j < K) (hm : ¬ m < 128) : j + 1 < K ∧ codedAt n K (j + 1) (m / 128) (g ++ [((m % 128 + 128 : Nat) : Int)]) := by
 obtain ⟨hK, hg, h1, _⟩ := h
 have h1 := code_split_great (h1 hj) hm
 have hp := code_pos (m / 128)
 have e : j + 1 < K := by rw [hK, h1]; simp [hg]; omega
 exact ⟨e, hK, by simp [hg], fun _ => h1, fun h => by omega⟩
theorem map_app (xs g : List Int) (x : Int) : (xs ++ (g ++ [x])).map (Value.int .u8) = (xs ++ g).map (Value.int .u8) ++ [.int .u8 x] := by simp
theorem coded_nat (v : Value) (xs : List Int) (n B : Nat) (w : World) (hn : n < 9223372036854775808) (hB : B ≤ w.heap.size) (hx : xs.length ≤ 1000) (hv : w.ownsRow B 5 1 v xs.length (xs.map (Value.int .u8))) :
 Calls Tryz.prog 45 #[v, iv n] w fun e w' => ∃ v', e = .returned v' ∧ w'.ownsRow B 5 1 v' (xs ++ code n).length ((xs ++ code n).map (Value.int .u8)) ∧ Below B w w' := by
 obtain ⟨i0, hi, hz0, hz1, hz2⟩ := info_parts Tryz.infoU8
 have hl := code_len9 hn
 have hp := code_pos n
 have hA := codedAt_start n
 generalize hK : (code n).length = K at hl hp hA
 have HK : Hid ((code n).length = K) := hK
 have HA : Hid (codedAt n K 0 n []) := hA
 go_enter Tryz.func45, Tryz.ntmps45
 go_wp2_with (go_at_call 70; refine (groups_any n _ hn).mono ?_; rintro e w' ⟨rfl, rfl⟩; rw [HK.out])
 clear hK hA
 go_loopw [0, 1, 6] (fun b x i wr => ∃ (j m : Nat) (g : List Int), j ≤ K ∧ m ≤ n ∧ x = iv m ∧ i = iv j ∧ Hid (codedAt n K j m g) ∧ wr.ownsRow B 5 1 b (xs ++ g).length ((xs ++ g).map (Value.int .u8)) ∧ Below B w wr) (fun _ _ i _ => K - (intOf i).toNat)
 case atStart => exact ⟨0, n, [], Nat.zero_le _, Nat.le_refl _, rfl, rfl, HA, by simpa using hv, Below.refl _ _⟩
 case round =>
  obtain ⟨j, m, g, hj, hm, rfl, rfl, hc, hown, hbel⟩ := hrel
  clear hv
  have hsz : B ≤ wr.heap.size := Nat.le_trans hB hbel.size
  have hgl : g.length ≤ 9 := by have := hc.out.2.1; omega
  have hxg : (xs ++ g).length ≤ 1009 := by simp; omega
  have HO : Hid (∀ k, u0.ownBlock = some k → B ≤ k ∧ k < wr.heap.size) := World.ownsRow.lt hown
  by_cases hjk : j < K
  ·by_cases hlt : m < 128
   ·obtain ⟨hlast, hc'⟩ := codedAt_last hc hjk hlt
    have HC : Hid (codedAt n K (j + 1) (m / 128) (g ++ [(m : Int)])) := hc'
    have HE : Hid ((m : Int) % 128 = m) := by unfold Hid; omega
    have hnot : ¬ j < K - 1 := by omega
    clear hc' hc hlast
    go_wp2_with (at_builtin; refine wpList_append_own _ rfl _ _ 70 rfl B 5 i0 (.int .u8 0) 1 1 Tryz.underlying70 hi hz0 hz1 hz2 rfl (by decide) _ _ _ rfl (hown.alloc _) (aq wr.heap.size 0) 1 1 [.int .u8 (↑m % 128)] rfl rfl ?c1 ?c2 ?c3 ?c4 ?c5 ?_)
    case c1 => exact cell_one_new _ _ _
    case c2 => intro u hu; simp at hu; subst hu; rfl
    case c3 => unfold maxLen; omega
    case c4 => omega
    case c5 => simp; omega
    intro v' w1 hown' hgrow _
    clear hown
    go_wp2
    go_roundw
    case rel =>
     refine ⟨j + 1, m / 128, g ++ [(m : Int)], by omega, by omega, by go_num, by go_num, HC, ?_, ?_⟩
     ·rw [map_app]; rw [HE.out] at hown'; simpa [Nat.add_assoc] using hown'
     ·exact (hbel.alloc hsz _).grown hgrow (by simp; omega) (fun k hk => (HO.out k hk).1)
    case measure => simp [intOf]; omega
   ·obtain ⟨hmore, hc'⟩ := codedAt_more hc hjk hlt
    have HC : Hid (codedAt n K (j + 1) (m / 128) (g ++ [((m % 128 + 128 : Nat) : Int)])) := hc'
    have hyes : (j : Int) < (K : Int) - 1 := by omega
    clear hc' hc hmore
    go_wp2_with (at_builtin; refine wpList_append_own _ rfl _ _ 70 rfl B 5 i0 (.int .u8 0) 1 1 Tryz.underlying70 hi hz0 hz1 hz2 rfl (by decide) _ _ _ rfl (hown.alloc _) (aq wr.heap.size 0) 1 1 [.int .u8 (↑m % 128 + 128)] rfl rfl ?c1 ?c2 ?c3 ?c4 ?c5 ?_)
    case c1 => exact cell_one_new _ _ _
    case c2 => intro u hu; simp at hu; subst hu; rfl
    case c3 => unfold maxLen; omega
    case c4 => omega
    case c5 => simp; omega
    intro v' w1 hown' hgrow _
    clear hown
    go_wp2
    go_roundw
    case rel =>
     refine ⟨j + 1, m / 128, g ++ [((m % 128 + 128 : Nat) : Int)], by omega, by omega, by go_num, by go_num, HC, ?_, ?_⟩
     ·rw [map_app]; simpa [Nat.add_assoc] using hown'
     ·exact (hbel.alloc hsz _).grown hgrow (by simp; omega) (fun k hk => (HO.out k hk).1)
    case measure => simp [intOf]; omega
  ·have HE : Hid (code n = g) := hc.out.2.2.2 (by omega)
   go_wp2
   go_ret
   exact ⟨_, rfl, by rw [HE.out]; exact hown, hbel⟩
theorem bcellAt {B : Nat} {W w1 : World} (hb : Below B W w1) (b o : Nat) (h : b < B) : w1.cell? (aq b o) = W.cell? (aq b o) := hb.cell (p := (aq b o)) h
theorem code_zero : code 0 = [0] := by first | rfl | (simp [code, codeF])
theorem coded_neg (v : Value) (xs : List Int) (z : Int) (B : Nat) (w : World) (hz : z < 0) (hB : B ≤ w.heap.size) (hx : xs.length ≤ 1000) (hv : w.ownsRow B 5 1 v xs.length (xs.map (Value.int .u8))) :
 Calls Tryz.prog 45 #[v, iv z] w fun e w' => ∃ v', e = .returned v' ∧ w'.ownsRow B 5 1 v' (xs ++ [0]).length ((xs ++ [0]).map (Value.int .u8)) ∧ Below B w w' := by
 obtain ⟨i0, hi, hz0, hz1, hz2⟩ := info_parts Tryz.infoU8
 have hG : Hid (∀ W, Calls Tryz.prog 70 #[iv 0] W fun e w' => e = .returned (iv 1) ∧ W = w') := fun W => by
  have := groups_any 0 W (by omega)
  rw [code_zero] at this
  exact this
 go_enter Tryz.func45, Tryz.ntmps45
 go_wp2_with (go_at_call 70; refine (hG.out _).mono ?_; rintro e w' ⟨rfl, rfl⟩)
 go_loopw [0, 1, 6] (fun b x i wr => ∃ (j : Nat) (g : List Int), x = iv 0 ∧ i = iv j ∧ ((j = 0 ∧ g = []) ∨ (j = 1 ∧ g = [0])) ∧ wr.ownsRow B 5 1 b (xs ++ g).length ((xs ++ g).map (Value.int .u8)) ∧ Below B w wr) (fun _ _ i _ => 1 - (intOf i).toNat)
 case atStart => exact ⟨0, [], rfl, rfl, .inl ⟨rfl, rfl⟩, by simpa using hv, Below.refl _ _⟩
 case round =>
  obtain ⟨j, g, rfl, rfl, hjg, hown, hbel⟩ := hrel
  clear hv
  have hsz : B ≤ wr.heap.size := Nat.le_trans hB hbel.size
  have HO : Hid (∀ k, u0.ownBlock = some k → B ≤ k ∧ k < wr.heap.size) := World.ownsRow.lt hown
  rcases hjg with ⟨rfl, rfl⟩ | ⟨rfl, rfl⟩
  ·rw [List.append_nil] at hown
   go_wp2_with (at_builtin; refine wpList_append_own _ rfl _ _ 70 rfl B 5 i0 (.int .u8 0) 1 1 Tryz.underlying70 hi hz0 hz1 hz2 rfl (by decide) _ _ _ rfl (hown.alloc _) (aq wr.heap.size 0) 1 1 [.int .u8 0] rfl rfl ?c1 ?c2 ?c3 ?c4 ?c5 ?_)
   case c1 => exact cell_one_new _ _ _
   case c2 => intro u hu; simp at hu; subst hu; rfl
   case c3 => unfold maxLen; omega
   case c4 => omega
   case c5 => simp; omega
   intro v' w1 hown' hgrow _
   clear hown
   go_wp2
   go_roundw
   case rel =>
    refine ⟨1, [0], rfl, by go_num, .inr ⟨rfl, rfl⟩, ?_, ?_⟩
    ·simpa [Nat.add_assoc] using hown'
    ·exact (hbel.alloc hsz _).grown hgrow (by simp; omega) (fun k hk => (HO.out k hk).1)
   case measure => simp [intOf]
  ·go_wp2
   go_ret
   exact ⟨_, rfl, hown, hbel⟩
theorem coded_any (v : Value) (xs : List Int) (z : Int) (B : Nat) (w : World) (hz : z < 9223372036854775808) (hB : B ≤ w.heap.size) (hx : xs.length ≤ 1000) (hv : w.ownsRow B 5 1 v xs.length (xs.map (Value.int .u8))) :
 Calls Tryz.prog 45 #[v, iv z] w fun e w' => ∃ v', e = .returned v' ∧ w'.ownsRow B 5 1 v' (xs ++ code z.toNat).length ((xs ++ code z.toNat).map (Value.int .u8)) ∧ Below B w w' := by
 by_cases h0 : z < 0
 ·have e : z.toNat = 0 := by omega
  rw [e, code_zero]
  exact coded_neg v xs z B w h0 hB hx hv
 ·have := coded_nat v xs z.toNat B w (by omega) hB hx hv
  rw [show ((z.toNat : Nat) : Int) = z by omega] at this
  exact this
theorem framedI_1 (t c u o : Int) (w : World) (ht : t < 9223372036854775808) (hc : c < 9223372036854775808) (hu : u < 9223372036854775808) :
 Calls Tryz.prog 28 #[.agg #[iv 1, iv t, iv c, iv u, iv o]] w fun e w' => ∃ v, e = .returned v ∧ w'.ownsRow w.heap.size 5 1 v (frameB 1 [t, c, u]).length ((frameB 1 [t, c, u]).map (Value.int .u8)) ∧ Below w.heap.size w w' := by
 have lt := code_len9 (show t.toNat < 9223372036854775808 by omega)
 have lc := code_len9 (show c.toNat < 9223372036854775808 by omega)
 have lu := code_len9 (show u.toNat < 9223372036854775808 by omega)
 go_enter Tryz.func28, Tryz.ntmps28
 go_wp2_with fail
 refine (coded_any _ ([(1 : Int)]) t (w.heap.size + 1) _ ht (by simp) (by simp <;> omega) (ownsRow_one (by simp) (.int .u8 1))).mono ?_
 rintro e w0 ⟨v0, rfl, h0, b0⟩
 have s0 : w.heap.size + 1 ≤ w0.heap.size := Nat.le_trans (by simp) b0.size
 have k00 : w0.cell? (aq w.heap.size 0) = some (iv 1) := (bcellAt b0 _ _ (by omega)).trans (by simp [go_sem])
 have k01 : w0.cell? (aq w.heap.size 1) = some (iv t) := (bcellAt b0 _ _ (by omega)).trans (by simp [go_sem])
 have k02 : w0.cell? (aq w.heap.size 2) = some (iv c) := (bcellAt b0 _ _ (by omega)).trans (by simp [go_sem])
 have k03 : w0.cell? (aq w.heap.size 3) = some (iv u) := (bcellAt b0 _ _ (by omega)).trans (by simp [go_sem])
 have k04 : w0.cell? (aq w.heap.size 4) = some (iv o) := (bcellAt b0 _ _ (by omega)).trans (by simp [go_sem])
 go_wp2_with fail
 refine (coded_any _ ([(1 : Int)] ++ code t.toNat) c (w.heap.size + 1) _ hc s0 (by simp <;> omega) h0).mono ?_
 rintro e w1 ⟨v1, rfl, h1, b1⟩
 have s1 : w.heap.size + 1 ≤ w1.heap.size := Nat.le_trans s0 b1.size
 have k10 : w1.cell? (aq w.heap.size 0) = some (iv 1) := (bcellAt b1 _ _ (by omega)).trans k00
 have k11 : w1.cell? (aq w.heap.size 1) = some (iv t) := (bcellAt b1 _ _ (by omega)).trans k01
 have k12 : w1.cell? (aq w.heap.size 2) = some (iv c) := (bcellAt b1 _ _ (by omega)).trans k02
 have k13 : w1.cell? (aq w.heap.size 3) = some (iv u) := (bcellAt b1 _ _ (by omega)).trans k03
 have k14 : w1.cell? (aq w.heap.size 4) = some (iv o) := (bcellAt b1 _ _ (by omega)).trans k04
 clear k00 k01 k02 k03 k04
 go_wp2_with fail
 refine (coded_any _ ([(1 : Int)] ++ code t.toNat ++ code c.toNat) u (w.heap.size + 1) _ hu s1 (by simp <;> omega) h1).mono ?_
 rintro e w2 ⟨v2, rfl, h2, b2⟩
 go_wp2_with fail
 go_ret
 refine ⟨_, rfl, ?_, ?_⟩
 ·have e : frameB 1 [t, c, u] = [(1 : Int)] ++ code t.toNat ++ code c.toNat ++ code u.toNat := by simp [frameB]
  rw [e]; exact ownsRow_mono h2 (by omega)
 ·exact ((((show Below w.heap.size w _ from bL)).trans (b0.mono (by omega))).trans (b1.mono (by omega))).trans (b2.mono (by omega))
theorem framedI_4 (t c u o : Int) (w : World) (hc : c < 9223372036854775808) (ho : o < 9223372036854775808) :
 Calls Tryz.prog 28 #[.agg #[iv 4, iv t, iv c, iv u, iv o]] w fun e w' => ∃ v, e = .returned v ∧ w'.ownsRow w.heap.size 5 1 v (frameB 4 [c, o]).length ((frameB 4 [c, o]).map (Value.int .u8)) ∧ Below w.heap.size w w' := by
 have lc := code_len9 (show c.toNat < 9223372036854775808 by omega)
 have lo := code_len9 (show o.toNat < 9223372036854775808 by omega)
 go_enter Tryz.func28, Tryz.ntmps28
 go_wp2_with fail
 refine (coded_any _ ([(4 : Int)]) c (w.heap.size + 1) _ hc (by simp) (by simp <;> omega) (ownsRow_one (by simp) (.int .u8 4))).mono ?_
 rintro e w0 ⟨v0, rfl, h0, b0⟩
 have s0 : w.heap.size + 1 ≤ w0.heap.size := Nat.le_trans (by simp) b0.size
 have k00 : w0.cell? (aq w.heap.size 0) = some (iv 4) := (bcellAt b0 _ _ (by omega)).trans (by simp [go_sem])
 have k01 : w0.cell? (aq w.heap.size 1) = some (iv t) := (bcellAt b0 _ _ (by omega)).trans (by simp [go_sem])
 have k02 : w0.cell? (aq w.heap.size 2) = some (iv c) := (bcellAt b0 _ _ (by omega)).trans (by simp [go_sem])
 have k03 : w0.cell? (aq w.heap.size 3) = some (iv u) := (bcellAt b0 _ _ (by omega)).trans (by simp [go_sem])
 have k04 : w0.cell? (aq w.heap.size 4) = some (iv o) := (bcellAt b0 _ _ (by omega)).trans (by simp [go_sem])
 go_wp2_with fail
 refine (coded_any _ ([(4 : Int)] ++ code c.toNat) o (w.heap.size + 1) _ ho s0 (by simp <;> omega) h0).mono ?_
 rintro e w1 ⟨v1, rfl, h1, b1⟩
 go_wp2_with fail
 go_ret
 refine ⟨_, rfl, ?_, ?_⟩
 ·have e : frameB 4 [c, o] = [(4 : Int)] ++ code c.toNat ++ code o.toNat := by simp [frameB]
  rw [e]; exact ownsRow_mono h1 (by omega)
 ·exact (((show Below w.heap.size w _ from bL)).trans (b0.mono (by omega))).trans (b1.mono (by omega))
theorem framedI_k (k t c u o : Int) (w : World) (hk0 : 0 ≤ k) (hk1 : k < 256) (hk2 : k ≠ 1) (hk3 : k ≠ 4) (ht : t < 9223372036854775808) (hc : c < 9223372036854775808) (ho : o < 9223372036854775808) :
 Calls Tryz.prog 28 #[.agg #[iv k, iv t, iv c, iv u, iv o]] w fun e w' => ∃ v, e = .returned v ∧ w'.ownsRow w.heap.size 5 1 v (frameB k [t, c, o]).length ((frameB k [t, c, o]).map (Value.int .u8)) ∧ Below w.heap.size w w' := by
 have lt := code_len9 (show t.toNat < 9223372036854775808 by omega)
 have lc := code_len9 (show c.toNat < 9223372036854775808 by omega)
 have lo := code_len9 (show o.toNat < 9223372036854775808 by omega)
 have hw8 : IntKind.u8.wrap k = k := by unfold IntKind.wrap; simp [IntKind.signed, IntKind.bits]; omega
 have e1 : (k == 1) = false := by simpa using hk2
 have e4 : (k == 4) = false := by simpa using hk3
 go_enter Tryz.func28, Tryz.ntmps28
 go_wp2_with fail
 refine (coded_any _ ([(k : Int)]) t (w.heap.size + 1) _ ht (by simp) (by simp <;> omega) (ownsRow_one (by simp) (.int .u8 k))).mono ?_
 rintro e w0 ⟨v0, rfl, h0, b0⟩
 have s0 : w.heap.size + 1 ≤ w0.heap.size := Nat.le_trans (by simp) b0.size
 have k00 : w0.cell? (aq w.heap.size 0) = some (iv k) := (bcellAt b0 _ _ (by omega)).trans (by simp [go_sem])
 have k01 : w0.cell? (aq w.heap.size 1) = some (iv t) := (bcellAt b0 _ _ (by omega)).trans (by simp [go_sem])
 have k02 : w0.cell? (aq w.heap.size 2) = some (iv c) := (bcellAt b0 _ _ (by omega)).trans (by simp [go_sem])
 have k03 : w0.cell? (aq w.heap.size 3) = some (iv u) := (bcellAt b0 _ _ (by omega)).trans (by simp [go_sem])
 have k04 : w0.cell? (aq w.heap.size 4) = some (iv o) := (bcellAt b0 _ _ (by omega)).trans (by simp [go_sem])
 go_wp2_with fail
 refine (coded_any _ ([(k : Int)] ++ code t.toNat) c (w.heap.size + 1) _ hc s0 (by simp <;> omega) h0).mono ?_
 rintro e w1 ⟨v1, rfl, h1, b1⟩
 have s1 : w.heap.size + 1 ≤ w1.heap.size := Nat.le_trans s0 b1.size
 have k10 : w1.cell? (aq w.heap.size 0) = some (iv k) := (bcellAt b1 _ _ (by omega)).trans k00
 have k11 : w1.cell? (aq w.heap.size 1) = some (iv t) := (bcellAt b1 _ _ (by omega)).trans k01
 have k12 : w1.cell? (aq w.heap.size 2) = some (iv c) := (bcellAt b1 _ _ (by omega)).trans k02
 have k13 : w1.cell? (aq w.heap.size 3) = some (iv u) := (bcellAt b1 _ _ (by omega)).trans k03
 have k14 : w1.cell? (aq w.heap.size 4) = some (iv o) := (bcellAt b1 _ _ (by omega)).trans k04
 clear k00 k01 k02 k03 k04
 go_wp2_with fail
 refine (coded_any _ ([(k : Int)] ++ code t.toNat ++ code c.toNat) o (w.heap.size + 1) _ ho s1 (by simp <;> omega) h1).mono ?_
 rintro e w2 ⟨v2, rfl, h2, b2⟩
 go_wp2_with fail
 go_ret
 refine ⟨_, rfl, ?_, ?_⟩
 ·have e : frameB k [t, c, o] = [(k : Int)] ++ code t.toNat ++ code c.toNat ++ code o.toNat := by simp [frameB]
  rw [e]; exact ownsRow_mono h2 (by omega)
 ·exact ((((show Below w.heap.size w _ from bL)).trans (b0.mono (by omega))).trans (b1.mono (by omega))).trans (b2.mono (by omega))
def numsK (k t c u o : Int) : List Int := if k = 4 then [c, o] else if k = 1 then [t, c, u] else [t, c, o]
theorem framedI (k t c u o : Int) (w : World) (hk0 : 0 ≤ k) (hk1 : k < 256) (ht : t < 9223372036854775808) (hc : c < 9223372036854775808) (hu : u < 9223372036854775808) (ho : o < 9223372036854775808) :
 Calls Tryz.prog 28 #[.agg #[iv k, iv t, iv c, iv u, iv o]] w fun e w' => ∃ v, e = .returned v ∧ w'.ownsRow w.heap.size 5 1 v (frameB k (numsK k t c u o)).length ((frameB k (numsK k t c u o)).map (Value.int .u8)) ∧ Below w.heap.size w w' := by
 unfold numsK
 by_cases h4 : k = 4
 ·subst h4; exact framedI_4 t c u o w hc ho
 ·rw [if_neg h4]
  by_cases h1 : k = 1
  ·subst h1; exact framedI_1 t c u o w ht hc hu
  ·rw [if_neg h1]; exact framedI_k k t c u o w hk0 hk1 h1 h4 ht hc ho
def bareT (k t : Int) : Int := if k = 4 then 0 else t
def bareU (k u : Int) : Int := if k = 1 then u else 0
def bareO (k o : Int) : Int := if k = 1 then 0 else o
theorem bare_any (k t c u o : Int) (w : World) :
 Calls Tryz.prog 46 #[.agg #[iv k, iv t, iv c, iv u, iv o]] w fun e w' => e = .returned (.agg #[iv k, iv (bareT k t), iv c, iv (bareU k u), iv (bareO k o)]) ∧ Below w.heap.size w w' := by
 by_cases h4 : k = 4
 ·subst h4
  rw [show bareT 4 t = 0 from rfl, show bareU 4 u = 0 from rfl, show bareO 4 o = o from rfl]
  go_enter Tryz.func46, Tryz.ntmps46
  go_wp2
  refine bodyPost_ret (v := .agg #[iv 4, iv 0, iv c, iv 0, iv o]) (by simp [results, Tryz.results46, go_sem]) rfl ⟨rfl, bL⟩
 ·by_cases h1 : k = 1
  ·subst h1
   rw [show bareT 1 t = t from rfl, show bareU 1 u = u from rfl, show bareO 1 o = 0 from rfl]
   go_enter Tryz.func46, Tryz.ntmps46
   go_wp2
   refine bodyPost_ret (v := .agg #[iv 1, iv t, iv c, iv u, iv 0]) (by simp [results, Tryz.results46, go_sem]) rfl ⟨rfl, bL⟩
  ·rw [show bareT k t = t from if_neg h4, show bareU k u = 0 from if_neg h1, show bareO k o = o from if_neg h1]
   have e4 : (k == 4) = false := by simpa using h4
   have e1 : (k == 1) = false := by simpa using h1
   go_enter Tryz.func46, Tryz.ntmps46
   go_wp2
   refine bodyPost_ret (v := .agg #[iv k, iv t, iv c, iv 0, iv o]) (by simp [results, Tryz.results46, go_sem]) rfl ⟨rfl, bL⟩
theorem small_any (k t c u o : Int) (w : World) :
 Calls Tryz.prog 26 #[.agg #[iv k, iv t, iv c, iv u, iv o]] w fun e w' => e = .returned (.bool (decide (0 ≤ k) && decide (k < 256))) ∧ Below w.heap.size w w' := by
 by_cases h0 : 0 ≤ k
 ·by_cases h1 : k < 256
  ·have d0 : decide (0 ≤ k) = true := decide_eq_true h0
   have d1 : decide (k < 256) = true := decide_eq_true h1
   rw [d0, d1]
   go_enter Tryz.func26, Tryz.ntmps26
   go_wp2
   refine bodyPost_ret (v := .bool true) (by simp [results, Tryz.results26, go_sem]) rfl ⟨rfl, bL⟩
  ·have d0 : decide (0 ≤ k) = true := decide_eq_true h0
   have d1 : decide (k < 256) = false := decide_eq_false h1
   rw [d0, d1]
   go_enter Tryz.func26, Tryz.ntmps26
   go_wp2
   refine bodyPost_ret (v := .bool false) (by simp [results, Tryz.results26, go_sem]) rfl ⟨rfl, bL⟩
 ·have d0 : decide (0 ≤ k) = false := decide_eq_false h0
  rw [d0]
  go_enter Tryz.func26, Tryz.ntmps26
  go_wp2
  refine bodyPost_ret (v := .bool false) (by simp [results, Tryz.results26, go_sem]) rfl ⟨rfl, bL⟩
def fitP (k o pk po pc pu : Int) : Prop :=
 (k = 1 ∧ ((pk = 2 ∧ 0 < po ∧ 0 < pc ∧ 0 < pu) ∨ (pk = 3 ∧ 0 < po ∧ pc = 0 ∧ 0 < pu) ∨ ((pk = 4 ∨ pk = 5 ∨ pk = 6 ∨ pk = 10 ∨ pk = 11) ∧ po = 0 ∧ pc = 0 ∧ pu = 0))) ∨
 (k = 2 ∧ ((pk = 7 ∧ o = po ∧ 0 < o ∧ 0 < pc ∧ pu = 0) ∨ ((pk = 9 ∨ pk = 10 ∨ pk = 11) ∧ po = 0 ∧ pc = 0 ∧ pu = 0))) ∨
 (k = 3 ∧ ((pk = 8 ∧ o = po ∧ 0 < o ∧ pc = 0 ∧ pu = 0) ∨ ((pk = 9 ∨ pk = 10 ∨ pk = 11) ∧ po = 0 ∧ pc = 0 ∧ pu = 0))) ∨
 (k = 4 ∧ ((pk = 12 ∧ o = po ∧ 0 < o ∧ pc = 0 ∧ 0 < pu) ∨ (pk = 13 ∧ o = po ∧ 0 < o ∧ 0 < pc ∧ 0 < pu) ∨ (pk = 14 ∧ o = po ∧ 0 < o ∧ 0 < pc ∧ pu = 0) ∨ ((pk = 15 ∨ pk = 16 ∨ pk = 17 ∨ pk = 18) ∧ o = po ∧ 0 < o ∧ pc = 0 ∧ pu = 0) ∨ (pk = 19 ∧ po = 0 ∧ pc = 0 ∧ pu = 0)))
def valL : List Int → Nat
 | [] => 0
 | x :: r => (x % 128).toNat + 128 * valL r
theorem valL_snoc : ∀ (g : List Int) (x : Int), valL (g ++ [x]) = valL g + (x % 128).toNat * 128 ^ g.length
 | [], x => by simp [valL]
 | y :: g, x => by
   have h := valL_snoc g x
   simp only [List.cons_append, valL, List.length_cons, Nat.pow_succ]
   rw [h]
   have : (x % 128).toNat * (128 ^ g.length * 128) = 128 * ((x % 128).toNat * 128 ^ g.length) := by
    rw [Nat.mul_comm (128 ^ g.length) 128, Nat.mul_left_comm]
   omega
theorem valL_lt : ∀ (g : List Int), valL g < 128 ^ g.length
 | [] => by simp [valL]
 | y :: g => by
   have h := valL_lt g
   simp only [valL, List.length_cons, Nat.pow_succ]
   omega
def goOn (g : List Int) : Prop := ∀ y ∈ g, 128 ≤ y ∧ y < 256
theorem valL_pos {g : List Int} {x : Int} (h0 : 0 < x) (h1 : x < 128) : 1 ≤ valL (g ++ [x]) := by
 rw [valL_snoc]
 have : 1 ≤ (x % 128).toNat := by omega
 have hp : 1 ≤ 128 ^ g.length := Nat.one_le_pow _ _ (by omega)
 have := Nat.mul_le_mul this hp
 omega
theorem code_valL : ∀ (g : List Int) (x : Int), goOn g → 0 ≤ x → x < 128 → (g = [] ∨ x ≠ 0) → code (valL (g ++ [x])) = g ++ [x]
 | [], x, _, h0, h1, _ => by
   have e : (x % 128).toNat = x.toNat := by omega
   simp only [List.nil_append, valL, Nat.mul_zero, Nat.add_zero, e]
   rw [code_small (by omega)]
   simp; omega
 | y :: g, x, hg, h0, h1, hx => by
   have hx0 : x ≠ 0 := by simpa using hx
   have hv := valL_pos (g := g) (x := x) (by omega) h1
   have hy := hg y (by simp)
   have ih := code_valL g x (fun z hz => hg z (by simp [hz])) h0 h1 (.inr hx0)
   have e : valL (y :: g ++ [x]) = (y % 128).toNat + 128 * valL (g ++ [x]) := rfl
   rw [e, code_great (by omega)]
   have e1 : ((y % 128).toNat + 128 * valL (g ++ [x])) % 128 = (y % 128).toNat := by omega
   have e2 : ((y % 128).toNat + 128 * valL (g ++ [x])) / 128 = valL (g ++ [x]) := by omega
   rw [e1, e2, ih]
   have e3 : (((y % 128).toNat + 128 : Nat) : Int) = y := by omega
   rw [e3]; rfl
theorem code_shape : ∀ (n k : Nat), n ≤ k → ∃ (g : List Int) (x : Int), code n = g ++ [x] ∧ goOn g ∧ 0 ≤ x ∧ x < 128 ∧ (g = [] ∨ x ≠ 0) ∧ (n = 0 ∨ x ≠ 0)
 | n, 0, h => ⟨[], (n : Int), by rw [code_small (by omega)]; rfl, fun _ h => by simp at h, by omega, by omega, .inl rfl, .inl (by omega)⟩
 | n, k + 1, h => by
   by_cases hn : n < 128
   ·refine ⟨[], (n : Int), by rw [code_small hn]; rfl, fun _ h => by simp at h, by omega, by omega, .inl rfl, ?_⟩
    by_cases h0 : n = 0
    ·exact .inl h0
    ·exact .inr (by omega)
   ·obtain ⟨g, x, e, hg, h0, h1, hx, hz⟩ := code_shape (n / 128) k (by omega)
    have hx0 : x ≠ 0 := by rcases hz with hz | hz; · omega
                           ·exact hz
    refine ⟨((n % 128 + 128 : Nat) : Int) :: g, x, by rw [code_great (by omega), e]; rfl, ?_, h0, h1, .inr hx0, .inr hx0⟩
    intro y hy
    rcases List.mem_cons.1 hy with rfl | hy
    ·omega
    ·exact hg y hy
theorem ends_same : ∀ (g1 g2 : List Int) (x1 x2 : Int) (r1 r2 : List Int), goOn g1 → goOn g2 → x1 < 128 → x2 < 128 → g1 ++ x1 :: r1 = g2 ++ x2 :: r2 → g1 = g2 ∧ x1 = x2 ∧ r1 = r2
 | [], [], _, _, _, _, _, _, _, _, h => by simpa using h
 | [], y :: g2, x1, _, _, _, _, h2, hx, _, h => by
   simp at h
   have := h2 y (by simp)
   omega
 | y :: g1, [], _, x2, _, _, h1, _, _, hx, h => by
   simp at h
   have := h1 y (by simp)
   omega
 | y :: g1, z :: g2, x1, x2, r1, r2, h1, h2, hx1, hx2, h => by
   simp at h
   obtain ⟨rfl, h⟩ := h
   obtain ⟨rfl, rfl, rfl⟩ := ends_same g1 g2 x1 x2 r1 r2 (fun a ha => h1 a (by simp [ha])) (fun a ha => h2 a (by simp [ha])) hx1 hx2 h
   exact ⟨rfl, rfl, rfl⟩
theorem valL_code (n : Nat) : valL (code n) = n := by
 suffices H : ∀ (k n : Nat), n ≤ k → valL (code n) = n from H n n (Nat.le_refl _)
 intro k
 induction k with
 | zero => intro n h; rw [code_small (by omega)]; simp [valL]; omega
 | succ k ih =>
   intro n h
   by_cases hn : n < 128
   ·rw [code_small hn]; simp [valL]; omega
   ·rw [code_great (by omega)]
    simp only [valL]
    rw [ih (n / 128) (by omega)]
    omega
theorem code_inj {m n : Nat} {r s : List Int} (h : code m ++ r = code n ++ s) : m = n ∧ r = s := by
 obtain ⟨g1, x1, e1, h1, _, l1, _⟩ := code_shape m m (Nat.le_refl _)
 obtain ⟨g2, x2, e2, h2, _, l2, _⟩ := code_shape n n (Nat.le_refl _)
 have h' := h
 rw [e1, e2] at h'
 simp only [List.append_assoc, List.singleton_append] at h'
 obtain ⟨rfl, rfl, rfl⟩ := ends_same g1 g2 x1 x2 r s h1 h2 l1 l2 h'
 refine ⟨?_, rfl⟩
 rw [← valL_code m, ← valL_code n, e1, e2]
def RN (l : List Int) (n len : Nat) : Prop :=
 (len = 0 ∧ n = 0 ∧ ∀ (m : Nat) (r : List Int), m < 34359738368 → l ≠ code m ++ r) ∨ (∃ r, n < 34359738368 ∧ len = (code n).length ∧ l = code n ++ r)
theorem code_len5 {n : Nat} (h : n < 34359738368) : (code n).length ≤ 5 := code_len_le 4 n (Nat.lt_of_lt_of_le h (by decide))
theorem rn_stop {l : List Int} {k : Nat} (hg : goOn (l.take k)) (hk : k = l.length ∨ k = 5) : RN l 0 0 := by
 refine .inl ⟨rfl, rfl, fun m r hm e => ?_⟩
 have h5 := code_len5 hm
 obtain ⟨g, x, ec, hgo, h0, h1, _⟩ := code_shape m m (Nat.le_refl _)
 rw [ec] at e h5
 simp at h5
 have hlen : g.length < l.length := by rw [e]; simp
 have hx : l[g.length]? = some x := by rw [e]; simp
 have hmem : x ∈ l.take k := by
  apply List.mem_of_getElem? (i := g.length)
  rw [List.getElem?_take, if_pos (by omega)]
  exact hx
 have := hg x hmem
 omega
theorem rn_zero {l : List Int} {k : Nat} (hg : goOn (l.take k)) (hk : k < l.length) (h0 : 0 < k) (hz : l.getD k 0 = 0) : RN l 0 0 := by
 refine .inl ⟨rfl, rfl, fun m r _ e => ?_⟩
 obtain ⟨g, x, ec, hgo, _, h1, hx, _⟩ := code_shape m m (Nat.le_refl _)
 rw [ec] at e
 simp only [List.append_assoc, List.singleton_append] at e
 have el : l = l.take k ++ 0 :: l.drop (k + 1) := by
  conv => lhs; rw [← List.take_append_drop k l]
  congr 1
  rw [List.drop_eq_getElem_cons hk]
  simp [List.getD, List.getElem?_eq_getElem hk] at hz
  rw [hz]
 rw [el] at e
 obtain ⟨e1, e2, _⟩ := ends_same _ _ _ _ _ _ hg hgo (by omega) h1 e
 rcases hx with hx | hx
 ·rw [hx] at e1
  have := congrArg List.length e1
  simp only [List.length_take, List.length_nil] at this
  omega
 ·exact hx e2.symm
theorem rn_yes {l : List Int} {k : Nat} {x : Int} (hg : goOn (l.take k)) (hk : k < l.length) (h5 : k < 5) (hx : l.getD k 0 = x) (h0 : 0 ≤ x) (h1 : x < 128) (hz : k = 0 ∨ x ≠ 0) :
 RN l (valL (l.take k) + (x % 128).toNat * 128 ^ k) (k + 1) := by
 have hl : (l.take k).length = k := by simp; omega
 have ev : valL (l.take k) + (x % 128).toNat * 128 ^ k = valL (l.take k ++ [x]) := by rw [valL_snoc, hl]
 have ec : code (valL (l.take k ++ [x])) = l.take k ++ [x] := code_valL _ _ hg h0 h1 (by
  rcases hz with rfl | hz
  ·exact .inl (by simp)
  ·exact .inr hz)
 rw [ev]
 refine .inr ⟨l.drop (k + 1), ?_, by rw [ec]; simp; omega, ?_⟩
 ·refine Nat.lt_of_lt_of_le (valL_lt _) ?_
  simp only [List.length_append, hl, List.length_singleton]
  exact Nat.le_trans (Nat.pow_le_pow_right (by omega) (show k + 1 ≤ 5 by omega)) (by decide)
 ·rw [ec]
  conv => lhs; rw [← List.take_append_drop k l]
  rw [List.append_assoc]
  congr 1
  rw [List.drop_eq_getElem_cons hk]
  simp [List.getD, List.getElem?_eq_getElem hk] at hx
  simp [hx]
theorem goOn_snoc {l : List Int} {k : Nat} {x : Int} (hg : goOn (l.take k)) (hk : k < l.length) (hx : l.getD k 0 = x) (h0 : 128 ≤ x) (h1 : x < 256) : goOn (l.take (k + 1)) := by
 intro y hy
 rw [List.take_succ_eq_append_getElem hk] at hy
 simp [List.getD, List.getElem?_eq_getElem hk] at hx
 rcases List.mem_append.1 hy with hy | hy
 ·exact hg y hy
 ·simp [hx] at hy
  omega
theorem valL_take {l : List Int} {k : Nat} {x : Int} (hk : k < l.length) (hx : l.getD k 0 = x) : valL (l.take (k + 1)) = valL (l.take k) + (x % 128).toNat * 128 ^ k := by
 rw [List.take_succ_eq_append_getElem hk, valL_snoc]
 simp [List.getD, List.getElem?_eq_getElem hk] at hx
 rw [hx]
 simp [Nat.min_eq_left (Nat.le_of_lt hk)]
theorem rn_yes' {l : List Int} {k v W X : Nat} (hv : v = valL (l.take k)) (hW : W = 128 ^ k) (hg : goOn (l.take k)) (hk : k < l.length) (h5 : k < 5) (hx : l.getD k 0 = (X : Int)) (h1 : X < 128) (hz : k = 0 ∨ X ≠ 0) : RN l (v + X % 128 * W) (k + 1) := by
 have := rn_yes hg hk h5 hx (by omega) (by omega) (by rcases hz with h | h; · exact .inl h
                                                      ·exact .inr (by omega))
 have e : ((X : Int) % 128).toNat = X % 128 := by omega
 rw [e, ← hv, ← hW] at this
 exact this
theorem valL_take' {l : List Int} {k v W X : Nat} (hv : v = valL (l.take k)) (hW : W = 128 ^ k) (hk : k < l.length) (hx : l.getD k 0 = (X : Int)) : v + X % 128 * W = valL (l.take (k + 1)) ∧ W * 128 = 128 ^ (k + 1) := by
 have e : ((X : Int) % 128).toNat = X % 128 := by omega
 rw [valL_take hk hx, e, ← hv, ← hW, Nat.pow_succ, ← hW]
 exact ⟨rfl, rfl⟩
structure OpV where
 k : Int
 a : Int
 b : Int
 c : Int
 d : Int
 e : Int
 s : ByteArray
def OpV.val (o : OpV) : Value := .agg #[iv o.k, iv o.a, iv o.b, iv o.c, iv o.d, iv o.e, .string o.s]
def opAt (w : World) (b i : Nat) (o : OpV) : Prop :=
 w.cell? (aq b i) = some (iv o.k) ∧ w.cell? (aq b (i + 1)) = some (iv o.a) ∧ w.cell? (aq b (i + 2)) = some (iv o.b) ∧ w.cell? (aq b (i + 3)) = some (iv o.c) ∧
 w.cell? (aq b (i + 4)) = some (iv o.d) ∧ w.cell? (aq b (i + 5)) = some (iv o.e) ∧ w.cell? (aq b (i + 6)) = some (.string o.s)
def rowAt (w : World) (b : Nat) (ns : List Int) : Prop := ns.length ≤ 100 ∧ b < w.heap.size ∧ ∀ i, i < ns.length → w.cell? (aq b (0 + i)) = some (iv (ns.getD i 0))
theorem rowAt.below {w w' : World} {b B : Nat} {ns : List Int} (h : rowAt w b ns) (hb : Below B w w') (hB : w.heap.size ≤ B) : rowAt w' b ns :=
 ⟨h.1, Nat.lt_of_lt_of_le h.2.1 hb.size, fun i hi => (hb.cell (p := (aq b (0 + i))) (Nat.lt_of_lt_of_le h.2.1 hB)).trans (h.2.2 i hi)⟩
theorem opAt.below {w w' : World} {b i B : Nat} {o : OpV} (h : opAt w b i o) (hb : Below B w w') (hB : b < B) : opAt w' b i o := by
 obtain ⟨h0, h1, h2, h3, h4, h5, h6⟩ := h
 exact ⟨(hb.cell (p := (aq b i)) hB).trans h0, (hb.cell (p := (aq b (i + 1))) hB).trans h1, (hb.cell (p := (aq b (i + 2))) hB).trans h2, (hb.cell (p := (aq b (i + 3))) hB).trans h3, (hb.cell (p := (aq b (i + 4))) hB).trans h4, (hb.cell (p := (aq b (i + 5))) hB).trans h5, (hb.cell (p := (aq b (i + 6))) hB).trans h6⟩
end Go.Proofs.YtfhncfghblkgeabGreat
