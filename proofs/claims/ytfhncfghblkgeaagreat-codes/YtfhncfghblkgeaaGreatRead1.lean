/-
  The walk: readNumber.
-/
import Derived.Test.YtfhncfghblkgeaaGreatPlain2
namespace Go.Proofs.YtfhncfghblkgeaaGreat
open Go.RowKit

/-- A slice of bytes: what it reads as. -/
def sliceOf (w : World) (a : Option Addr) (len cap : Nat) (l : List Int) : Prop :=
  l.length = len ∧ len ≤ cap ∧ cap ≤ maxLen ∧ (∀ x ∈ l, 0 ≤ x ∧ x < 256) ∧ (l ≠ [] → ∃ b off, a = some ⟨b, off, none⟩ ∧ b < w.heap.size ∧ ∀ i, i < len → w.cell? ⟨b, off + i, none⟩ = some (.int .u8 (l.getD i 0)))

theorem pow128 {k : Nat} (h : k < 5) : 128 ^ k ≤ 268435456 := Nat.le_trans (Nat.pow_le_pow_right (by omega) (show k ≤ 4 by omega)) (by decide)

theorem ret_two {a b c d : Int} (h : a = c) (h' : b = d) : Ending.returned (.tuple #[.int .i64 a, .int .i64 b]) = .returned (.tuple #[.int .i64 c, .int .i64 d]) := by rw [h, h']

set_option maxRecDepth 100000 in
set_option maxHeartbeats 1000000 in
theorem readNumber_some (b off len cap : Nat) (l : List Int) (w : World) (hl : l.length = len) (hb : ∀ x ∈ l, 0 ≤ x ∧ x < 256) (hcell : ∀ i, i < len → w.cell? ⟨b, off + i, none⟩ = some (.int .u8 (l.getD i 0))) :
    Calls Tryz.prog 130 #[.slice (some ⟨b, off, none⟩) len cap] w fun e w' => ∃ n k : Nat, e = .returned (.tuple #[.int .i64 n, .int .i64 k]) ∧ RN l n k ∧ w = w' := by
  go_enter Tryz.func130, Tryz.ntmps130
  go_wp2
  go_loop [4, 5, 6] (fun n wt i => ∃ k v W : Nat, k ≤ len ∧ k ≤ 5 ∧ n = .int .i64 v ∧ wt = .int .i64 W ∧ i = .int .i64 k ∧ Hid (v = valL (l.take k)) ∧ Hid (W = 128 ^ k) ∧ Hid (goOn (l.take k))) (fun _ _ i => len - (intOf i).toNat)
  case atStart => exact ⟨0, 0, 1, Nat.zero_le _, by omega, rfl, rfl, rfl, by simp [Hid, valL], rfl, fun _ h => by simp at h⟩
  case round =>
    obtain ⟨k, v, W, hk, hk5, rfl, rfl, rfl, hv, hW, hg⟩ := hrel
    by_cases hlt : k < len
    · by_cases h5 : k < 5
      · have hc := hcell k hlt
        have hxb := hb (l.getD k 0) (by simp [List.getD, List.getElem?_eq_getElem (show k < l.length by omega)])
        generalize hx : l.getD k 0 = x at hc hxb
        have HX : Hid (l.getD k 0 = x) := hx
        clear hx hcell hb
        obtain ⟨hx0, hx1⟩ := hxb
        have hWb : W ≤ 268435456 := by rw [hW.out]; exact pow128 h5
        have hvb : v < 34359738368 := by
          rw [hv.out]
          exact Nat.lt_of_lt_of_le (valL_lt _) (Nat.le_trans (Nat.pow_le_pow_right (by omega) (show (l.take k).length ≤ 5 by simp; omega)) (by decide))
        obtain ⟨X, rfl⟩ := Int.eq_ofNat_of_zero_le hx0
        have hp0 : (0 : Int) ≤ (X : Int) % 128 * (W : Int) := Int.mul_nonneg (by omega) (by omega)
        have hp1 : (X : Int) % 128 * (W : Int) ≤ 127 * 268435456 := Int.mul_le_mul (by omega) (by omega) (by omega) (by omega)
        by_cases hz : X = 0
        · subst hz
          by_cases hk0 : k = 0
          · subst hk0
            have hv0 : v = 0 := by rw [hv.out]; rfl
            have hW1 : W = 1 := hW.out
            subst hv0 hW1
            have HR : Hid (RN l (0 + 0 % 128 * 1) 1) := rn_yes' hv.out hW.out hg.out (by omega) (by omega) HX.out (by omega) (.inl rfl)
            have hc' : w.cell? ⟨b, off, none⟩ = some (.int .u8 0) := hc
            clear hc hp0 hp1 hvb hWb hx0 hx1 hk hk5 h5
            have hlt' : (0 : Int) < (len : Int) := by omega
            go_wp2
            go_ret2
            exact ⟨0, 1, rfl, HR.out, rfl⟩
          · have hkp : (0 : Int) < (k : Int) := by omega
            go_wp2
            go_ret2
            exact ⟨0, 0, rfl, rn_zero hg.out (by omega) (by omega) HX.out, rfl⟩
        · have hz' : ((X : Int) == 0) = false := by simp; omega
          by_cases h128 : X < 128
          · go_wp2
            go_ret2
            exact ⟨v + X % 128 * W, k + 1, ret_two (by rw [Int.natCast_add, Int.natCast_mul, Int.natCast_emod]; rfl) (by go_num), rn_yes' hv.out hW.out hg.out (by omega) h5 HX.out h128 (.inr hz), rfl⟩
          · go_wp2
            go_round
            case rel => exact ⟨k + 1, v + X % 128 * W, W * 128, by omega, by omega, by rw [Int.natCast_add, Int.natCast_mul, Int.natCast_emod]; rfl, by go_num, by go_num, (valL_take' hv.out hW.out (by omega) HX.out).1, (valL_take' hv.out hW.out (by omega) HX.out).2, goOn_snoc hg.out (by omega) HX.out (by omega) (by omega)⟩
            case measure => simp [intOf]; omega
      · have hk5' : k = 5 := by omega
        subst hk5'
        go_wp2
        go_ret2
        exact ⟨0, 0, rfl, rn_stop hg.out (.inr rfl), rfl⟩
    · have hke : k = len := by omega
      subst hke
      go_wp2
      go_ret2
      exact ⟨0, 0, rfl, rn_stop hg.out (.inl hl.symm), rfl⟩

end Go.Proofs.YtfhncfghblkgeaaGreat
