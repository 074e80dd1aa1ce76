/-
  The walk: saleref.numbersOf.
-/
import Derived.Test.YtfhncfghblkgeaaGreatPlain3
namespace Go.Proofs.YtfhncfghblkgeaaGreat
open Go.RowKit

theorem valL_bd {cur : List Int} {c : Nat} (h : cur.length ≤ c) : valL cur < 128 ^ c := Nat.lt_of_lt_of_le (valL_lt cur) (Nat.pow_le_pow_right (by omega) h)

theorem intsV_len (ms : List Nat) : (intsV ms).length = ms.length := by simp [intsV]

set_option maxRecDepth 100000 in
set_option maxHeartbeats 2000000 in
theorem rnums_any (b off len cap : Nat) (x0 : Int) (tl : List Int) (w : World) (h : sliceOf w (some ⟨b, off, none⟩) len cap (x0 :: tl)) :
    Calls Tryz.prog 109 #[.slice (some ⟨b, off, none⟩) len cap] w fun e w' => ∃ v ms, e = .returned v ∧ w'.ownsRow w.heap.size 3 1 v ms.length (intsV ms) ∧ (∀ m ∈ ms, m < 34359738368) ∧ RNS tl ms ∧ Below w.heap.size w w' := by
  obtain ⟨i0, hi, hz0, hz1, hz2⟩ := info_parts Tryz.infoInt
  have HS : Hid (sliceOf w (some ⟨b, off, none⟩) len cap (x0 :: tl)) := h
  have hl : tl.length + 1 = len := by have := h.1; simpa using this
  have hlc : len ≤ cap := h.2.1
  clear h
  generalize hB : w.heap.size = B
  have HB : Hid (w.heap.size = B) := hB
  go_enter Tryz.func109, Tryz.ntmps109
  go_wp2_with fail
  clear hB
  go_loopw [3, 4, 5, 6] (fun l n f i wr => ∃ (p : Nat) (ms : List Nat) (cur : List Int) (v W : Nat), p ≤ tl.length ∧ p ≤ 19 ∧ ms.length ≤ p ∧ n = .int .i64 v ∧ f = .int .i64 W ∧ i = .int .i64 ((p : Int) + 1) ∧ cur.length ≤ 5 ∧ Hid (v = valL cur) ∧ Hid (W = 128 ^ cur.length) ∧ Hid (NP tl p ms cur) ∧ Hid (∀ m ∈ ms, m < 34359738368) ∧ wr.ownsRow B 3 1 l ms.length (intsV ms) ∧ Below B w wr) (fun _ _ _ i _ => len + 20 - (intOf i).toNat)
  case atStart => exact ⟨0, [], [], 0, 1, Nat.zero_le _, by omega, Nat.le_refl _, rfl, rfl, rfl, by simp, rfl, rfl, np_start tl, fun _ h => by simp at h, World.ownsRow_nil _ _ _ _, Below.refl _ _⟩
  case round =>
    obtain ⟨p, ms, cur, v, W, hp, hp19, hmp, rfl, rfl, rfl, hc5, hv, hW, hnp, hmb, hown, hbel⟩ := hrel
    have hBr : B ≤ wr.heap.size := by have := hbel.size; rw [HB.out] at this; exact this
    by_cases hlt : p < tl.length
    · by_cases h19 : p < 19
      · by_cases hc : cur.length < 5
        · have hWb : W ≤ 268435456 := by rw [hW.out]; exact pow128 hc
          have hvb : v < 268435456 := by rw [hv.out]; exact Nat.lt_of_lt_of_le (valL_bd (c := 4) (by omega)) (by decide)
          have hsl := sliceOf_below HS.out (by rw [HB.out]; exact hbel)
          have hxb := hsl.2.2.2.1 (tl.getD p 0) (by simp [List.getD, List.getElem?_eq_getElem hlt])
          have hcx : wr.cell? ⟨b, off + (p + 1), none⟩ = some (.int .u8 (tl.getD p 0)) := by
            obtain ⟨b', off', hbo, _, hcell⟩ := hsl.2.2.2.2 (by simp)
            simp at hbo
            obtain ⟨rfl, rfl⟩ := hbo
            have := hcell (p + 1) (by omega)
            simpa using this
          generalize hx : tl.getD p 0 = x at hcx hxb
          have HX : Hid (tl.getD p 0 = x) := hx
          clear hx hsl
          obtain ⟨hx0, hx1⟩ := hxb
          obtain ⟨X, rfl⟩ := Int.eq_ofNat_of_zero_le hx0
          have hp0 : (0 : Int) ≤ (X : Int) % 128 * (W : Int) := Int.mul_nonneg (by omega) (by omega)
          have hp1 : (X : Int) % 128 * (W : Int) ≤ 127 * 268435456 := Int.mul_le_mul (by omega) (by omega) (by omega) (by omega)
          have HVX : Hid (v + X % 128 * W = valL (cur ++ [(X : Int)])) := by
            unfold Hid
            rw [valL_snoc, hv.out, hW.out]
            have : ((X : Int) % 128).toNat = X % 128 := by omega
            rw [this]
          have HO : Hid (∀ k, u3.ownBlock = some k → B ≤ k ∧ k < wr.heap.size) := World.ownsRow.lt hown
          by_cases hlow : X < 128
          · have HNP : Hid (NP tl (p + 1) (ms ++ [v + X % 128 * W]) []) := by unfold Hid; rw [HVX.out]; exact np_num hnp.out hlt HX.out (by omega)
            have hnew : v + X % 128 * W < 34359738368 := by rw [HVX.out]; exact Nat.lt_of_lt_of_le (valL_bd (c := 5) (by simp; omega)) (by decide)
            clear hnp
            go_wp2_with (at_builtin; refine wpList_append_own _ rfl _ _ 25 rfl B 3 i0 (.int .i64 0) 1 8 Tryz.underlying25 hi hz0 hz1 hz2 rfl (by decide) _ _ _ rfl (hown.alloc _) ⟨wr.heap.size, 0, none⟩ 1 1 [.int .i64 (v + X % 128 * W)] rfl rfl ?c1 ?c2 ?c3 ?c4 ?c5 ?_)
            case c1 => exact cell_one_new _ _ _
            case c2 => intro u hu; simp at hu; subst hu; rfl
            case c3 => unfold maxLen; omega
            case c4 => omega
            case c5 => simp; omega
            intro v' w1 hown' hgrow _
            clear hown
            go_wp2
            go_roundw
            case rel =>
              refine ⟨p + 1, ms ++ [v + X % 128 * W], [], 0, 1, by omega, by omega, by simp <;> omega, rfl, rfl, by go_num, by simp, rfl, rfl, HNP, ?_, ?_, ?_⟩
              · intro m hm
                rcases List.mem_append.1 hm with h | h
                · exact hmb.out m h
                · simp at h; omega
              · rw [intsV_snoc]; simpa using hown'
              · exact (hbel.alloc hBr _).grown hgrow (by simp; omega) (fun k hk => (HO.out k hk).1)
            case measure => simp [intOf]; omega
          · have HNP : Hid (NP tl (p + 1) ms (cur ++ [(X : Int)])) := np_more hnp.out hlt HX.out (by omega) (by omega)
            clear hnp
            go_wp2
            go_roundw
            case rel =>
              exact ⟨p + 1, ms, cur ++ [(X : Int)], v + X % 128 * W, W * 128, by omega, by omega, by omega, by rw [Int.natCast_add, Int.natCast_mul, Int.natCast_emod]; rfl, by go_num, by go_num, by simp <;> omega, HVX, by unfold Hid; rw [hW.out]; simp [Nat.pow_succ], HNP, hmb, hown, hbel⟩
            case measure => simp [intOf]; omega
        · have hce : cur.length = 5 := by omega
          have hWe : (268435456 : Int) < (W : Int) := by rw [hW.out, hce]; decide
          have HR : Hid (RNS tl ms) := np_long hnp.out (by omega)
          clear hW hv hnp
          go_wp2
          go_ret
          exact ⟨_, ms, rfl, hown, hmb.out, HR.out, hbel⟩
      · have HR : Hid (RNS tl ms) := np_far (by omega)
        have hpe : p = 19 := by omega
        subst hpe
        go_wp2
        go_ret
        exact ⟨_, ms, rfl, hown, hmb.out, HR.out, hbel⟩
    · have hpe : p = tl.length := by omega
      subst hpe
      have HR : Hid (RNS tl ms) := np_end hnp.out
      have hge : ¬ ((tl.length : Int) + 1 < (len : Int)) := by omega
      go_wp2
      go_ret
      first | exact ⟨_, ms, rfl, hown, hmb.out, HR.out, hbel⟩ | exact ⟨_, rfl, ms, hown, hmb.out, HR.out, hbel⟩

end Go.Proofs.YtfhncfghblkgeaaGreat
