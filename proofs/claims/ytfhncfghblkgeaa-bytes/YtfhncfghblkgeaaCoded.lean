/-
  The walk: coded.
-/
import Derived.Test.YtfhncfghblkgeaaGroups
import Derived.Test.YtfhncfghblkgeaaLeafK
namespace Go.Proofs.Ytfhncfghblkgeaa
open Go.RowKit

/-- What holds in the loop of coded, ahead of round j. -/
def codedAt (n K j m : Nat) (g : List Int) : Prop := K = (code n).length ∧ g.length = j ∧ (j < K → code n = g ++ code m) ∧ (j = K → code n = g)

theorem codedAt_start (n : Nat) : codedAt n (code n).length 0 n [] := ⟨rfl, rfl, fun _ => rfl, fun h => by have := code_pos n; omega⟩
theorem codedAt_last {n K j m : Nat} {g : List Int} (h : codedAt n K j m g) (hj : j < K) (hm : m < 128) : j + 1 = K ∧ codedAt n K (j + 1) (m / 128) (g ++ [(m : Int)]) := by
  obtain ⟨hK, hg, h1, _⟩ := h
  have h1 := h1 hj
  rw [code_small hm] at h1
  have e : K = j + 1 := by rw [hK, h1]; simp [hg]
  exact ⟨e.symm, hK, by simp [hg], fun h => by omega, fun _ => h1⟩
theorem codedAt_more {n K j m : Nat} {g : List Int} (h : codedAt n K j m g) (hj : j < K) (hm : ¬ m < 128) : j + 1 < K ∧ codedAt n K (j + 1) (m / 128) (g ++ [((m % 128 + 128 : Nat) : Int)]) := by
  obtain ⟨hK, hg, h1, _⟩ := h
  have h1 := code_split_great (h1 hj) hm
  have hp := code_pos (m / 128)
  have e : j + 1 < K := by rw [hK, h1]; simp [hg]; omega
  exact ⟨e, hK, by simp [hg], fun _ => h1, fun h => by omega⟩

theorem map_app (xs g : List Int) (x : Int) : (xs ++ (g ++ [x])).map (Value.int .u8) = (xs ++ g).map (Value.int .u8) ++ [.int .u8 x] := by simp

set_option maxRecDepth 100000 in
set_option maxHeartbeats 600000 in
theorem coded_nat (v : Value) (xs : List Int) (n B : Nat) (w : World) (hn : n < 9223372036854775808) (hB : B ≤ w.heap.size) (hx : xs.length ≤ 1000) (hv : w.ownsRow B 5 1 v xs.length (xs.map (Value.int .u8))) :
    Calls Try.prog 19 #[v, .int .i64 n] w fun e w' => ∃ v', e = .returned v' ∧ w'.ownsRow B 5 1 v' (xs ++ code n).length ((xs ++ code n).map (Value.int .u8)) ∧ Below B w w' := by
  obtain ⟨i0, hi, hz0, hz1, hz2⟩ := info_parts Try.infoU8
  have hl := code_len9 hn
  have hp := code_pos n
  have hA := codedAt_start n
  generalize hK : (code n).length = K at hl hp hA
  have HK : Hid ((code n).length = K) := hK
  have HA : Hid (codedAt n K 0 n []) := hA
  go_enter Try.func19, Try.ntmps19
  go_wp2_with (go_at_call 29; refine (groups_any n _ hn).mono ?_; rintro e w' ⟨rfl, rfl⟩; rw [HK.out])
  clear hK hA
  go_loopw [0, 1, 6] (fun b x i wr => ∃ (j m : Nat) (g : List Int), j ≤ K ∧ m ≤ n ∧ x = .int .i64 m ∧ i = .int .i64 j ∧ Hid (codedAt n K j m g) ∧ wr.ownsRow B 5 1 b (xs ++ g).length ((xs ++ g).map (Value.int .u8)) ∧ Below B w wr) (fun _ _ i _ => K - (intOf i).toNat)
  case atStart => exact ⟨0, n, [], Nat.zero_le _, Nat.le_refl _, rfl, rfl, HA, by simpa using hv, Below.refl _ _⟩
  case round =>
    obtain ⟨j, m, g, hj, hm, rfl, rfl, hc, hown, hbel⟩ := hrel
    clear hv
    have hsz : B ≤ wr.heap.size := Nat.le_trans hB hbel.size
    have hgl : g.length ≤ 9 := by have := hc.out.2.1; omega
    have hxg : (xs ++ g).length ≤ 1009 := by simp; omega
    have HO : Hid (∀ k, u0.ownBlock = some k → B ≤ k ∧ k < wr.heap.size) := World.ownsRow.lt hown
    by_cases hjk : j < K
    · by_cases hlt : m < 128
      · obtain ⟨hlast, hc'⟩ := codedAt_last hc hjk hlt
        have HC : Hid (codedAt n K (j + 1) (m / 128) (g ++ [(m : Int)])) := hc'
        have HE : Hid ((m : Int) % 128 = m) := by unfold Hid; omega
        have hnot : ¬ j < K - 1 := by omega
        clear hc' hc hlast
        go_wp2_with (at_builtin; refine wpList_append_own _ rfl _ _ 24 rfl B 5 i0 (.int .u8 0) 1 1 Try.underlying24 hi hz0 hz1 hz2 rfl (by decide) _ _ _ rfl (hown.alloc _) ⟨wr.heap.size, 0, none⟩ 1 1 [.int .u8 (↑m % 128)] rfl rfl ?c1 ?c2 ?c3 ?c4 ?c5 ?_)
        case c1 => exact cell_one_new _ _ _
        case c2 => intro u hu; simp at hu; subst hu; rfl
        case c3 => unfold maxLen; omega
        case c4 => omega
        case c5 => simp; omega
        intro v' w1 hown' hgrow _
        clear hown
        go_wp2
        go_roundw
        case rel =>
          refine ⟨j + 1, m / 128, g ++ [(m : Int)], by omega, by omega, by go_num, by go_num, HC, ?_, ?_⟩
          · rw [map_app]; rw [HE.out] at hown'; simpa [Nat.add_assoc] using hown'
          · exact (hbel.alloc hsz _).grown hgrow (by simp; omega) (fun k hk => (HO.out k hk).1)
        case measure => simp [intOf]; omega
      · obtain ⟨hmore, hc'⟩ := codedAt_more hc hjk hlt
        have HC : Hid (codedAt n K (j + 1) (m / 128) (g ++ [((m % 128 + 128 : Nat) : Int)])) := hc'
        have hyes : (j : Int) < (K : Int) - 1 := by omega
        clear hc' hc hmore
        go_wp2_with (at_builtin; refine wpList_append_own _ rfl _ _ 24 rfl B 5 i0 (.int .u8 0) 1 1 Try.underlying24 hi hz0 hz1 hz2 rfl (by decide) _ _ _ rfl (hown.alloc _) ⟨wr.heap.size, 0, none⟩ 1 1 [.int .u8 (↑m % 128 + 128)] rfl rfl ?c1 ?c2 ?c3 ?c4 ?c5 ?_)
        case c1 => exact cell_one_new _ _ _
        case c2 => intro u hu; simp at hu; subst hu; rfl
        case c3 => unfold maxLen; omega
        case c4 => omega
        case c5 => simp; omega
        intro v' w1 hown' hgrow _
        clear hown
        go_wp2
        go_roundw
        case rel =>
          refine ⟨j + 1, m / 128, g ++ [((m % 128 + 128 : Nat) : Int)], by omega, by omega, by go_num, by go_num, HC, ?_, ?_⟩
          · rw [map_app]; simpa [Nat.add_assoc] using hown'
          · exact (hbel.alloc hsz _).grown hgrow (by simp; omega) (fun k hk => (HO.out k hk).1)
        case measure => simp [intOf]; omega
    · have HE : Hid (code n = g) := hc.out.2.2.2 (by omega)
      go_wp2
      go_ret
      exact ⟨_, rfl, by rw [HE.out]; exact hown, hbel⟩

end Go.Proofs.Ytfhncfghblkgeaa
