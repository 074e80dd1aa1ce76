/-
  The walk: saleref.Frame.
-/
import Derived.Test.YtfhncfghblkgeaaGreatRCode
namespace Go.Proofs.YtfhncfghblkgeaaGreat
open Go.RowKit

theorem rcode_some (n : Nat) (w : World) (hn : n < 9223372036854775808) :
    Calls Tryz.prog 141 #[.int .i64 n] w fun e w' => ∃ g cap, e = .returned (.slice (some ⟨g, 0, none⟩) (code n).length cap) ∧ (∀ j u, ((code n).map (Value.int .u8))[j]? = some u → w'.cell? ((⟨g, 0, none⟩ : Addr).add j) = some u) ∧ Below w.heap.size w w' := by
  refine (rcode_any n n w (Nat.le_refl _) hn).mono ?_
  rintro e w' ⟨v, rfl, g, cap, rfl, hown, hb⟩
  exact ⟨g, cap, rfl, hown.cells rfl, hb⟩

set_option maxRecDepth 100000 in
set_option maxHeartbeats 1000000 in
theorem rframe_any (k : Int) (hk0 : 0 ≤ k) (hk1 : k < 256) (ns : List Int) (b cap : Nat) (w : World) (hl : ns.length ≤ 3) (hbw : b < w.heap.size) (hnum : numsAt w b ns) :
    Calls Tryz.prog 108 #[.int .i64 k, .slice (some ⟨b, 0, none⟩) ns.length cap] w fun e w' => ∃ v, e = .returned v ∧ w'.ownsRow w.heap.size 5 1 v (frameB k ns).length ((frameB k ns).map (Value.int .u8)) ∧ Below w.heap.size w w' := by
  have HNUM : Hid (numsAt w b ns) := hnum
  clear hnum
  obtain ⟨i0, hi, hz0, hz1, hz2⟩ := info_parts Tryz.infoU8
  generalize hB : w.heap.size = B at *
  have HB : Hid (w.heap.size = B) := hB
  go_enter Tryz.func108, Tryz.ntmps108
  go_wp2_with fail
  clear hB
  go_loopw [5, 6] (fun fr i wr => ∃ j : Nat, j ≤ ns.length ∧ i = .int .i64 j ∧ wr.ownsRow B 5 1 fr (frameB k (ns.take j)).length ((frameB k (ns.take j)).map (Value.int .u8)) ∧ Below B w wr) (fun _ i _ => ns.length - (intOf i).toNat)
  case atStart => exact ⟨0, Nat.zero_le _, rfl, by simpa [frameB] using ownsRow_one HB.out (.int .u8 k), (Below.refl _ _).alloc (Nat.le_of_eq HB.out.symm) _⟩
  case round =>
    obtain ⟨j, hj, rfl, hown, hbel⟩ := hrel
    have hBr : B ≤ wr.heap.size := by have := hbel.size; rw [HB.out] at this; exact this
    by_cases hlt : j < ns.length
    · obtain ⟨m, hm, hml, hmc⟩ := HNUM.out j hlt
      have hcx : wr.cell? ⟨b, j, none⟩ = some (.int .i64 m) := (hbel.cell (p := ⟨b, j, none⟩) hbw).trans hmc
      have hfl : (frameB k (ns.take j)).length ≤ 100 := by
        have := frameB_len k ns (fun j hj => let ⟨n, h1, h2, _⟩ := HNUM.out j hj; ⟨n, h1, h2⟩) j (by omega)
        omega
      have hcl := code_len9 hml
      have HF : Hid (frameB k (ns.take (j + 1)) = frameB k (ns.take j) ++ code m) := frameB_take k ns j m hlt hm
      clear hm hmc
      generalize hX : frameB k (ns.take j) = X at *
      clear hX
      generalize hR : wr.heap.size = R at *
      have HR : Hid (wr.heap.size = R) := hR
      clear hR
      go_wp2_with (first
        | (go_at_call 141; refine (rcode_some m _ hml).mono ?_; rintro e w2 ⟨g, cap, rfl, hgc, hb2⟩)
        | (at_builtin; refine wpList_append_own _ rfl _ _ 92 rfl B 5 i0 (.int .u8 0) 1 1 Tryz.underlying92 hi hz0 hz1 hz2 rfl (by decide) _ _ _ rfl (ownsRow_below hown hb2 (Nat.le_refl _)) ⟨g, 0, none⟩ _ _ ((code m).map (Value.int .u8)) rfl (by simp) hgc (ints_oneCell _ _) (by unfold maxLen; omega) (by omega) (by have := hb2.size; rw [HR.out] at this; omega) ?_))
      intro v' w3 hown3 hgrow _
      have HP : Hid (w3.ownsRow B 5 1 v' (X ++ code m).length ((X ++ code m).map (Value.int .u8)) ∧ Below B w w3) := pack_round rfl hown hbel hb2 (by rw [HR.out]; exact hBr) hown3 hgrow
      clear hown3 hgrow hgc hb2 hown hcx
      go_wp2
      go_roundw
      case rel => exact ⟨j + 1, by omega, by go_num, by rw [HF.out]; exact HP.out.1, HP.out.2⟩
      case measure => simp [intOf]; omega
    · have HE : Hid (ns.take j = ns) := List.take_of_length_le (by omega)
      rw [HE.out] at hown
      go_wp2
      go_ret
      exact ⟨_, rfl, hown, hbel⟩

end Go.Proofs.YtfhncfghblkgeaaGreat
