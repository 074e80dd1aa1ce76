import Derived.Test.YtfhncfghblkgeabGreatL20
import Derived.Test.YtfhncfghblkgeabGreatL21
set_option maxRecDepth 100000
set_option maxHeartbeats 2000000
namespace Go.Proofs.YtfhncfghblkgeabGreat
open Go.RowKit
section
open Go.ChangeShapes Go.WideShapes Go.ChangeAt Go.RowKit
theorem Tryz.cellsCfg : Tryz.prog.cellsOf 24 = 8 := by kernel_rfl
theorem Tryz.cellsTier : Tryz.prog.cellsOf 107 = 2 := by kernel_rfl
theorem Tryz.cellsTiers : Tryz.prog.cellsOf 22 = 1 := by kernel_rfl
theorem Tryz.bytesTier : Tryz.prog.bytesOf 107 = 16 := by kernel_rfl
theorem tiers_open {H : Type} {enc : TypeId × Value → H} {w : World} {held : Bool} {fuel : Nat} {a : Option Addr} {len cap : Nat} {x : DataW H × List MemPlace}
 (h : DataW.trod enc Tryz.prog w 0 (fun _ => true) held fuel 22 [.slice a len cap] = some x) (hw : wOK 22 x.1) : ∃ ts, tiersAt w a len cap ts ∧ len * 16 ≤ 140737488351232 := by
 rcases rows_open Tryz.underlying22 Tryz.underlying107 Tryz.cellsTier h hw with ⟨rfl, rfl, rfl⟩ | ⟨ad, rfl, hlc, hb, hrow⟩
 ·exact ⟨[], ⟨rfl, Nat.le_refl _, by omega, fun _ => ⟨rfl, rfl⟩, fun h => absurd rfl h⟩, by omega⟩
 ·rw [Tryz.bytesTier] at hb
  simp only [reachBytes] at hb
  by_cases h0 : len = 0
  ·subst h0
   exact ⟨[], ⟨rfl, hlc, by omega, fun h => by simp at h, fun h => absurd rfl h⟩, by omega⟩
  obtain ⟨b, off, rfl⟩ : ∃ b off, ad = (aq b off) := by
   obtain ⟨cs, xs, n, hcl, hcc, _⟩ := hrow 0 (by omega)
   have := hcc 0 (by omega)
   rw [List.getElem?_eq_getElem (by omega)] at this
   exact addr_plain (by simpa using this)
  have hall : ∀ i, i < len → ∃ q : Int × Int, w.cell? (aq b (off + i * 2)) = some (iv q.1) ∧ w.cell? (aq b (off + i * 2 + 1)) = some (iv q.2) := by
   intro i hi
   obtain ⟨cs, xs, n, hcl, hcc, hxl, hf, _⟩ := hrow i hi
   have hxl' : xs.length = 2 := hxl
   obtain ⟨f', e0, _⟩ := int_field (k := 0) (by omega) (hf 0 _ rfl) (some_at hxl' (by omega))
   obtain ⟨c', e1, _⟩ := int_field (k := 1) (by omega) (hf 1 _ rfl) (some_at hxl' (by omega))
   have hc : ∀ j, j < 2 → w.cell? (aq b (off + i * 2 + j)) = cs[j]? := fun j hj => by rw [← hcc j hj, Addr.add_lit, Nat.add_assoc]
   exact ⟨(f', c'), (hc 0 (by omega)).trans e0, (hc 1 (by omega)).trans e1⟩
  obtain ⟨f, hff⟩ := @Deep.choose_lt (Int × Int) ⟨(0, 0)⟩ _ _ hall
  refine ⟨(List.range len).map f, ⟨by simp, hlc, by omega, fun h => by simp at h, fun _ => ⟨b, off, rfl, World.block_lt_of_cell? w _ (hff 0 (by omega)).1, fun i hi => ?_⟩⟩, by omega⟩
  rw [getD_map f (0, 0) hi]; exact hff i hi
end
section
def Sal.acc (S : Sal) (c : Int) : Int × Int × Int × Int := if numB c then ((S.account c).1, (S.account c).2.1, (S.account c).2.2, 0) else (0, 0, 0, 3)
structure BookOK (PS : World → Nat → (Nat → Prop) → Sal → Prop) : Prop where
 books : ∀ {w x own S}, PS w x own S → salJ S → Calls Tryz.prog 22 #[pt x 0] w fun e w' => e = .returned (.agg #[iv S.free, iv (unitsS S.os 13 0), iv (unitsS S.os 14 0), iv (queueS S.os).length, iv S.answers]) ∧ psAns PS w w' x own S
 account : ∀ {w x own S} (c : Int), PS w x own S → salJ S → Calls Tryz.prog 24 #[pt x 0, iv c] w fun e w' => e = .returned (.tuple #[.agg #[iv (S.acc c).1, iv (S.acc c).2.1, iv (S.acc c).2.2.1], iv (S.acc c).2.2.2]) ∧ psAns PS w w' x own S
structure TickOK (PS : World → Nat → (Nat → Prop) → Sal → Prop) : Prop where
 tick : ∀ {w x own S} (n : Int), -9223372036854775808 ≤ n → n ≤ 9223372036854775807 → PS w x own S → salJ S → Calls Tryz.prog 30 #[pt x 0, iv n] w fun e w' => e = .returned (.tuple #[iv (S.tick n).1.1, iv (S.tick n).1.2]) ∧ psAns PS w w' x own (S.tick n).2
 clock : ∀ {w x own S}, PS w x own S → salJ S → Calls Tryz.prog 23 #[pt x 0] w fun e w' => e = .returned (iv S.now) ∧ psAns PS w w' x own S
theorem past_keep (S : Sal) (st en : Int) : (S.past st en).C = S.C ∧ (S.past st en).now = S.now ∧ (S.past st en).ansL = S.ansL := by
 obtain ⟨a, b, c⟩ := promote_keep (pastN S st en S.os.length)
 obtain ⟨d, e, f⟩ := pastN_keep S st en S.os.length
 exact ⟨a.trans d, b.trans e, c.trans f⟩
theorem round_keep (S : Sal) (t : Int) : (S.round t).C = S.C ∧ (S.round t).ansL = S.ansL ∧ (S.round t).os.length = S.os.length := by
 obtain ⟨a, _, c⟩ := past_keep (({ S with now := t } : Sal).past 13 15) 12 17
 obtain ⟨d, _, f⟩ := past_keep ({ S with now := t } : Sal) 13 15
 exact ⟨a.trans d, c.trans f, (past_len _ 12 17).trans (past_len _ 13 15)⟩
theorem tickN_keep : ∀ (n : Nat) (S : Sal) (to : Int), (tickN n S to).C = S.C ∧ (tickN n S to).ansL = S.ansL ∧ (tickN n S to).os.length = S.os.length
 | 0, _, _ => ⟨rfl, rfl, rfl⟩
 | n + 1, S, to => by
   unfold tickN
   split
   ·exact ⟨rfl, rfl, rfl⟩
   ·obtain ⟨a, b, c⟩ := tickN_keep n (S.round (S.due to)) to
    obtain ⟨d, e, f⟩ := round_keep S (S.due to)
    exact ⟨a.trans d, b.trans e, c.trans f⟩
theorem tick_keep (S : Sal) (n : Int) : (S.tick n).2.C = S.C ∧ (S.tick n).2.ansL = S.ansL ∧ (S.tick n).2.os.length = S.os.length := by
 unfold Sal.tick
 split
 ·exact ⟨rfl, rfl, rfl⟩
 split <;> exact tickN_keep _ _ _
theorem salJ_tick {S : Sal} (h : salJ S) (n : Int) (hI : salI (S.tick n).2) : salJ (S.tick n).2 := by
 obtain ⟨a, b, c⟩ := tick_keep S n
 exact ⟨hI, by rw [a]; exact h.cap, by rw [a]; exact h.queue, by rw [c]; exact h.len, by rw [b]; exact h.ats⟩
section
variable {PS : World → Nat → (Nat → Prop) → Sal → Prop} {w : World} {B j : Nat} {e : SE}
end
end
def codedAt (n K j m : Nat) (g : List Int) : Prop := K = (code n).length ∧ g.length = j ∧ (j < K → code n = g ++ code m) ∧ (j = K → code n = g)
theorem codedAt_start (n : Nat) : codedAt n (code n).length 0 n [] := ⟨rfl, rfl, fun _ => rfl, fun h => by have := code_pos n; omega⟩
theorem codedAt_last {n K j m : Nat} {g : List Int} (h : codedAt n K j m g) (hj : j < K) (hm : m < 128) : j + 1 = K ∧ codedAt n K (j + 1) (m / 128) (g ++ [(m : Int)]) := by
 obtain ⟨hK, hg, h1, _⟩ := h
 have h1 := h1 hj
 rw [code_small hm] at h1
 have e : K = j + 1 := by rw [hK, h1]; simp [hg]
 exact ⟨e.symm, hK, by simp [hg], fun h => by omega, fun _ => h1⟩
theorem codedAt_more {n K j m : Nat} {g : List Int} (h : codedAt n K j m g) (hj : j < K) (hm : ¬ m < 128) : j + 1 < K ∧ codedAt n K (j + 1) (m / 128) (g ++ [((m % 128 + 128 : Nat) : Int)]) := by
 obtain ⟨hK, hg, h1, _⟩ := h
 have h1 := code_split_great (h1 hj) hm
 have hp := code_pos (m / 128)
 have e : j + 1 < K := by rw [hK, h1]; simp [hg]; omega
 exact ⟨e, hK, by simp [hg], fun _ => h1, fun h => by omega⟩
theorem map_app (xs g : List Int) (x : Int) : (xs ++ (g ++ [x])).map (Value.int .u8) = (xs ++ g).map (Value.int .u8) ++ [.int .u8 x] := by simp
theorem coded_nat (v : Value) (xs : List Int) (n B : Nat) (w : World) (hn : n < 9223372036854775808) (hB : B ≤ w.heap.size) (hx : xs.length ≤ 1000) (hv : w.ownsRow B 5 1 v xs.length (xs.map (Value.int .u8))) :
 Calls Tryz.prog 45 #[v, iv n] w fun e w' => ∃ v', e = .returned v' ∧ w'.ownsRow B 5 1 v' (xs ++ code n).length ((xs ++ code n).map (Value.int .u8)) ∧ Below B w w' := by
 obtain ⟨i0, hi, hz0, hz1, hz2⟩ := info_parts Tryz.infoU8
 have hl := code_len9 hn
 have hp := code_pos n
 have hA := codedAt_start n
 generalize hK : (code n).length = K at hl hp hA
 have HK : Hid ((code n).length = K) := hK
 have HA : Hid (codedAt n K 0 n []) := hA
 go_enter Tryz.func45, Tryz.ntmps45
 go_wp2_with (go_at_call 70; refine (groups_any n _ hn).mono ?_; rintro e w' ⟨rfl, rfl⟩; rw [HK.out])
 clear hK hA
 go_loopw [0, 1, 6] (fun b x i wr => ∃ (j m : Nat) (g : List Int), j ≤ K ∧ m ≤ n ∧ x = iv m ∧ i = iv j ∧ Hid (codedAt n K j m g) ∧ wr.ownsRow B 5 1 b (xs ++ g).length ((xs ++ g).map (Value.int .u8)) ∧ Below B w wr) (fun _ _ i _ => K - (intOf i).toNat)
 case atStart => exact ⟨0, n, [], Nat.zero_le _, Nat.le_refl _, rfl, rfl, HA, by simpa using hv, Below.refl _ _⟩
 case round =>
  obtain ⟨j, m, g, hj, hm, rfl, rfl, hc, hown, hbel⟩ := hrel
  clear hv
  have hsz : B ≤ wr.heap.size := Nat.le_trans hB hbel.size
  have hgl : g.length ≤ 9 := by have := hc.out.2.1; omega
  have hxg : (xs ++ g).length ≤ 1009 := by simp; omega
  have HO : Hid (∀ k, u0.ownBlock = some k → B ≤ k ∧ k < wr.heap.size) := World.ownsRow.lt hown
  by_cases hjk : j < K
  ·by_cases hlt : m < 128
   ·obtain ⟨hlast, hc'⟩ := codedAt_last hc hjk hlt
    have HC : Hid (codedAt n K (j + 1) (m / 128) (g ++ [(m : Int)])) := hc'
    have HE : Hid ((m : Int) % 128 = m) := by unfold Hid; omega
    have hnot : ¬ j < K - 1 := by omega
    clear hc' hc hlast
    go_wp2_with (at_builtin; refine wpList_append_own _ rfl _ _ 70 rfl B 5 i0 (.int .u8 0) 1 1 Tryz.underlying70 hi hz0 hz1 hz2 rfl (by decide) _ _ _ rfl (hown.alloc _) (aq wr.heap.size 0) 1 1 [.int .u8 (↑m % 128)] rfl rfl ?c1 ?c2 ?c3 ?c4 ?c5 ?_)
    case c1 => exact cell_one_new _ _ _
    case c2 => intro u hu; simp at hu; subst hu; rfl
    case c3 => unfold maxLen; omega
    case c4 => omega
    case c5 => simp; omega
    intro v' w1 hown' hgrow _
    clear hown
    go_wp2
    go_roundw
    case rel =>
     refine ⟨j + 1, m / 128, g ++ [(m : Int)], by omega, by omega, by go_num, by go_num, HC, ?_, ?_⟩
     ·rw [map_app]; rw [HE.out] at hown'; simpa [Nat.add_assoc] using hown'
     ·exact (hbel.alloc hsz _).grown hgrow (by simp; omega) (fun k hk => (HO.out k hk).1)
    case measure => simp [intOf]; omega
   ·obtain ⟨hmore, hc'⟩ := codedAt_more hc hjk hlt
    have HC : Hid (codedAt n K (j + 1) (m / 128) (g ++ [((m % 128 + 128 : Nat) : Int)])) := hc'
    have hyes : (j : Int) < (K : Int) - 1 := by omega
    clear hc' hc hmore
    go_wp2_with (at_builtin; refine wpList_append_own _ rfl _ _ 70 rfl B 5 i0 (.int .u8 0) 1 1 Tryz.underlying70 hi hz0 hz1 hz2 rfl (by decide) _ _ _ rfl (hown.alloc _) (aq wr.heap.size 0) 1 1 [.int .u8 (↑m % 128 + 128)] rfl rfl ?c1 ?c2 ?c3 ?c4 ?c5 ?_)
    case c1 => exact cell_one_new _ _ _
    case c2 => intro u hu; simp at hu; subst hu; rfl
    case c3 => unfold maxLen; omega
    case c4 => omega
    case c5 => simp; omega
    intro v' w1 hown' hgrow _
    clear hown
    go_wp2
    go_roundw
    case rel =>
     refine ⟨j + 1, m / 128, g ++ [((m % 128 + 128 : Nat) : Int)], by omega, by omega, by go_num, by go_num, HC, ?_, ?_⟩
     ·rw [map_app]; simpa [Nat.add_assoc] using hown'
     ·exact (hbel.alloc hsz _).grown hgrow (by simp; omega) (fun k hk => (HO.out k hk).1)
    case measure => simp [intOf]; omega
  ·have HE : Hid (code n = g) := hc.out.2.2.2 (by omega)
   go_wp2
   go_ret
   exact ⟨_, rfl, by rw [HE.out]; exact hown, hbel⟩
end Go.Proofs.YtfhncfghblkgeabGreat
