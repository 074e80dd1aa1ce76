/-
  Arguments that are slices of structs, opened: scripts, configurations.
-/
import Derived.Test.YtfhncfghblkgeaaGreatOpenG
import Derived.Test.YtfhncfghblkgeaaGreatStepC
namespace Go.Proofs.YtfhncfghblkgeaaGreat
open Go.ChangeShapes Go.WideShapes Go.ChangeAt Go.RowKit
theorem Tryz.cellsOp : Tryz.prog.cellsOf 69 = 7 := by kernel_rfl
theorem Tryz.cellsCfg : Tryz.prog.cellsOf 29 = 8 := by kernel_rfl
theorem Tryz.cellsTier : Tryz.prog.cellsOf 137 = 2 := by kernel_rfl
theorem Tryz.cellsStr : Tryz.prog.cellsOf 9 = 1 := by kernel_rfl
theorem Tryz.cellsTiers : Tryz.prog.cellsOf 27 = 1 := by kernel_rfl
theorem Tryz.bytesOp : Tryz.prog.bytesOf 69 = 64 := by kernel_rfl
theorem Tryz.bytesCfg : Tryz.prog.bytesOf 29 = 80 := by kernel_rfl
theorem Tryz.bytesTier : Tryz.prog.bytesOf 137 = 16 := by kernel_rfl

/-- The bounds of a step's numbers. -/
def opOK (o : OpV) : Prop := (-9223372036854775808 ≤ o.k ∧ o.k ≤ 9223372036854775807) ∧ (-9223372036854775808 ≤ o.a ∧ o.a ≤ 9223372036854775807) ∧ (-9223372036854775808 ≤ o.b ∧ o.b ≤ 9223372036854775807) ∧ (-9223372036854775808 ≤ o.c ∧ o.c ≤ 9223372036854775807) ∧ (-9223372036854775808 ≤ o.d ∧ o.d ≤ 9223372036854775807) ∧ (-9223372036854775808 ≤ o.e ∧ o.e ≤ 9223372036854775807) ∧ o.s.size ≤ 140737488351232

theorem str_field {H : Type} {enc : TypeId × Value → H} {w : World} {held : Bool} {n : Nat} {cs : List Value} {k : Nat} {y : Option (DataW H × List MemPlace)} (hk : k < cs.length)
    (h : DataW.trod enc Tryz.prog w 0 (fun _ => true) held n 9 ((cs.drop k).take (Tryz.prog.cellsOf 9)) = y) (hy : y.isSome = true) (hw : ∀ z, y = some z → wOK 9 z.1) : ∃ s : ByteArray, cs[k]? = some (.string s) ∧ s.size ≤ 140737488351232 := by
  obtain ⟨z, rfl⟩ := Option.isSome_iff_exists.1 hy
  rw [Tryz.cellsStr, one_cell hk] at h
  obtain ⟨s, e, hz, _⟩ := DataW.trod_string Tryz.underlying9 h
  simp at e
  have hs := hw z rfl
  rw [hz] at hs
  have := hs s.data.toList.length (by simp [DataW.weights])
  exact ⟨s, by rw [List.getElem?_eq_getElem hk, e], by simpa [reachBytes] using this⟩

set_option maxRecDepth 100000 in
theorem script_open {H : Type} {enc : TypeId × Value → H} {w : World} {held : Bool} {r : Reach} {b0 : Nat} {v : Value} {d : DataW H} {p : List MemPlace}
    (hv : Value.okWide Tryz.prog w r b0 23 v) (h : DataW.Trod enc Tryz.prog w 0 (fun _ => true) held 23 v d p) (hw : wOK 23 d) :
    ∃ (a : Option Addr) (len cap : Nat) (ops : List OpV), v = .slice a len cap ∧ scriptAt w a len ops ∧ (∀ o ∈ ops, opOK o) ∧ len * 64 ≤ 140737488351232 := by
  obtain ⟨a, len, cap, rfl⟩ := okWide_slice Tryz.underlying23 hv
  obtain ⟨fuel, hf⟩ := h
  rcases rows_open Tryz.underlying23 Tryz.underlying69 Tryz.cellsOp hf hw with ⟨rfl, rfl, rfl⟩ | ⟨ad, rfl, hlc, hb, hrow⟩
  · exact ⟨none, 0, 0, [], rfl, ⟨rfl, fun h => absurd rfl h⟩, fun o ho => by simp at ho, by omega⟩
  · rw [Tryz.bytesOp] at hb
    have hb' : len * 64 ≤ 140737488351232 := by simp only [reachBytes] at hb; omega
    by_cases h0 : len = 0
    · subst h0
      exact ⟨some ad, 0, cap, [], rfl, ⟨rfl, fun h => absurd rfl h⟩, fun o ho => by simp at ho, hb'⟩
    obtain ⟨b, off, rfl⟩ : ∃ b off, ad = ⟨b, off, none⟩ := by
      obtain ⟨cs, xs, n, hcl, hcc, _⟩ := hrow 0 (by omega)
      have := hcc 0 (by omega)
      rw [List.getElem?_eq_getElem (by omega)] at this
      exact addr_plain (by simpa using this)
    have hall : ∀ i, i < len → ∃ o, opAt w b (off + i * 7) o ∧ opOK o := by
      intro i hi
      obtain ⟨cs, xs, n, hcl, hcc, hxl, hf, hwt⟩ := hrow i hi
      have hxl' : xs.length = 7 := hxl
      obtain ⟨k', e0, b0⟩ := int_field (k := 0) (by omega) (hf 0 _ rfl) (some_at hxl' (by omega))
      obtain ⟨a', e1, b1⟩ := int_field (k := 1) (by omega) (hf 1 _ rfl) (some_at hxl' (by omega))
      obtain ⟨b', e2, b2⟩ := int_field (k := 2) (by omega) (hf 2 _ rfl) (some_at hxl' (by omega))
      obtain ⟨c', e3, b3⟩ := int_field (k := 3) (by omega) (hf 3 _ rfl) (some_at hxl' (by omega))
      obtain ⟨d', e4, b4⟩ := int_field (k := 4) (by omega) (hf 4 _ rfl) (some_at hxl' (by omega))
      obtain ⟨e', e5, b5⟩ := int_field (k := 5) (by omega) (hf 5 _ rfl) (some_at hxl' (by omega))
      obtain ⟨s', e6, b6⟩ := str_field (k := 6) (by omega) (hf 6 _ rfl) (some_at hxl' (by omega)) (fun z hz => hwt 6 _ z rfl hz)
      have hc : ∀ j, j < 7 → w.cell? ⟨b, off + i * 7 + j, none⟩ = cs[j]? := fun j hj => by rw [← hcc j hj, Addr.add_lit, Nat.add_assoc]
      exact ⟨⟨k', a', b', c', d', e', s'⟩, ⟨(hc 0 (by omega)).trans e0, (hc 1 (by omega)).trans e1, (hc 2 (by omega)).trans e2, (hc 3 (by omega)).trans e3, (hc 4 (by omega)).trans e4, (hc 5 (by omega)).trans e5, (hc 6 (by omega)).trans e6⟩, b0, b1, b2, b3, b4, b5, b6⟩
    obtain ⟨f, hff⟩ := @Deep.choose_lt OpV ⟨op0⟩ _ _ hall
    refine ⟨some ⟨b, off, none⟩, len, cap, (List.range len).map f, rfl, ⟨by simp, fun _ => ⟨b, off, rfl, ?_, fun i hi => ?_⟩⟩, fun o ho => ?_, hb'⟩
    · exact World.block_lt_of_cell? w _ (hff 0 (by omega)).1.1
    · rw [getD_map f op0 hi]; exact (hff i hi).1
    · obtain ⟨i, hi, rfl⟩ := List.mem_map.1 ho
      exact (hff i (List.mem_range.1 hi)).2

set_option maxRecDepth 100000 in
theorem tiers_open {H : Type} {enc : TypeId × Value → H} {w : World} {held : Bool} {fuel : Nat} {a : Option Addr} {len cap : Nat} {x : DataW H × List MemPlace}
    (h : DataW.trod enc Tryz.prog w 0 (fun _ => true) held fuel 27 [.slice a len cap] = some x) (hw : wOK 27 x.1) : ∃ ts, tiersAt w a len cap ts ∧ len * 16 ≤ 140737488351232 := by
  rcases rows_open Tryz.underlying27 Tryz.underlying137 Tryz.cellsTier h hw with ⟨rfl, rfl, rfl⟩ | ⟨ad, rfl, hlc, hb, hrow⟩
  · exact ⟨[], ⟨rfl, Nat.le_refl _, by omega, fun _ => ⟨rfl, rfl⟩, fun h => absurd rfl h⟩, by omega⟩
  · rw [Tryz.bytesTier] at hb
    simp only [reachBytes] at hb
    by_cases h0 : len = 0
    · subst h0
      exact ⟨[], ⟨rfl, hlc, by omega, fun h => by simp at h, fun h => absurd rfl h⟩, by omega⟩
    obtain ⟨b, off, rfl⟩ : ∃ b off, ad = ⟨b, off, none⟩ := by
      obtain ⟨cs, xs, n, hcl, hcc, _⟩ := hrow 0 (by omega)
      have := hcc 0 (by omega)
      rw [List.getElem?_eq_getElem (by omega)] at this
      exact addr_plain (by simpa using this)
    have hall : ∀ i, i < len → ∃ q : Int × Int, w.cell? ⟨b, off + i * 2, none⟩ = some (.int .i64 q.1) ∧ w.cell? ⟨b, off + i * 2 + 1, none⟩ = some (.int .i64 q.2) := by
      intro i hi
      obtain ⟨cs, xs, n, hcl, hcc, hxl, hf, _⟩ := hrow i hi
      have hxl' : xs.length = 2 := hxl
      obtain ⟨f', e0, _⟩ := int_field (k := 0) (by omega) (hf 0 _ rfl) (some_at hxl' (by omega))
      obtain ⟨c', e1, _⟩ := int_field (k := 1) (by omega) (hf 1 _ rfl) (some_at hxl' (by omega))
      have hc : ∀ j, j < 2 → w.cell? ⟨b, off + i * 2 + j, none⟩ = cs[j]? := fun j hj => by rw [← hcc j hj, Addr.add_lit, Nat.add_assoc]
      exact ⟨(f', c'), (hc 0 (by omega)).trans e0, (hc 1 (by omega)).trans e1⟩
    obtain ⟨f, hff⟩ := @Deep.choose_lt (Int × Int) ⟨(0, 0)⟩ _ _ hall
    refine ⟨(List.range len).map f, ⟨by simp, hlc, by omega, fun h => by simp at h, fun _ => ⟨b, off, rfl, World.block_lt_of_cell? w _ (hff 0 (by omega)).1, fun i hi => ?_⟩⟩, by omega⟩
    rw [getD_map f (0, 0) hi]; exact hff i hi

set_option maxRecDepth 100000 in
theorem cfgs_open {H : Type} {enc : TypeId × Value → H} {w : World} {held : Bool} {r : Reach} {b0 : Nat} {v : Value} {d : DataW H} {p : List MemPlace}
    (hv : Value.okWide Tryz.prog w r b0 22 v) (h : DataW.Trod enc Tryz.prog w 0 (fun _ => true) held 22 v d p) (hw : wOK 22 d) :
    ∃ (a : Option Addr) (len cap : Nat), v = .slice a len cap ∧ cfgsAt w a len := by
  obtain ⟨a, len, cap, rfl⟩ := okWide_slice Tryz.underlying22 hv
  obtain ⟨fuel, hf⟩ := h
  rcases rows_open Tryz.underlying22 Tryz.underlying29 Tryz.cellsCfg hf hw with ⟨rfl, rfl, rfl⟩ | ⟨ad, rfl, hlc, hb, hrow⟩
  · exact ⟨none, 0, 0, rfl, by omega, fun h => by omega⟩
  · rw [Tryz.bytesCfg] at hb
    have hb' : len * 80 ≤ 140737488351232 := by simp only [reachBytes] at hb; omega
    by_cases h0 : len = 0
    · subst h0
      exact ⟨some ad, 0, cap, rfl, by omega, fun h => by omega⟩
    obtain ⟨b, off, rfl⟩ : ∃ b off, ad = ⟨b, off, none⟩ := by
      obtain ⟨cs, xs, n, hcl, hcc, _⟩ := hrow 0 (by omega)
      have := hcc 0 (by omega)
      rw [List.getElem?_eq_getElem (by omega)] at this
      exact addr_plain (by simpa using this)
    have hall : ∀ i, i < len → cfgAt w b (off + i * 8) := by
      intro i hi
      obtain ⟨cs, xs, n, hcl, hcc, hxl, hf, hwt⟩ := hrow i hi
      have hxl' : xs.length = 8 := hxl
      obtain ⟨n0, e0, _⟩ := int_field (k := 0) (by omega) (hf 0 _ rfl) (some_at hxl' (by omega))
      obtain ⟨n1, e1, _⟩ := int_field (k := 1) (by omega) (hf 1 _ rfl) (some_at hxl' (by omega))
      obtain ⟨n2, e2, _⟩ := int_field (k := 2) (by omega) (hf 2 _ rfl) (some_at hxl' (by omega))
      obtain ⟨n3, e3, _⟩ := int_field (k := 3) (by omega) (hf 3 _ rfl) (some_at hxl' (by omega))
      obtain ⟨n4, e4, _⟩ := int_field (k := 4) (by omega) (hf 4 _ rfl) (some_at hxl' (by omega))
      obtain ⟨n5, e5, _⟩ := int_field (k := 5) (by omega) (hf 5 _ rfl) (some_at hxl' (by omega))
      obtain ⟨n6, e6, _⟩ := int_field (k := 6) (by omega) (hf 6 _ rfl) (some_at hxl' (by omega))
      obtain ⟨z, hz⟩ := Option.isSome_iff_exists.1 (some_at hxl' (show 7 < 8 by omega))
      have h7 : DataW.trod enc Tryz.prog w 0 (fun _ => true) held n 27 ((cs.drop 7).take (Tryz.prog.cellsOf 27)) = xs[7]? := hf 7 _ rfl
      have hw7 : wOK 27 z.1 := hwt 7 _ z rfl hz
      rw [hz] at h7
      rw [Tryz.cellsTiers, one_cell (by omega)] at h7
      obtain ⟨a', l', c', hs⟩ : ∃ a l c, [cs[7]] = [Value.slice a l c] := by
        rcases DataW.trod_slice Tryz.underlying27 h7 with ⟨hcs, _⟩ | ⟨ad, l, cp, _, _, _, _, hcs, _⟩
        · exact ⟨_, _, _, hcs⟩
        · exact ⟨_, _, _, hcs⟩
      rw [hs] at h7
      obtain ⟨ts, hts, hl16⟩ := tiers_open h7 hw7
      have e7 : cs[7]? = some (.slice a' l' c') := by rw [List.getElem?_eq_getElem (by omega)]; simpa using hs
      have hc : ∀ j, j < 8 → w.cell? ⟨b, off + i * 8 + j, none⟩ = cs[j]? := fun j hj => by rw [← hcc j hj, Addr.add_lit, Nat.add_assoc]
      exact ⟨n0, n1, n2, n3, n4, n5, n6, a', l', c', ts, (hc 0 (by omega)).trans e0, (hc 1 (by omega)).trans e1, (hc 2 (by omega)).trans e2, (hc 3 (by omega)).trans e3, (hc 4 (by omega)).trans e4, (hc 5 (by omega)).trans e5, (hc 6 (by omega)).trans e6, (hc 7 (by omega)).trans e7, hts, hl16⟩
    obtain ⟨_, _, _, _, _, _, _, _, _, _, _, hc0, _⟩ := hall 0 (by omega)
    exact ⟨some ⟨b, off, none⟩, len, cap, rfl, hb', fun _ => ⟨b, off, rfl, World.block_lt_of_cell? w _ hc0, hall⟩⟩

end Go.Proofs.YtfhncfghblkgeaaGreat
