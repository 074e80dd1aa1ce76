/-
  Walks: groupsOf, coded.
-/
import Derived.Test.YtfhncfghblkgeaaGreatLeaf
namespace Go.Proofs.YtfhncfghblkgeaaGreat
open Go.RowKit

theorem Tryz.infoU8 : (Tryz.prog.info? 5).map (fun i => (i.zero, i.size, i.bytes)) = some (some (.int .u8 0), 1, 1) := by kernel_rfl

theorem ownsRow_mono {w : World} {base base' : Nat} {e : TypeId} {size : Nat} {v : Value} {n : Nat} {xs : List Value} (h : w.ownsRow base e size v n xs) (hb : base' ≤ base) : w.ownsRow base' e size v n xs := by
  refine ⟨h.1, ?_⟩
  rcases h.2 with h | ⟨g, cap, cur, h1, h2, h3⟩
  · exact .inl h
  · exact .inr ⟨g, cap, cur, h1, Nat.le_trans hb h2, h3⟩

/-- An empty literal. -/
theorem ownsRow_empty (w : World) (base : Nat) (e : TypeId) (hb : base ≤ w.heap.size) : (w.alloc (.cells #[] e)).ownsRow base e 1 (.slice (some ⟨w.heap.size, 0, none⟩) 0 0) 0 [] :=
  World.ownsRow_made w #[] 0 hb (Nat.zero_le _) rfl

theorem code_split_small {n m : Nat} {g : List Int} (h : code n = g ++ code m) (hm : m < 128) : code n = g ++ [(m : Int)] := by rw [h, code_small hm]
theorem code_split_great {n m : Nat} {g : List Int} (h : code n = g ++ code m) (hm : ¬ m < 128) : code n = (g ++ [((m % 128 + 128 : Nat) : Int)]) ++ code (m / 128) := by
  rw [h, code_great (n := m) (by omega)]; simp

theorem map_snoc (g : List Int) (x : Int) : (g ++ [x]).map (Value.int .u8) = g.map (Value.int .u8) ++ [.int .u8 x] := by simp

set_option maxRecDepth 100000 in
set_option maxHeartbeats 400000 in
theorem groupsOf_any (n : Nat) (w : World) (hn : n < 9223372036854775808) :
    Calls Tryz.prog 106 #[.int .i64 n] w fun e w' => ∃ v, e = .returned v ∧ w'.ownsRow w.heap.size 5 1 v (code n).length ((code n).map (Value.int .u8)) ∧ Below w.heap.size w w' := by
  obtain ⟨i0, hi, hz0, hz1, hz2⟩ := info_parts Tryz.infoU8
  have hl := code_len9 hn
  generalize hB : w.heap.size = B
  have HB : Hid (w.heap.size = B) := hB
  go_enter Tryz.func106, Tryz.ntmps106
  go_wp2_with fail
  clear hB
  go_loopw [0, 3] (fun x v wr => ∃ (m : Nat) (g : List Int), m ≤ n ∧ x = .int .i64 m ∧ Hid (code n = g ++ code m) ∧ wr.ownsRow B 5 1 v g.length (g.map (Value.int .u8)) ∧ Below B w wr) (fun x _ _ => (intOf x).toNat)
  case atStart => exact ⟨n, [], Nat.le_refl _, rfl, rfl, by have := ownsRow_empty w B 5 (by rw [HB.out]; exact Nat.le_refl _); rw [HB.out] at this; exact this, (Below.refl _ _).alloc (by rw [HB.out]; exact Nat.le_refl _) _⟩
  case round =>
    obtain ⟨m, g, hm, rfl, hc, hown, hbel⟩ := hrel
    have hsz : B ≤ wr.heap.size := by have := hbel.size; rw [HB.out] at this; exact this
    have hgl : g.length ≤ 9 := by have := hc.out; rw [this] at hl; simp at hl; omega
    have HO : Hid (∀ k, u3.ownBlock = some k → B ≤ k ∧ k < wr.heap.size) := World.ownsRow.lt hown
    by_cases hlt : m < 128
    · have hc' : Hid (code n = g ++ [(m : Int)]) := code_split_small hc hlt
      clear hc hl
      go_wp2_with (at_builtin; refine wpList_append_own _ rfl _ _ 92 rfl B 5 i0 (.int .u8 0) 1 1 Tryz.underlying92 hi hz0 hz1 hz2 rfl (by decide) _ _ _ rfl (hown.alloc _) ⟨wr.heap.size, 0, none⟩ 1 1 [.int .u8 m] rfl rfl ?c1 ?c2 ?c3 ?c4 ?c5 ?_)
      case c1 => exact cell_one_new _ _ _
      case c2 => intro u hu; simp at hu; subst hu; rfl
      case c3 => unfold maxLen; omega
      case c4 => omega
      case c5 => simp; omega
      intro v' w1 hown' hgrow _
      clear hown
      go_wp2
      go_ret
      refine ⟨_, rfl, ?_, ?_⟩
      · rw [hc'.out, map_snoc]; simpa using hown'
      · exact (hbel.alloc hsz _).grown hgrow (by simp; omega) (fun k hk => (HO.out k hk).1)
    · have hc' : Hid (code n = (g ++ [((m % 128 + 128 : Nat) : Int)]) ++ code (m / 128)) := code_split_great hc hlt
      clear hc hl
      go_wp2_with (at_builtin; refine wpList_append_own _ rfl _ _ 92 rfl B 5 i0 (.int .u8 0) 1 1 Tryz.underlying92 hi hz0 hz1 hz2 rfl (by decide) _ _ _ rfl (hown.alloc _) ⟨wr.heap.size, 0, none⟩ 1 1 [.int .u8 (m % 128 + 128)] rfl rfl ?c1 ?c2 ?c3 ?c4 ?c5 ?_)
      case c1 => exact cell_one_new _ _ _
      case c2 => intro u hu; simp at hu; subst hu; rfl
      case c3 => unfold maxLen; omega
      case c4 => omega
      case c5 => simp; omega
      intro v' w1 hown' hgrow _
      clear hown
      go_wp2
      go_roundw
      case rel =>
        refine ⟨m / 128, g ++ [((m % 128 + 128 : Nat) : Int)], by omega, by go_num, hc', ?_, ?_⟩
        · rw [map_snoc]; simpa using hown'
        · exact (hbel.alloc hsz _).grown hgrow (by simp; omega) (fun k hk => (HO.out k hk).1)
      case measure => simp [intOf]; omega
end Go.Proofs.YtfhncfghblkgeaaGreat
