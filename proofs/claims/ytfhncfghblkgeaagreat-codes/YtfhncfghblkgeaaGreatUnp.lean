/-
  Unpack, whatever the bytes.
-/
import Derived.Test.YtfhncfghblkgeaaGreatUnp1
import Derived.Test.YtfhncfghblkgeaaGreatUnp2
import Derived.Test.YtfhncfghblkgeaaGreatUnp3
import Derived.Test.YtfhncfghblkgeaaGreatUnp4
namespace Go.Proofs.YtfhncfghblkgeaaGreat
open Go.RowKit

set_option maxHeartbeats 1000000 in
theorem unpack_nil (a : Option Addr) (cap : Nat) (w : World) :
    Calls Tryz.prog 62 #[.slice a 0 cap] w fun e w' => ∃ k t c u o err, e = .returned (.tuple #[.agg #[.int .i64 k, .int .i64 t, .int .i64 c, .int .i64 u, .int .i64 o], .int .i64 err]) ∧ UN [] k t c u o err ∧ Below w.heap.size w w' := by
  go_enter Tryz.func62, Tryz.ntmps62
  go_wp2
  refine bodyPost_ret (v := .tuple #[.agg #[.int .i64 0, .int .i64 0, .int .i64 0, .int .i64 0, .int .i64 0], .int .i64 2]) (by simp [results, Tryz.results62, go_sem]) rfl ⟨0, 0, 0, 0, 0, 2, rfl, un_nil, ?_⟩
  exact (Below.refl _ _).alloc (Nat.le_refl _) _

set_option maxRecDepth 100000 in
set_option maxHeartbeats 1000000 in
theorem unpack_other (b off len cap : Nat) (x : Int) (tl : List Int) (w : World) (h1 : ¬ x = 1) (h2 : ¬ x = 2) (h3 : ¬ x = 3) (h4 : ¬ x = 4) (h : sliceOf w (some ⟨b, off, none⟩) len cap (x :: tl)) :
    Calls Tryz.prog 62 #[.slice (some ⟨b, off, none⟩) len cap] w fun e w' => ∃ k t c u o err, e = .returned (.tuple #[.agg #[.int .i64 k, .int .i64 t, .int .i64 c, .int .i64 u, .int .i64 o], .int .i64 err]) ∧ UN (x :: tl) k t c u o err ∧ Below w.heap.size w w' := by
  have HU : Hid (UN (x :: tl) 0 0 0 0 0 2) := un_none (by simp [cnt, h1, h2, h3, h4])
  have hxb := h.2.2.2.1 x (by simp)
  obtain ⟨hl, hlc, hcap, hc0, HT⟩ := unp_open h
  obtain ⟨hx0, hx1⟩ := hxb
  have hbw : b < w.heap.size := World.block_lt_of_cell? w _ hc0
  have hne : ((len : Int) == 0) = false := by simp; omega
  have hpos : (0 : Int) < (len : Int) := by omega
  clear HT h
  go_enter Tryz.func62, Tryz.ntmps62
  go_wp2_with (go_at_call 96; refine (numbersOf_no x 0 0 0 0 _ h1 h2 h3 h4).mono ?_; rintro e w1 ⟨rfl, rfl⟩)
  refine bodyPost_ret (v := .tuple #[.agg #[.int .i64 0, .int .i64 0, .int .i64 0, .int .i64 0, .int .i64 0], .int .i64 2]) (by simp [results, Tryz.results62, go_sem]) rfl ⟨0, 0, 0, 0, 0, 2, rfl, HU.out, ?_⟩
  exact (by repeat (first | exact Below.refl _ _ | refine Below.alloc ?_ (by first | exact Nat.le_refl _ | (simp <;> omega)) _))

theorem unpack_any (a : Option Addr) (len cap : Nat) (l : List Int) (w : World) (h : sliceOf w a len cap l) :
    Calls Tryz.prog 62 #[.slice a len cap] w fun e w' => ∃ k t c u o err, e = .returned (.tuple #[.agg #[.int .i64 k, .int .i64 t, .int .i64 c, .int .i64 u, .int .i64 o], .int .i64 err]) ∧ UN l k t c u o err ∧ Below w.heap.size w w' := by
  match l, h with
  | [], h =>
    have h1 := h.1
    simp at h1
    subst h1
    exact unpack_nil a cap w
  | x :: tl, h =>
    obtain ⟨b, off, rfl, _⟩ := h.2.2.2.2 (by simp)
    by_cases h1 : x = 1
    · subst h1; exact unpack_1 b off len cap tl w h
    by_cases h2 : x = 2
    · subst h2; exact unpack_2 b off len cap tl w h
    by_cases h3 : x = 3
    · subst h3; exact unpack_3 b off len cap tl w h
    by_cases h4 : x = 4
    · subst h4; exact unpack_4 b off len cap tl w h
    · exact unpack_other b off len cap x tl w h1 h2 h3 h4 h

end Go.Proofs.YtfhncfghblkgeaaGreat
