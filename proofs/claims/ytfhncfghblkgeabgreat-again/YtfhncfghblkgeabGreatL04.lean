import Derived.Test.YtfhncfghblkgeabGreatL02
import Derived.Test.YtfhncfghblkgeabGreatL03
set_option maxRecDepth 100000
set_option maxHeartbeats 2000000
namespace Go.Proofs.YtfhncfghblkgeabGreat
open Go.RowKit
theorem requestOf_1 (b off cap : Nat) (x y z : Int) (w : World) (h0 : w.cell? (aq b off) = some (iv x)) (h1 : w.cell? (aq b (off + 1)) = some (iv y)) (h2 : w.cell? (aq b (off + 2)) = some (iv z)) :
 Calls Tryz.prog 65 #[iv 1, .slice (some (aq b off)) 3 cap] w fun e w' => e = .returned (.agg #[iv 1, iv x, iv y, iv z, iv 0]) ∧ Below w.heap.size w w' := by
 have hb : b < w.heap.size := World.block_lt_of_cell? w _ h0
 go_enter Tryz.func65, Tryz.ntmps65
 go_wp2
 go_region
 go_wp2
 exact bodyPost_ret (v := .agg #[iv 1, iv x, iv y, iv z, iv 0]) (by simp [results, Tryz.results65, go_sem]) rfl ⟨rfl, bL⟩
theorem requestOf_2 (b off cap : Nat) (x y z : Int) (w : World) (h0 : w.cell? (aq b off) = some (iv x)) (h1 : w.cell? (aq b (off + 1)) = some (iv y)) (h2 : w.cell? (aq b (off + 2)) = some (iv z)) :
 Calls Tryz.prog 65 #[iv 2, .slice (some (aq b off)) 3 cap] w fun e w' => e = .returned (.agg #[iv 2, iv x, iv y, iv 0, iv z]) ∧ Below w.heap.size w w' := by
 have hb : b < w.heap.size := World.block_lt_of_cell? w _ h0
 go_enter Tryz.func65, Tryz.ntmps65
 go_wp2
 go_region
 go_wp2
 exact bodyPost_ret (v := .agg #[iv 2, iv x, iv y, iv 0, iv z]) (by simp [results, Tryz.results65, go_sem]) rfl ⟨rfl, bL⟩
theorem requestOf_3 (b off cap : Nat) (x y z : Int) (w : World) (h0 : w.cell? (aq b off) = some (iv x)) (h1 : w.cell? (aq b (off + 1)) = some (iv y)) (h2 : w.cell? (aq b (off + 2)) = some (iv z)) :
 Calls Tryz.prog 65 #[iv 3, .slice (some (aq b off)) 3 cap] w fun e w' => e = .returned (.agg #[iv 3, iv x, iv y, iv 0, iv z]) ∧ Below w.heap.size w w' := by
 have hb : b < w.heap.size := World.block_lt_of_cell? w _ h0
 go_enter Tryz.func65, Tryz.ntmps65
 go_wp2
 go_region
 go_wp2
 exact bodyPost_ret (v := .agg #[iv 3, iv x, iv y, iv 0, iv z]) (by simp [results, Tryz.results65, go_sem]) rfl ⟨rfl, bL⟩
theorem requestOf_4 (b off cap : Nat) (x y : Int) (w : World) (h0 : w.cell? (aq b off) = some (iv x)) (h1 : w.cell? (aq b (off + 1)) = some (iv y)) :
 Calls Tryz.prog 65 #[iv 4, .slice (some (aq b off)) 2 cap] w fun e w' => e = .returned (.agg #[iv 4, iv 0, iv x, iv 0, iv y]) ∧ Below w.heap.size w w' := by
 have hb : b < w.heap.size := World.block_lt_of_cell? w _ h0
 go_enter Tryz.func65, Tryz.ntmps65
 go_wp2
 go_region
 go_wp2
 exact bodyPost_ret (v := .agg #[iv 4, iv 0, iv x, iv 0, iv y]) (by simp [results, Tryz.results65, go_sem]) rfl ⟨rfl, bL⟩
theorem areNumbers_3c (b cap : Nat) (x y z : Int) (w : World) (h0 : w.cell? (aq b 0) = some (iv x)) (h1 : w.cell? (aq b 1) = some (iv y)) (h2 : w.cell? (aq b 2) = some (iv z)) :
 Calls Tryz.prog 57 #[.slice (some (aq b 0)) 3 cap] w fun e w' => e = .returned (.bool ([x, y, z].all numB)) ∧ w = w' :=
 areNumbers_any b 0 cap [x, y, z] w (by simp) (fun i hi => by
  match i, hi with
  | 0, _ => simpa using h0
  | 1, _ => simpa using h1
  | 2, _ => simpa using h2)
theorem areNumbers_2c (b cap : Nat) (x y : Int) (w : World) (h0 : w.cell? (aq b 0) = some (iv x)) (h1 : w.cell? (aq b 1) = some (iv y)) :
 Calls Tryz.prog 57 #[.slice (some (aq b 0)) 2 cap] w fun e w' => e = .returned (.bool ([x, y].all numB)) ∧ w = w' :=
 areNumbers_any b 0 cap [x, y] w (by simp) (fun i hi => by
  match i, hi with
  | 0, _ => simpa using h0
  | 1, _ => simpa using h1)
theorem numB_nat {x : Int} (h : numB x = true) : ∃ n : Nat, x = n ∧ 1 ≤ n ∧ n ≤ 4294967296 := by
 simp [numB] at h
 exact ⟨x.toNat, by omega, by omega, by omega⟩
theorem ownsRow_one {w : World} {B : Nat} {e : TypeId} (h : w.heap.size = B) (x : Value) : (w.alloc (.cells #[x] e)).ownsRow B e 1 (.slice (some (aq B 0)) 1 1) 1 [x] := by
 subst h
 exact ⟨rfl, .inr ⟨w.heap.size, 1, #[x], rfl, Nat.le_refl _, heap_alloc_new w _, Nat.le_refl _, by unfold maxLen; omega, rfl, rfl⟩⟩
def bytesAt (w : World) (B : Nat) (v : Value) (l : List Int) : Prop :=
 ∃ g cap, v = .slice (some (aq g 0)) l.length cap ∧ B ≤ g ∧ g < w.heap.size ∧ l.length ≤ cap ∧ cap ≤ maxLen ∧ ∀ i, i < l.length → w.cell? (aq g (0 + i)) = some (.int .u8 (l.getD i 0))
theorem bytesAt_of {w : World} {B : Nat} {v : Value} {l : List Int} (h : w.ownsRow B 5 1 v l.length (l.map (Value.int .u8))) (hl : 0 < l.length) : bytesAt w B v l := by
 rcases h.2 with ⟨_, h0⟩ | ⟨g, cap, cur, rfl, hg, hh, hn, hm, _⟩
 ·omega
 ·refine ⟨g, cap, rfl, hg, (blt hh), hn, hm, fun i hi => ?_⟩
  have := h.cells (g := g) rfl i (.int .u8 (l.getD i 0)) (by simp [List.getD, List.getElem?_eq_getElem hi])
  simpa [Addr.add_lit] using this
theorem bytesAt.below {w w' : World} {B B' : Nat} {v : Value} {l : List Int} (h : bytesAt w B v l) (hb : Below B' w w') (hB : w.heap.size ≤ B') : bytesAt w' B v l := by
 obtain ⟨g, cap, rfl, hg, hh, hn, hm, hc⟩ := h
 exact ⟨g, cap, rfl, hg, Nat.lt_of_lt_of_le hh hb.size, hn, hm, fun i hi => (hb.cell (p := (aq g (0 + i))) (Nat.lt_of_lt_of_le hh hB)).trans (hc i hi)⟩
end Go.Proofs.YtfhncfghblkgeabGreat
