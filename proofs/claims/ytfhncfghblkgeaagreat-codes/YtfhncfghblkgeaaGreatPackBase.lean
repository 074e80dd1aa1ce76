/-
  What Pack's walks lean on.
-/
import Derived.Test.YtfhncfghblkgeaaGreatLeaf2
import Derived.Test.YtfhncfghblkgeaaGreatReqOf
import Derived.Test.YtfhncfghblkgeaaGreatGroups
import Derived.Deep.RegionHeld3
import Derived.Test.YtfhncfghblkgeaaGreatWBase
namespace Go.Proofs.YtfhncfghblkgeaaGreat
open Go.RowKit

theorem bcell {W w1 : World} (hb : Below W.heap.size W w1) : (∀ b o, b < W.heap.size → w1.cell? ⟨b, o, none⟩ = W.cell? ⟨b, o, none⟩) ∧ (∀ b o, b < W.heap.size → w1.frozen? ⟨b, o, none⟩ = W.frozen? ⟨b, o, none⟩) :=
  ⟨fun b o h => hb.cell (p := ⟨b, o, none⟩) h, fun b o h => hb.frozen (p := ⟨b, o, none⟩) h⟩

theorem areNumbers_3c (b cap : Nat) (x y z : Int) (w : World) (h0 : w.cell? ⟨b, 0, none⟩ = some (.int .i64 x)) (h1 : w.cell? ⟨b, 1, none⟩ = some (.int .i64 y)) (h2 : w.cell? ⟨b, 2, none⟩ = some (.int .i64 z)) :
    Calls Tryz.prog 90 #[.slice (some ⟨b, 0, none⟩) 3 cap] w fun e w' => e = .returned (.bool ([x, y, z].all numB)) ∧ w = w' :=
  areNumbers_any b 0 cap [x, y, z] w (by simp) (fun i hi => by
    match i, hi with
    | 0, _ => simpa using h0
    | 1, _ => simpa using h1
    | 2, _ => simpa using h2)

theorem areNumbers_3 (b : Nat) (x y z : Int) (w : World) (h0 : w.cell? ⟨b, 0, none⟩ = some (.int .i64 x)) (h1 : w.cell? ⟨b, 1, none⟩ = some (.int .i64 y)) (h2 : w.cell? ⟨b, 2, none⟩ = some (.int .i64 z)) :
    Calls Tryz.prog 90 #[.slice (some ⟨b, 0, none⟩) 3 3] w fun e w' => e = .returned (.bool ([x, y, z].all numB)) ∧ w = w' := areNumbers_3c b 3 x y z w h0 h1 h2

theorem areNumbers_2c (b cap : Nat) (x y : Int) (w : World) (h0 : w.cell? ⟨b, 0, none⟩ = some (.int .i64 x)) (h1 : w.cell? ⟨b, 1, none⟩ = some (.int .i64 y)) :
    Calls Tryz.prog 90 #[.slice (some ⟨b, 0, none⟩) 2 cap] w fun e w' => e = .returned (.bool ([x, y].all numB)) ∧ w = w' :=
  areNumbers_any b 0 cap [x, y] w (by simp) (fun i hi => by
    match i, hi with
    | 0, _ => simpa using h0
    | 1, _ => simpa using h1)

theorem areNumbers_2 (b : Nat) (x y : Int) (w : World) (h0 : w.cell? ⟨b, 0, none⟩ = some (.int .i64 x)) (h1 : w.cell? ⟨b, 1, none⟩ = some (.int .i64 y)) :
    Calls Tryz.prog 90 #[.slice (some ⟨b, 0, none⟩) 2 2] w fun e w' => e = .returned (.bool ([x, y].all numB)) ∧ w = w' := areNumbers_2c b 2 x y w h0 h1

/-- groupsOf, its result written out. -/
theorem groupsOf_some (n : Nat) (w : World) (hn : n < 9223372036854775808) :
    Calls Tryz.prog 106 #[.int .i64 n] w fun e w' => ∃ g cap, e = .returned (.slice (some ⟨g, 0, none⟩) (code n).length cap) ∧ (∀ j u, ((code n).map (Value.int .u8))[j]? = some u → w'.cell? ((⟨g, 0, none⟩ : Addr).add j) = some u) ∧ Below w.heap.size w w' := by
  refine (groupsOf_any n w hn).mono ?_
  rintro e w' ⟨v, rfl, hown, hb⟩
  have hp := code_pos n
  rcases hown.2 with ⟨_, h⟩ | ⟨g, cap, cur, rfl, _⟩
  · omega
  · exact ⟨g, cap, rfl, hown.cells rfl, hb⟩

/-- The numbers of a frame lie in a row. -/
def numsAt (w : World) (b : Nat) (ns : List Int) : Prop := ∀ j, j < ns.length → ∃ n : Nat, ns.getD j 0 = n ∧ n < 9223372036854775808 ∧ w.cell? ⟨b, j, none⟩ = some (.int .i64 n)

theorem numB_nat {x : Int} (h : numB x = true) : ∃ n : Nat, x = n ∧ 1 ≤ n ∧ n ≤ 4294967296 := by
  simp [numB] at h
  exact ⟨x.toNat, by omega, by omega, by omega⟩

theorem numsAt_3 {w : World} {b : Nat} {x y z : Int} (h : [x, y, z].all numB = true) (h0 : w.cell? ⟨b, 0, none⟩ = some (.int .i64 x)) (h1 : w.cell? ⟨b, 1, none⟩ = some (.int .i64 y)) (h2 : w.cell? ⟨b, 2, none⟩ = some (.int .i64 z)) : numsAt w b [x, y, z] := by
  simp at h
  obtain ⟨n0, e0, _, l0⟩ := numB_nat h.1
  obtain ⟨n1, e1, _, l1⟩ := numB_nat h.2.1
  obtain ⟨n2, e2, _, l2⟩ := numB_nat h.2.2
  intro j hj
  match j, hj with
  | 0, _ => exact ⟨n0, e0, by omega, by rw [← e0]; exact h0⟩
  | 1, _ => exact ⟨n1, e1, by omega, by rw [← e1]; exact h1⟩
  | 2, _ => exact ⟨n2, e2, by omega, by rw [← e2]; exact h2⟩

theorem numsAt_2 {w : World} {b : Nat} {x y : Int} (h : [x, y].all numB = true) (h0 : w.cell? ⟨b, 0, none⟩ = some (.int .i64 x)) (h1 : w.cell? ⟨b, 1, none⟩ = some (.int .i64 y)) : numsAt w b [x, y] := by
  simp at h
  obtain ⟨n0, e0, _, l0⟩ := numB_nat h.1
  obtain ⟨n1, e1, _, l1⟩ := numB_nat h.2
  intro j hj
  match j, hj with
  | 0, _ => exact ⟨n0, e0, by omega, by rw [← e0]; exact h0⟩
  | 1, _ => exact ⟨n1, e1, by omega, by rw [← e1]; exact h1⟩

theorem frameB_take (k : Int) (ns : List Int) (j n : Nat) (h : j < ns.length) (hx : ns.getD j 0 = n) : frameB k (ns.take (j + 1)) = frameB k (ns.take j) ++ code n := by
  rw [List.take_succ_eq_append_getElem h, frameB_snoc]
  simp [List.getD, List.getElem?_eq_getElem h] at hx
  simp [hx]

theorem frameB_len (k : Int) : ∀ (ns : List Int), (∀ j, j < ns.length → ∃ n : Nat, ns.getD j 0 = n ∧ n < 9223372036854775808) → ∀ m, m ≤ ns.length → (frameB k (ns.take m)).length ≤ 1 + 9 * m
  | ns, h, 0, _ => by simp [frameB]
  | ns, h, m + 1, hm => by
    obtain ⟨n, hn, hl⟩ := h m (by omega)
    rw [frameB_take k ns m n (by omega) hn, List.length_append]
    have := frameB_len k ns h m (by omega)
    have := code_len9 hl
    omega

/-- A literal of one element. -/
theorem ownsRow_one {w : World} {B : Nat} {e : TypeId} (h : w.heap.size = B) (x : Value) : (w.alloc (.cells #[x] e)).ownsRow B e 1 (.slice (some ⟨B, 0, none⟩) 1 1) 1 [x] := by
  subst h
  exact ⟨rfl, .inr ⟨w.heap.size, 1, #[x], rfl, Nat.le_refl _, heap_alloc_new w _, Nat.le_refl _, by unfold maxLen; omega, rfl, rfl⟩⟩

/-- One round of Pack's loop: the groups are appended. -/
theorem pack_round {B R : Nat} {W wr w2 w3 : World} {fr fr' : Value} {xs ys : List Int} (hR : R = wr.heap.size) (hown : wr.ownsRow B 5 1 fr xs.length (xs.map (Value.int .u8))) (hbel : Below B W wr) (hb2 : Below R wr w2) (hB : B ≤ wr.heap.size)
    (hown3 : w3.ownsRow B 5 1 fr' (xs.length + ys.length) (xs.map (Value.int .u8) ++ ys.map (Value.int .u8))) (hg : w2.grownBy w3 fr.ownBlock) :
    w3.ownsRow B 5 1 fr' (xs ++ ys).length ((xs ++ ys).map (Value.int .u8)) ∧ Below B W w3 := by
  subst hR
  refine ⟨by simpa using hown3, ?_⟩
  exact (hbel.trans (hb2.mono hB)).grown hg (Nat.le_trans hB hb2.size) (fun k hk => (World.ownsRow.lt hown k hk).1)

end Go.Proofs.YtfhncfghblkgeaaGreat
