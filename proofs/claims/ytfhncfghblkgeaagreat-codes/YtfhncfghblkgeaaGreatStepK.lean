/-
  The walks: step at a Pack and at an Unpack.
-/
import Derived.Test.YtfhncfghblkgeaaGreatPacked
import Derived.Test.YtfhncfghblkgeaaGreatUnpacked
namespace Go.Proofs.YtfhncfghblkgeaaGreat
open Go.RowKit

theorem Same.thru {own : Nat → Prop} {w w1 w2 : World} (h : Same own w w1) (h' : Same own w1 w2) : Same own w w2 :=
  ⟨h'.os.trans h.os, h'.tape.trans h.tape, h'.output.trans h.output, Nat.le_trans h.size h'.size, fun k hk hn => (h'.block k (Nat.lt_of_lt_of_le hk h.size) hn).trans (h.block k hk hn)⟩

theorem packedAns.of_alloc {w w' : World} {P : Nat} {c0 c1 c2 vb c4 : Value} {L : List Value} {O : Obj} (h : packedAns (w.alloc O) w' P c0 c1 c2 vb c4 L) : packedAns w w' P c0 c1 c2 vb c4 L := by
  obtain ⟨v, vb', h1, h2, h3, h4⟩ := h
  exact ⟨v, vb', h1, h2, h3, (Same.of_below ((Below.refl _ _).alloc (Nat.le_refl _) O)).thru h4⟩

theorem packed_any (P : Nat) (c0 c1 c2 vb c4 : Value) (L : List Value) (k t c u o : Int) (w : World) (hw : w.heap[P]? = some (.cells #[c0, c1, c2, vb, c4] 67 (0, 0))) (hown : w.ownsRow (P + 1) 92 1 vb L.length L) (hL : L.length * 64 ≤ 140737488351232) :
    Calls Tryz.prog 45 #[.pointer (some ⟨P, 0, none⟩), .agg #[.int .i64 k, .int .i64 t, .int .i64 c, .int .i64 u, .int .i64 o]] w fun e w' => e = .returned (.bool true) ∧ packedAns w w' P c0 c1 c2 vb c4 L := by
  by_cases h : isB k t c u o = true
  · exact packed_yes P c0 c1 c2 vb c4 L k t c u o w h hw hown hL
  · exact packed_no P c0 c1 c2 vb c4 L k t c u o w (by simpa using h) hw hown hL

set_option maxRecDepth 100000 in
set_option maxHeartbeats 1000000 in
theorem step_pack (P : Nat) (c0 c1 c2 vb c4 : Value) (L : List Value) (o : OpV) (w : World) (hk : o.k = 2) (hw : w.heap[P]? = some (.cells #[c0, c1, c2, vb, c4] 67 (0, 0))) (hown : w.ownsRow (P + 1) 92 1 vb L.length L) (hL : L.length * 64 ≤ 140737488351232) :
    Calls Tryz.prog 24 #[.pointer (some ⟨P, 0, none⟩), o.val] w fun e w' => e = .returned (.bool true) ∧ packedAns w w' P c0 c1 c2 vb c4 L := by
  obtain ⟨k, oa, ob, oc, od, oe, os⟩ := o
  simp only at hk
  subst hk
  unfold OpV.val
  simp only
  have hP : P < w.heap.size := (Array.getElem?_eq_some_iff.1 hw).1
  have HW : Hid (w.heap[P]? = some (.cells #[c0, c1, c2, vb, c4] 67 (0, 0))) := hw
  have HO : Hid (w.ownsRow (P + 1) 92 1 vb L.length L) := hown
  clear hw hown
  go_enter Tryz.func24, Tryz.ntmps24
  go_wp2_with fail
  refine (packed_any P c0 c1 c2 vb c4 L oa ob oc od oe _ ((Below.heap_alloc _ _ _ hP).trans HW.out) (HO.out.alloc _) hL).mono ?_
  rintro e w1 ⟨rfl, hans⟩
  have HA : Hid (packedAns w w1 P c0 c1 c2 vb c4 L) := hans.of_alloc
  clear hans
  go_wp2
  go_ret
  exact ⟨rfl, HA.out⟩

set_option maxRecDepth 100000 in
set_option maxHeartbeats 1000000 in
theorem step_unpack (P : Nat) (o : OpV) (w : World) (hk : o.k = 3) (hs : o.s.size ≤ 140737488351232) :
    Calls Tryz.prog 24 #[.pointer (some ⟨P, 0, none⟩), o.val] w fun e w' => e = .returned (.bool true) ∧ Below w.heap.size w w' := by
  obtain ⟨k, oa, ob, oc, od, oe, os⟩ := o
  simp only at hk hs
  subst hk
  unfold OpV.val
  simp only
  go_enter Tryz.func24, Tryz.ntmps24
  go_wp2_with fail
  refine (unpacked_any os _ hs).mono ?_
  rintro e w1 ⟨rfl, b1⟩
  have w01 : Below w.heap.size w w1 := ((Below.refl _ _).alloc (Nat.le_refl _) _).trans (b1.mono (by simp))
  clear b1
  go_wp2
  go_ret
  exact ⟨rfl, w01⟩

end Go.Proofs.YtfhncfghblkgeaaGreat
