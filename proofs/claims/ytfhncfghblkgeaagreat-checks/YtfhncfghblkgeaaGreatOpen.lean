/-
  An argument that is a request, opened.
-/
import Derived.Test.YtfhncfghblkgeaaGreatRows
import Derived.WalkKit
import Derived.ProofKit
import Derived.OpenShut
import Derived.ShutString
import Derived.ChangeOld
import Derived.Below
namespace Go.Proofs.YtfhncfghblkgeaaGreat
open Go.ChangeShapes Go.WideShapes Go.ChangeAt Go.RowKit

theorem own : ownKnob Tryz.prog.godebug = none := by kernel_rfl
theorem laidOut : laidOutB Tryz.prog = true := by kernel_rfl

theorem array5 {α : Type} {cs : Array α} (h : cs.size = 5) : ∃ c0 c1 c2 c3 c4, cs = #[c0, c1, c2, c3, c4] := by
  obtain ⟨l⟩ := cs
  match l, h with
  | [c0, c1, c2, c3, c4], _ => exact ⟨c0, c1, c2, c3, c4, rfl⟩

theorem Tryz.cellsReq : Tryz.prog.cellsOf 46 = 5 := by kernel_rfl
theorem Tryz.cellsInt : Tryz.prog.cellsOf 3 = 1 := by kernel_rfl

set_option maxRecDepth 100000 in
/-- A request that came in: its five numbers. -/
theorem open_req {H : Type} {enc : TypeId × Value → H} {w : World} {base : Nat} {spare : Nat → Bool} {held : Bool} {r : Reach} {b0 : Nat} {v : Value} {d : DataW H} {p : List MemPlace}
    (hv : Value.okWide Tryz.prog w r b0 46 v) (h : DataW.Trod enc Tryz.prog w base spare held 46 v d p) :
    ∃ k t c u o : Int, v = .agg #[.int .i64 k, .int .i64 t, .int .i64 c, .int .i64 u, .int .i64 o] ∧ (Lit.int .i64 k).wf = true ∧ (Lit.int .i64 t).wf = true ∧ (Lit.int .i64 c).wf = true ∧ (Lit.int .i64 u).wf = true ∧ (Lit.int .i64 o).wf = true := by
  obtain ⟨cs, rfl, hsz⟩ := okWide_struct Tryz.underlying46 hv
  rw [Tryz.cellsReq] at hsz
  obtain ⟨c0, c1, c2, c3, c4, rfl⟩ := array5 hsz
  obtain ⟨fuel, hf⟩ := h
  obtain ⟨xs, n, _, _, _, hlen, hg⟩ := DataW.trod_struct Tryz.underlying46 hf
  have one : ∀ (i : Nat) (x : Value), i < 5 → DataW.trod enc Tryz.prog w base spare held n 3 [x] = xs[i]? → ∃ a : Int, x = .int .i64 a ∧ (Lit.int .i64 a).wf = true := by
    intro i x hi hx
    have hl : i < xs.length := by rw [hlen]; simpa using hi
    rw [List.getElem?_eq_getElem hl] at hx
    obtain ⟨a, e0, _, wa⟩ := DataW.trod_int Tryz.underlying3 hx
    simp at e0
    exact ⟨a, e0, wa⟩
  obtain ⟨k, rfl, wk⟩ := one 0 c0 (by omega) (by simpa [Value.cells, Tryz.cellsInt] using hg 0 _ rfl)
  obtain ⟨t, rfl, wt⟩ := one 1 c1 (by omega) (by simpa [Value.cells, Tryz.cellsInt] using hg 1 _ rfl)
  obtain ⟨c, rfl, wc⟩ := one 2 c2 (by omega) (by simpa [Value.cells, Tryz.cellsInt] using hg 2 _ rfl)
  obtain ⟨u, rfl, wu⟩ := one 3 c3 (by omega) (by simpa [Value.cells, Tryz.cellsInt] using hg 3 _ rfl)
  obtain ⟨o, rfl, wo⟩ := one 4 c4 (by omega) (by simpa [Value.cells, Tryz.cellsInt] using hg 4 _ rfl)
  exact ⟨k, t, c, u, o, rfl, wk, wt, wc, wu, wo⟩

end Go.Proofs.YtfhncfghblkgeaaGreat
