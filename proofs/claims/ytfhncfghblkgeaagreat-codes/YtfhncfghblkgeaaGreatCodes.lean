/-
  The law Codes: its walk, and the statement.
-/
import Derived.Test.YtfhncfghblkgeaaGreatScript
import Derived.Test.YtfhncfghblkgeaaGreatStepK
namespace Go.Proofs.YtfhncfghblkgeaaGreat
open Go.ChangeShapes Go.WideShapes Go.ChangeAt Go.RowKit
set_option linter.unusedVariables false

theorem marked.keep {w w' : World} {P i : Nat} {v : Value} (h : marked w P i v) (hb : ∀ g, P < g → g < w.heap.size → (∃ C, w.heap[g]? = some (.cells C 5 (0, 0))) → w'.heap[g]? = w.heap[g]?) : marked w' P i v := by
  rcases h with h | ⟨g, n, h1, h2, h3, h4⟩
  · exact .inl h
  · exact .inr ⟨g, n, h1, h2, h3, (hb g h3 (Array.getElem?_eq_some_iff.1 h4).1 ⟨_, h4⟩).trans h4⟩

/-- What holds as a script of Codes is played: the lists that came out, and where they are kept. -/
def invK (W : World) (ac : Option Addr) (lc cc : Nat) (j : Nat) (σ : List Value × Value) (w : World) : Prop :=
  Below W.heap.size W w ∧ w.heap[W.heap.size]? = some (.cells #[.slice ac lc cc, .slice none 0 0, .slice none 0 0, σ.2, .slice none 0 0] 67 (0, 0)) ∧
  w.ownsRow (W.heap.size + 1) 92 1 σ.2 σ.1.length σ.1 ∧ σ.1.length ≤ j ∧ ∀ i, i < σ.1.length → marked w W.heap.size i (σ.1.getD i undef)

def ownK (W : World) (σ : List Value × Value) (b : Nat) : Prop := b = W.heap.size ∨ σ.2.ownBlock = some b

/-- A block of bytes is not the one in which the lists are kept. -/
theorem not_kept {w : World} {B n g : Nat} {vb : Value} {L : List Value} {C : Array Value} (h : w.ownsRow B 92 1 vb n L) (hg : w.heap[g]? = some (.cells C 5 (0, 0))) : vb.ownBlock ≠ some g := by
  intro e
  rcases h.2 with ⟨rfl, _⟩ | ⟨g', c, cur, rfl, _, hh, _⟩
  · simp [Value.ownBlock] at e
  · simp [Value.ownBlock] at e
    subst e
    rw [hg] at hh
    simp at hh

theorem getD_snoc_lt {L : List Value} {v : Value} {i : Nat} (h : i < L.length) : (L ++ [v]).getD i undef = L.getD i undef := by
  simp [List.getD, List.getElem?_append_left h]
theorem getD_snoc_eq {L : List Value} {v : Value} : (L ++ [v]).getD L.length undef = v := by simp [List.getD]

theorem codes_plays (W : World) (ac : Option Addr) (lc cc : Nat) (a : Option Addr) (len cap : Nat) (ops : List OpV) (bp bh : Nat) (hs : scriptAt W a len ops) (hok : ∀ o ∈ ops, opOK o) (hlen : len * 64 ≤ 140737488351232) (hp : rowAt W bp [2, 3]) (hh : rowAt W bh [2, 3]) :
    Calls Tryz.prog 12 #[.slice ac lc cc, .slice a len cap, .slice (some ⟨bp, 0, none⟩) 2 2, .slice (some ⟨bh, 0, none⟩) 2 2] W fun e w' => e = .returned (.bool true) ∧ Below W.heap.size W w' := by
  refine plays_any (invK W ac lc cc) (ownK W) W ac lc cc a len cap ops bp 2 bh 2 [2, 3] [2, 3] hs hlen hp hh ?_ ?_ ?_ (fun _ _ _ h => h.1) ⟨([], .slice none 0 0), ?_⟩ ?_ ?_
  · rintro j σ w' b ⟨_, h2, h3, _⟩ (rfl | hb)
    · exact (Array.getElem?_eq_some_iff.1 h2).1
    · exact (World.ownsRow.lt h3 b hb).2
  · rintro j σ w1 w2 ⟨h1, h2, h3, h4, h5⟩ hb
    have hP : W.heap.size < w1.heap.size := (Array.getElem?_eq_some_iff.1 h2).1
    exact ⟨h1.trans (hb.mono (by omega)), (hb.block _ hP).trans h2, ownsRow_below h3 hb (Nat.le_refl _), h4, fun i hi => (h5 i hi).keep (fun g _ hg _ => hb.block g hg)⟩
  · rintro j σ w1 ⟨h1, h2, h3, h4, h5⟩
    exact ⟨h1, h2, h3, by omega, h5⟩
  · exact ⟨(Below.refl _ _).alloc (Nat.le_refl _) _, heap_alloc_new W _, World.ownsRow_nil _ _ _ _, Nat.le_refl _, fun i hi => by simp at hi⟩
  · rintro j ⟨L, vb⟩ w1 o hj ho hk ⟨h1, h2, h3, h4, h5⟩
    have hP : W.heap.size < w1.heap.size := (Array.getElem?_eq_some_iff.1 h2).1
    simp only at h2 h3 h4 h5
    have hk' : o.k = 2 ∨ o.k = 3 := by simp at hk; omega
    rcases hk' with hk2 | hk3
    · refine (step_pack W.heap.size _ _ _ vb _ L o w1 hk2 h2 h3 (by omega)).mono ?_
      rintro e w2 ⟨rfl, v, vb', g1, g2, g3, g4⟩
      have hkeep : ∀ k, k < w1.heap.size → k ≠ W.heap.size → vb.ownBlock ≠ some k → w2.heap[k]? = w1.heap[k]? := fun k hk hn hm => g4.block k hk (fun e => e.elim hn hm)
      refine ⟨rfl, ⟨(L ++ [v], vb'), ?_, g1, g2, by simp; omega, fun i hi => ?_⟩, g4⟩
      · refine ⟨g4.os.trans h1.os, g4.tape.trans h1.tape, g4.output.trans h1.output, Nat.le_trans h1.size g4.size, fun k hk => ?_⟩
        rw [hkeep k (by omega) (by omega) (fun e => by have := (World.ownsRow.lt h3 k e).1; omega)]
        exact h1.block k hk
      · simp only [List.length_append, List.length_singleton] at hi
        by_cases hiL : i < L.length
        · rw [getD_snoc_lt hiL]
          exact (h5 i hiL).keep (fun g hg hgw ⟨C, hC⟩ => hkeep g hgw (by omega) (not_kept h3 hC))
        · have : i = L.length := by omega
          subst this
          rw [getD_snoc_eq]
          exact g3
    · refine (step_unpack W.heap.size o w1 hk3 (hok o ho).2.2.2.2.2.2).mono ?_
      rintro e w2 ⟨rfl, b2⟩
      exact ⟨rfl, ⟨(L, vb), h1.trans (b2.mono (by omega)), (b2.block _ hP).trans h2, ownsRow_below h3 b2 (Nat.le_refl _), by show L.length ≤ j + 1; omega, fun i hi => (h5 i hi).keep (fun g _ hg _ => b2.block g hg)⟩, Same.of_below b2⟩
  · rintro j ⟨L, vb⟩ w1 hj ⟨h1, h2, h3, h4, h5⟩
    have hP : W.heap.size < w1.heap.size := (Array.getElem?_eq_some_iff.1 h2).1
    simp only at h2 h3 h4 h5
    obtain ⟨_, _, _, c3, c4⟩ := world_cells h2
    rcases h3.2 with ⟨rfl, h0⟩ | ⟨rb, cp, cur, rfl, hrb, hh3, _⟩
    · refine (looks_none W.heap.size w1 c3 c4).mono ?_
      rintro e w2 ⟨rfl, rfl⟩
      exact ⟨rfl, h1, h2, h3, h4, h5⟩
    · refine (looks_bytes W.heap.size rb L.length cp L w1 c3 c4 rfl (by omega) (fun i hi => ?_) h5).mono ?_
      · have := h3.cells (g := rb) rfl i (L.getD i undef) (by simp [List.getD, List.getElem?_eq_getElem hi])
        simpa [Addr.add_lit] using this
      · rintro e w2 ⟨rfl, b2⟩
        exact ⟨rfl, h1.trans (b2.mono (by omega)), (b2.block _ hP).trans h2, ownsRow_below h3 b2 (Nat.le_refl _), h4, fun i hi => (h5 i hi).keep (fun g _ hg _ => b2.block g hg)⟩

set_option maxHeartbeats 1000000 in
theorem codes_walk (ac : Option Addr) (lc cc : Nat) (a : Option Addr) (len cap : Nat) (ops : List OpV) (w : World) (hs : scriptAt w a len ops) (hok : ∀ o ∈ ops, opOK o) (hlen : len * 64 ≤ 140737488351232) :
    Calls Tryz.prog 4 #[.slice ac lc cc, .slice a len cap] w fun e w' => e = .returned (.bool true) ∧ Below w.heap.size w w' := by
  have HS : Hid (scriptAt w a len ops) := hs
  have HO : Hid (∀ o ∈ ops, opOK o) := hok
  clear hs hok
  go_enter Tryz.func4, Tryz.ntmps4
  go_wp2_with fail
  have hW : Below w.heap.size w ((w.alloc (.cells #[.int .i64 2, .int .i64 3] 3)).alloc (.cells #[.int .i64 2, .int .i64 3] 3)) := by repeat (first | exact Below.refl _ _ | refine Below.alloc ?_ (by first | exact Nat.le_refl _ | (simp <;> omega)) _)
  refine (codes_plays _ ac lc cc a len cap ops w.heap.size (w.heap.size + 1) (HS.out.below hW (Nat.le_refl _)) HO.out hlen ⟨by simp, by simp <;> omega, fun i hi => ?_⟩ ⟨by simp, by simp <;> omega, fun i hi => ?_⟩).mono ?_
  · match i, hi with
    | 0, _ => simp [go_sem]
    | 1, _ => simp [go_sem]
  · match i, hi with
    | 0, _ => simp [go_sem]
    | 1, _ => simp [go_sem]
  rintro e w2 ⟨rfl, b2⟩
  go_wp2
  go_ret
  exact ⟨rfl, hW.trans (b2.mono (by simp <;> omega))⟩

set_option maxRecDepth 100000 in
theorem codes_lifted (os : Os) (started : os.Started) (H : Type) (enc : TypeId × Value → H) :
    ReturnsInHanded {} Tryz.checked os 4 .any (Rows.codesSpec.pre6 enc Tryz.prog Tryz.f4 Rows.codesRow.domain false) (Rows.codesSpec.post enc Tryz.prog Tryz.f4 false true false false) := by
  refine returnsInHanded_of_change_sized (C := Tryz.checked) own started (by kernel_rfl) Tryz.func4
    (ChangeSpec.witness6 (enc := enc) (C := Tryz.checked) false ⟨#[], #[.slice none 0 0, .slice none 0 0], []⟩ 8 (by kernel_rfl) (by kernel_rfl) (by kernel_rfl) (by kernel_rfl)) ?_
  intro W base args ds gs before hval0 hW hcnd hsz0 _
  have hval : ∀ (j : Nat) t v, Tryz.f4.params[j]? = some t → args[j]? = some v → Value.okWide Tryz.prog W .any base t v := hval0
  have hsz : (DataW.weightsEach Tryz.prog (Tryz.f4.params.toList ++ Rows.codesSpec.plain.varTypes Tryz.prog) (ds ++ gs)).all (· ≤ reachBytes) = true := hsz0
  have hW' := hW
  obtain ⟨p, q, hA0, hV, rfl, hfz, hnd⟩ := hW
  have hA : DataW.TrodAll enc Tryz.prog W 0 (fun _ => true) true Tryz.f4.params.toList args.toList ds p := hA0
  rw [Tryz.params4] at hA hval hsz
  obtain ⟨v0, vs0, d0, ds0, p0, q0, hargs, rfl, rfl, h0, r0⟩ := trodAll_cons hA
  obtain ⟨v1, vs1, d1, ds1, p1, q1, rfl, rfl, rfl, h1, r1⟩ := trodAll_cons r0
  obtain ⟨rfl, rfl, rfl⟩ := trodAll_nil r1
  obtain rfl : args = #[v0, v1] := by cases args; simp_all
  obtain ⟨rfl, rfl⟩ := trodVars_none hV
  have k0 := h0
  have k1 := h1
  have lt0 : ∀ x ∈ p0, x.block < W.heap.size := by obtain ⟨m, hm⟩ := k0; exact DataW.trod_lt m _ _ _ hm
  have lt1 : ∀ x ∈ p1, x.block < W.heap.size := by obtain ⟨m, hm⟩ := k1; exact DataW.trod_lt m _ _ _ hm
  have w0 : wOK 22 d0 := fun x hx => by simpa using List.all_eq_true.1 hsz x (DataW.weights_mem_each (j := 0) rfl rfl x hx)
  have w1 : wOK 23 d1 := fun x hx => by simpa using List.all_eq_true.1 hsz x (DataW.weights_mem_each (j := 1) rfl rfl x hx)
  obtain ⟨ac, lc, cc, rfl, hc⟩ := cfgs_open (hval 0 22 v0 rfl rfl) h0 w0
  obtain ⟨a, len, cap, ops, rfl, hs, hok, hl⟩ := script_open (hval 1 23 v1 rfl rfl) h1 w1
  clear hA0 hval0
  refine (codes_walk ac lc cc a len cap ops W hs hok hl).mono fun e W' ⟨he, bel⟩ => ?_
  subst he
  exact ⟨_, rfl, _, _, _, [], _, [], hW', trodAll_mk1 (shut_bool Tryz.underlying4 _), (trodAll_cons_mk (Below.trod laidOut (by kernel_rfl) (of_decide_eq_true (by kernel_rfl)) k0 bel lt0) (trodAll_cons_mk (Below.trod laidOut (by kernel_rfl) (of_decide_eq_true (by kernel_rfl)) k1 bel lt1) trodAll_mk0)), rfl, bel.frame _, fun h => by cases h⟩

theorem codes_holds : Rows.CodesSaid :=
  OpenClaim.holds_of_wide 4 Tryz.f4 rfl rfl rfl rfl rfl rfl rfl ⟨rfl, rfl, rfl, rfl, rfl⟩ rfl rfl rfl rfl rfl (by kernel_rfl) Tryz.func4 (by kernel_rfl)
    (of_decide_eq_true (by kernel_rfl)) (by unfold Func.isWrapper; first | (rw [if_pos (by decide +kernel)]; kernel_rfl) | (rw [if_neg (by decide +kernel)]; exact ⟨rfl, rfl⟩))
    (fun os started H enc _ => codes_lifted os started H enc)

#print axioms codes_holds
end Go.Proofs.YtfhncfghblkgeaaGreat
