/-
  What holds as a script of Wheels is played: behind each kind of step. No walk.
-/
import Derived.Test.YtfhncfghblkgeaaGreatWheelsA
namespace Go.Proofs.YtfhncfghblkgeaaGreat
open Go.RowKit

/-- Two lists of other types do not share a block. -/
theorem own_two {w : World} {B B' n n' size size' : Nat} {T U : TypeId} {v v' : Value} {xs xs' : List Value} {k : Nat} (h : w.ownsRow B T size v n xs) (h' : w.ownsRow B' U size' v' n' xs') (hT : T ≠ U) (hk : v.ownBlock = some k) : v'.ownBlock ≠ some k := by
  intro c
  rcases h'.2 with ⟨hh, _⟩ | ⟨g, cp, cur, hh, _, hg, _⟩
  · rw [hh] at c; simp [Value.ownBlock] at c
  · rw [hh] at c
    simp [Value.ownBlock] at c
    subst c
    exact own_type h hg hT hk

theorem own_not {w : World} {B n size k : Nat} {T U : TypeId} {v : Value} {xs : List Value} {C : Array Value} (h : w.ownsRow B T size v n xs) (hR : w.heap[k]? = some (.cells C U (0, 0))) (hT : T ≠ U) (hk : v.ownBlock = some k) : False := own_type h hR hT hk

section
variable {W : World} {ac : Option Addr} {lc cc j i : Nat} {σ : TS} {w w' : World} {e : TE}

theorem mark_lt (h : invT W ac lc cc j σ w) {m : Value} {k : Nat} (hm : m ∈ σ.Ld) (hk : m.ownBlock = some k) : W.heap.size < k ∧ k < w.heap.size ∧ ∃ C, w.heap[k]? = some (.cells C 131 (0, 0)) := by
  obtain ⟨q, hq, rfl⟩ := mem_getD hm
  exact markedD_lt (h.marks q hq) hk

/-- Behind Set, Unset, First, Size. -/
theorem invT_pair (h : invT W ac lc cc j σ w) (hi : σ.Es[i]? = some e) {L' : List (Int × Int)} (hL : L'.length ≤ j + 1) (hA : pairAns pwW w w' (W.heap.size + 1) e.R e.x e.own e.v e.now L') :
    (∃ σ', invT W ac lc cc (j + 1) σ' w') ∧ Same (ownT W σ) w w' := by
  obtain ⟨own', v', hp, hr, hs, hf, hv, hd⟩ := hA
  have he := h.ent i e hi
  have hRw : e.R < w.heap.size := fp_lt he (.inr (.inl rfl))
  have hP : W.heap.size < w.heap.size := (Array.getElem?_eq_some_iff.1 h.world).1
  have hfar := h.far i e hi
  have hs' : Same (fun b => e.fp b ∨ b = W.heap.size ∨ σ.vd.ownBlock = some b) w w' := ⟨hs.os, hs.tape, hs.output, hs.size, fun k hk hn => hs.block k hk (fun c => hn (.inl c))⟩
  have hfr : ∀ b, TE.fp ⟨e.x, e.R, own', v', e.now, L'⟩ b → e.fp b ∨ w.heap.size ≤ b := by
    rintro b (c | c | c)
    · exact (hf b c).imp .inl id
    · exact .inl (.inr (.inl c))
    · exact (hv b c).imp (fun c => .inr (.inr c)) id
  refine ⟨⟨⟨σ.Es.set i ⟨e.x, e.R, own', v', e.now, L'⟩, σ.vt, σ.Ld, σ.vd⟩, invT_turn h hi rfl rfl ?_ ?_ (Nat.le_succ_of_le h.lenD) ?_ ⟨hp, hr, ⟨?_, hd⟩, hL⟩ hs' hfr (fun k hk => .inl hk) (fun m hm => .inl hm) ?_⟩, ⟨hs.os, hs.tape, hs.output, hs.size, fun k hk hn => hs.block k hk (fun c => hn (.inr (.inr (.inr ⟨i, e, hi, c⟩))))⟩⟩
  · exact (hs.block _ hP (fun c => by have := (hfar _ c).1; omega)).trans h.world
  · exact owns_keep h.dues (fun k hk => hs.block k (World.ownsRow.lt h.dues k hk).2 (fun c => (hfar k c).2.2.1 hk))
  · intro q hq
    refine markedD_keep (h.marks q hq) (fun k hk => hs.block k (markedD_lt (h.marks q hq) hk).2.1 (fun c => (hfar k c).2.2.2 _ ?_ hk))
    simp only [List.getD, List.getElem?_eq_getElem hq, Option.getD_some]
    exact List.getElem_mem hq
  · exact fun c => (hf e.R c).elim he.2.2.1.1 (fun c => Nat.lt_irrefl _ (Nat.lt_of_lt_of_le hRw c))
  · intro b hb
    rcases hfr b hb with c | c
    · exact ⟨(hfar b c).2.2.1, (hfar b c).2.2.2⟩
    · exact ⟨fun c' => by have := (World.ownsRow.lt h.dues b c').2; omega, fun m hm c' => by have := (mark_lt h hm c').2.1; omega⟩

/-- Behind Advance. -/
theorem invT_adv (h : invT W ac lc cc j σ w) (hi : σ.Es[i]? = some e) {now' : Int} {L' : List (Int × Int)} (hL : L'.length ≤ j + 1) (hA : advdAns pwW w w' W.heap.size (W.heap.size + 1) e.R e.x e.own (.slice ac lc cc) (.slice none 0 0) σ.vt (.slice none 0 0) σ.vd e.v σ.Ld now' L') :
    (∃ σ', invT W ac lc cc (j + 1) σ' w') ∧ Same (ownT W σ) w w' := by
  obtain ⟨m, vd', v', own', h1, h2, h3, h4, h5, h6, h7, h8, h9, h10, h11, h12⟩ := hA
  have he := h.ent i e hi
  have hRw : e.R < w.heap.size := fp_lt he (.inr (.inl rfl))
  have hfar := h.far i e hi
  have hs' : Same (fun b => e.fp b ∨ b = W.heap.size ∨ σ.vd.ownBlock = some b) w w' := ⟨h6.os, h6.tape, h6.output, h6.size, fun k hk hn => h6.block k hk (fun c => hn (c.elim (fun c => .inl (.inl c)) (fun c => c.elim (fun c => .inl (.inr (.inl c))) .inr)))⟩
  have hfr : ∀ b, TE.fp ⟨e.x, e.R, own', v', now', L'⟩ b → e.fp b ∨ w.heap.size ≤ b := by
    rintro b (c | c | c)
    · exact (h7 b c).imp .inl id
    · exact .inl (.inr (.inl c))
    · exact (h8 b c).imp (fun c => .inr (.inr c)) id
  have hin : ∀ m' ∈ σ.Ld ++ [m], m' ∈ σ.Ld ∨ m' = m := fun m' hm' => by simpa using hm'
  refine ⟨⟨⟨σ.Es.set i ⟨e.x, e.R, own', v', now', L'⟩, σ.vt, σ.Ld ++ [m], vd'⟩, invT_turn h hi rfl rfl h1 h2 (by simp; exact h.lenD) ?_ ⟨h4, h5, ⟨?_, h11⟩, hL⟩ hs' hfr h9 (fun m' hm' => (hin m' hm').imp id (fun (c : m' = m) k hk => (h10 k (by rw [← c]; exact hk)).1)) ?_⟩, ⟨h6.os, h6.tape, h6.output, h6.size, fun k hk hn => h6.block k hk (fun c => hn ?_)⟩⟩
  · intro q hq
    by_cases hql : q < σ.Ld.length
    · have e1 : (σ.Ld ++ [m]).getD q undef = σ.Ld.getD q undef := by simp [List.getD, List.getElem?_append_left hql]
      have hmem : σ.Ld.getD q undef ∈ σ.Ld := by
        simp only [List.getD, List.getElem?_eq_getElem hql, Option.getD_some]
        exact List.getElem_mem hql
      rw [e1]
      refine markedD_keep (h.marks q hql) (fun k hk => hs'.block k (markedD_lt (h.marks q hql) hk).2.1 ?_)
      obtain ⟨hk1, _, C, hC⟩ := markedD_lt (h.marks q hql) hk
      rintro (c | c | c)
      · exact (hfar k c).2.2.2 _ hmem hk
      · omega
      · exact own_not h.dues hC (by decide) c
    · have e2 : q = σ.Ld.length := by simp at hq; omega
      subst e2
      have e1 : (σ.Ld ++ [m]).getD σ.Ld.length undef = m := by simp [List.getD]
      rw [e1]
      exact h3
  · exact fun c => (h7 e.R c).elim he.2.2.1.1 (fun c => Nat.lt_irrefl _ (Nat.lt_of_lt_of_le hRw c))
  · intro b hb
    constructor
    · rcases hb with c | c | c
      · exact fun c' => h12 b c' c
      · have c0 : b = e.R := c
        rw [c0]
        exact fun c' => own_not h2 h5.1 (by decide) c'
      · exact own_two h5.2 h2 (by decide) c
    · intro m' hm' hk
      rcases hin m' hm' with c' | rfl
      · have hl := mark_lt h c' hk
        rcases hfr b hb with c | c
        · exact (hfar b c).2.2.2 m' c' hk
        · omega
      · rcases hb with c | c | c
        · exact (h10 b hk).2.1 c
        · have := (h10 b hk).1
          have c' : b = e.R := c
          omega
        · exact (h10 b hk).2.2 c
  · rcases c with c | c | c | c
    · exact .inr (.inr (.inr ⟨i, e, hi, .inl c⟩))
    · exact .inr (.inr (.inr ⟨i, e, hi, .inr (.inl c)⟩))
    · exact .inl c
    · exact .inr (.inr (.inl c))

theorem flatE_snoc (Es : List TE) (e : TE) : flatE (Es ++ [e]) = flatE Es ++ e.cells := by simp [flatE]

/-- Behind New. -/
theorem invT_new (h : invT W ac lc cc j σ w) {now : Int} (hA : newAns pwW w w' W.heap.size (.slice ac lc cc) (.slice none 0 0) σ.vt (.slice none 0 0) σ.vd σ.Es.length (flatE σ.Es) now) :
    (∃ σ', invT W ac lc cc (j + 1) σ' w') ∧ Same (ownT W σ) w w' := by
  obtain ⟨x, own, R, vt', h1, h2, h3, h4, h5, h6, h7, h8, h9, h10⟩ := hA
  have hP : W.heap.size < w.heap.size := (Array.getElem?_eq_some_iff.1 h.world).1
  have hvt := World.ownsRow.lt h.ts
  have hvd := World.ownsRow.lt h.dues
  have hget : ∀ (a : Nat) (e2 : TE), (σ.Es ++ [⟨x, R, own, .slice none 0 0, now, []⟩])[a]? = some e2 → (a = σ.Es.length ∧ e2 = ⟨x, R, own, .slice none 0 0, now, []⟩) ∨ (a < σ.Es.length ∧ σ.Es[a]? = some e2) := by
    intro a e2 ha
    by_cases hal : a < σ.Es.length
    · rw [List.getElem?_append_left hal] at ha
      exact .inr ⟨hal, ha⟩
    · have hl := (List.getElem?_eq_some_iff.1 ha).1
      have : a = σ.Es.length := by simp at hl; omega
      subst this
      simp at ha
      exact .inl ⟨rfl, ha.symm⟩
  have hkeep : ∀ (a : Nat) (e2 : TE), σ.Es[a]? = some e2 → ∀ b, e2.fp b → w'.heap[b]? = w.heap[b]? := fun a e2 ha b hb => h5.block b (fp_lt (h.ent a e2 ha) hb) (fun c => c.elim (fun c => by have := (h.far a e2 ha b hb).1; omega) (h.far a e2 ha b hb).2.1)
  have hnew : ∀ b, TE.fp ⟨x, R, own, .slice none 0 0, now, []⟩ b → w.heap.size ≤ b := by
    rintro b (c | c | c)
    · exact h6 b c
    · have c' : b = R := c
      omega
    · simp [Value.ownBlock] at c
  refine ⟨⟨⟨σ.Es ++ [⟨x, R, own, .slice none 0 0, now, []⟩], vt', σ.Ld, σ.vd⟩, ⟨?_, h1, ?_, ?_, by simp; exact h.lenE, Nat.le_succ_of_le h.lenD, ?_, ?_, ?_, ?_⟩⟩, ⟨h5.os, h5.tape, h5.output, h5.size, fun k hk hn => h5.block k hk (fun c => hn (c.imp id .inl))⟩⟩
  · refine ⟨h5.os.trans h.bel.os, h5.tape.trans h.bel.tape, h5.output.trans h.bel.output, Nat.le_trans h.bel.size h5.size, fun b hb => ?_⟩
    rw [h5.block b (by omega) (fun c => c.elim (fun c => by omega) (fun c => by have := (hvt b c).1; omega))]
    exact h.bel.block b hb
  · show w'.ownsRow _ _ 2 vt' (σ.Es ++ [_]).length (flatE (σ.Es ++ [_]))
    rw [flatE_snoc, List.length_append, List.length_singleton]
    exact h2
  · exact owns_keep h.dues (fun k hk => h5.block k (hvd k hk).2 (fun c => c.elim (fun c => by have := (hvd k hk).1; omega) (own_two h.dues h.ts (by decide) hk)))
  · intro q hq
    refine markedD_keep (h.marks q hq) (fun k hk => ?_)
    obtain ⟨hk1, hk2, C, hC⟩ := markedD_lt (h.marks q hq) hk
    exact h5.block k hk2 (fun c => c.elim (fun c => by omega) (fun c => own_not h.ts hC (by decide) c))
  · intro a e2 ha
    rcases hget a e2 ha with ⟨_, rfl⟩ | ⟨_, ha⟩
    · exact ⟨h3, ⟨h4.1, World.ownsRow_nil _ _ _ _⟩, ⟨h8, fun k hk => by simp [Value.ownBlock] at hk⟩, Nat.zero_le _⟩
    · exact ent_keep (h.ent a e2 ha) h5.size (hkeep a e2 ha)
  · intro a a' e2 e3 ha ha' hne b hb hb'
    rcases hget a e2 ha with ⟨ea, rfl⟩ | ⟨_, h2'⟩ <;> rcases hget a' e3 ha' with ⟨ea', rfl⟩ | ⟨_, h3'⟩
    · exact hne (ea.trans ea'.symm)
    · have := hnew b hb; have := fp_lt (h.ent _ _ h3') hb'; omega
    · have := hnew b hb'; have := fp_lt (h.ent _ _ h2') hb; omega
    · exact h.sep _ _ _ _ h2' h3' hne b hb hb'
  · intro a e2 ha b hb
    rcases hget a e2 ha with ⟨_, rfl⟩ | ⟨_, ha⟩
    · have hb2 := hnew b hb
      refine ⟨by omega, ?_, fun c => by have := (hvd b c).2; omega, fun m hm c => by have := (mark_lt h hm c).2.1; omega⟩
      rcases hb with c | c | c
      · exact fun c' => h10 b c' c
      · have c0 : b = R := c
        subst c0
        exact fun c' => own_not h2 h4.1 (by decide) c'
      · simp [Value.ownBlock] at c
    · have hfa := h.far a e2 ha b hb
      refine ⟨hfa.1, fun c => ?_, hfa.2.2⟩
      rcases h9 b c with c | c
      · exact hfa.2.1 c
      · have := fp_lt (h.ent _ _ ha) hb; omega

/-- Behind a step that does nothing. -/
theorem invT_same (h : invT W ac lc cc j σ w) (hb : Below w.heap.size w w') : (∃ σ', invT W ac lc cc (j + 1) σ' w') ∧ Same (ownT W σ) w w' := ⟨⟨σ, invT_skip (invT_below h hb)⟩, Same.of_below hb⟩

end

end Go.Proofs.YtfhncfghblkgeaaGreat
