/-
  What holds as a script of Wheels is played. No walk.
-/
import Derived.Test.YtfhncfghblkgeaaGreatTimedW
import Derived.Test.YtfhncfghblkgeaaGreatTimedU
import Derived.Test.YtfhncfghblkgeaaGreatTimedF
import Derived.Test.YtfhncfghblkgeaaGreatTimedZ
import Derived.Test.YtfhncfghblkgeaaGreatTimedA
import Derived.Test.YtfhncfghblkgeaaGreatWheel4
namespace Go.Proofs.YtfhncfghblkgeaaGreat
open Go.RowKit

/-- A set of timers, the program's and the reference's. -/
structure TE where
  x : Nat
  R : Nat
  own : Nat → Prop
  v : Value
  now : Int
  L : List (Int × Int)

/-- The blocks that it lies in. -/
def TE.fp (e : TE) (b : Nat) : Prop := e.own b ∨ b = e.R ∨ e.v.ownBlock = some b
def TE.cells (e : TE) : List Value := [.pointer (some ⟨e.x, 0, none⟩), .pointer (some ⟨e.R, 0, none⟩)]
def flatE (Es : List TE) : List Value := Es.flatMap TE.cells

theorem flatE_len : ∀ Es : List TE, (flatE Es).length = Es.length * 2
  | [] => rfl
  | e :: Es => by
    have := flatE_len Es
    simp only [flatE, List.flatMap_cons, List.length_append, List.length_cons, TE.cells, List.length_nil] at this ⊢
    omega

theorem flatE_at : ∀ {Es : List TE} {i : Nat} {e : TE}, Es[i]? = some e → (flatE Es)[i * 2]? = some (.pointer (some ⟨e.x, 0, none⟩)) ∧ (flatE Es)[i * 2 + 1]? = some (.pointer (some ⟨e.R, 0, none⟩))
  | [], _, _, h => by simp at h
  | e0 :: Es, 0, e, h => by
    simp at h
    subst h
    exact ⟨rfl, rfl⟩
  | e0 :: Es, i + 1, e, h => by
    have := flatE_at (Es := Es) (i := i) (e := e) (by simpa using h)
    have e1 : (i + 1) * 2 = i * 2 + 1 + 1 := by omega
    rw [e1]
    exact ⟨by simpa [flatE, TE.cells] using this.1, by simpa [flatE, TE.cells] using this.2⟩

theorem flatE_set : ∀ {Es : List TE} {i : Nat} {e e' : TE}, Es[i]? = some e → e'.x = e.x → e'.R = e.R → flatE (Es.set i e') = flatE Es
  | [], _, _, _, h, _, _ => by simp at h
  | e0 :: Es, 0, e, e', h, hx, hR => by
    simp at h
    subst h
    simp [flatE, TE.cells, hx, hR]
  | e0 :: Es, i + 1, e, e', h, hx, hR => by
    have := flatE_set (Es := Es) (i := i) (e := e) (e' := e') (by simpa using h) hx hR
    simp only [List.set_cons_succ, flatE, List.flatMap_cons] at this ⊢
    rw [this]

/-- One set of timers, in memory. -/
def entOK (w : World) (P j : Nat) (e : TE) : Prop := pwW w e.x e.own e.now e.L ∧ rwAt w (P + 1) e.R e.now e.v e.L ∧ apart e.R e.v e.own ∧ e.L.length ≤ j

theorem fp_lt {w : World} {P j : Nat} {e : TE} (h : entOK w P j e) {b : Nat} (hb : e.fp b) : b < w.heap.size := by
  rcases hb with hb | rfl | hb
  · exact pwW_lt h.1 b hb
  · exact (Array.getElem?_eq_some_iff.1 h.2.1.1).1
  · exact (World.ownsRow.lt h.2.1.2 b hb).2

theorem ent_keep {w w' : World} {P j : Nat} {e : TE} (h : entOK w P j e) (hz : w.heap.size ≤ w'.heap.size) (hk : ∀ b, e.fp b → w'.heap[b]? = w.heap[b]?) : entOK w' P (j + 1) e :=
  ⟨pwW_keep h.1 hz (fun b hb => hk b (.inl hb)), ⟨(hk e.R (.inr (.inl rfl))).trans h.2.1.1, owns_keep h.2.1.2 (fun b hb => hk b (.inr (.inr hb)))⟩, h.2.2.1, Nat.le_succ_of_le h.2.2.2⟩

/-- The state of a script. -/
structure TS where
  Es : List TE
  vt : Value
  Ld : List Value
  vd : Value

structure invT (W : World) (ac : Option Addr) (lc cc : Nat) (j : Nat) (σ : TS) (w : World) : Prop where
  bel : Below W.heap.size W w
  world : w.heap[W.heap.size]? = some (.cells #[.slice ac lc cc, .slice none 0 0, σ.vt, .slice none 0 0, σ.vd] 67 (0, 0))
  ts : w.ownsRow (W.heap.size + 1) 153 2 σ.vt σ.Es.length (flatE σ.Es)
  dues : w.ownsRow (W.heap.size + 1) 129 1 σ.vd σ.Ld.length σ.Ld
  lenE : σ.Es.length ≤ j
  lenD : σ.Ld.length ≤ j
  marks : ∀ i, i < σ.Ld.length → markedD w W.heap.size i (σ.Ld.getD i undef)
  ent : ∀ (a : Nat) (e : TE), σ.Es[a]? = some e → entOK w W.heap.size j e
  sep : ∀ (a a' : Nat) (e e' : TE), σ.Es[a]? = some e → σ.Es[a']? = some e' → a ≠ a' → ∀ b, e.fp b → ¬ e'.fp b
  far : ∀ (a : Nat) (e : TE), σ.Es[a]? = some e → ∀ b, e.fp b → W.heap.size < b ∧ σ.vt.ownBlock ≠ some b ∧ σ.vd.ownBlock ≠ some b ∧ ∀ m ∈ σ.Ld, m.ownBlock ≠ some b

def ownT (W : World) (σ : TS) (b : Nat) : Prop := b = W.heap.size ∨ σ.vt.ownBlock = some b ∨ σ.vd.ownBlock = some b ∨ ∃ (a : Nat) (e : TE), σ.Es[a]? = some e ∧ e.fp b

theorem markedD_keep {w w' : World} {P i : Nat} {v : Value} (h : markedD w P i v) (hk : ∀ k, v.ownBlock = some k → w'.heap[k]? = w.heap[k]?) : markedD w' P i v := by
  rcases h with h | ⟨g, n, h1, h2, h3, h4⟩
  · exact .inl h
  · exact .inr ⟨g, n, h1, h2, h3, (hk g (by rw [h1]; rfl)).trans h4⟩

theorem markedD_lt {w : World} {P i k : Nat} {v : Value} (h : markedD w P i v) (hk : v.ownBlock = some k) : P < k ∧ k < w.heap.size ∧ ∃ C, w.heap[k]? = some (.cells C 131 (0, 0)) := by
  rcases h with h | ⟨g, n, h1, h2, h3, h4⟩
  · rw [h] at hk; simp [Value.ownBlock] at hk
  · rw [h1] at hk
    simp [Value.ownBlock] at hk
    subst hk
    exact ⟨h3, (Array.getElem?_eq_some_iff.1 h4).1, _, h4⟩

theorem mem_getD {L : List Value} {m : Value} (h : m ∈ L) : ∃ i, i < L.length ∧ L.getD i undef = m := by
  obtain ⟨i, hi, rfl⟩ := List.mem_iff_getElem.1 h
  exact ⟨i, hi, by simp [List.getD, List.getElem?_eq_getElem hi]⟩

theorem invT_below {W : World} {ac : Option Addr} {lc cc j : Nat} {σ : TS} {w w' : World} (h : invT W ac lc cc j σ w) (hb : Below w.heap.size w w') : invT W ac lc cc j σ w' := by
  have hk : ∀ (a : Nat) (e : TE), σ.Es[a]? = some e → ∀ b, e.fp b → w'.heap[b]? = w.heap[b]? := fun a e he b hb' => hb.block b (fp_lt (h.ent a e he) hb')
  refine ⟨h.bel.trans (hb.mono h.bel.size), (hb.block _ (Array.getElem?_eq_some_iff.1 h.world).1).trans h.world, ownsRow_below h.ts hb (Nat.le_refl _), ownsRow_below h.dues hb (Nat.le_refl _), h.lenE, h.lenD, fun i hi => markedD_keep (h.marks i hi) (fun k hk' => hb.block k (markedD_lt (h.marks i hi) hk').2.1), fun a e he => ?_, h.sep, h.far⟩
  have := h.ent a e he
  exact ⟨pwW_keep this.1 hb.size (fun b hb' => hk a e he b (.inl hb')), ⟨(hk a e he e.R (.inr (.inl rfl))).trans this.2.1.1, owns_keep this.2.1.2 (fun b hb' => hk a e he b (.inr (.inr hb')))⟩, this.2.2.1, this.2.2.2⟩

theorem invT_skip {W : World} {ac : Option Addr} {lc cc j : Nat} {σ : TS} {w : World} (h : invT W ac lc cc j σ w) : invT W ac lc cc (j + 1) σ w :=
  ⟨h.bel, h.world, h.ts, h.dues, Nat.le_succ_of_le h.lenE, Nat.le_succ_of_le h.lenD, h.marks, fun a e he => ⟨(h.ent a e he).1, (h.ent a e he).2.1, (h.ent a e he).2.2.1, Nat.le_succ_of_le (h.ent a e he).2.2.2⟩, h.sep, h.far⟩

theorem ownT_lt {W : World} {ac : Option Addr} {lc cc j : Nat} {σ : TS} {w : World} (h : invT W ac lc cc j σ w) {b : Nat} (hb : ownT W σ b) : b < w.heap.size := by
  rcases hb with rfl | hb | hb | ⟨a, e, he, hb⟩
  · exact (Array.getElem?_eq_some_iff.1 h.world).1
  · exact (World.ownsRow.lt h.ts b hb).2
  · exact (World.ownsRow.lt h.dues b hb).2
  · exact fp_lt (h.ent a e he) hb

/-- A script's first world. -/
theorem invT_start (W : World) (ac : Option Addr) (lc cc : Nat) : invT W ac lc cc 0 ⟨[], .slice none 0 0, [], .slice none 0 0⟩ (W.alloc (.cells #[.slice ac lc cc, .slice none 0 0, .slice none 0 0, .slice none 0 0, .slice none 0 0] 67)) :=
  ⟨(Below.refl _ _).alloc (Nat.le_refl _) _, heap_alloc_new W _, World.ownsRow_nil _ _ _ _, World.ownsRow_nil _ _ _ _, Nat.le_refl _, Nat.le_refl _, fun i hi => by simp at hi, fun a e he => by simp at he, fun a a' e e' he => by simp at he, fun a e he => by simp at he⟩

/-- Behind a call on one set of timers. -/
theorem invT_turn {W : World} {ac : Option Addr} {lc cc j i : Nat} {σ : TS} {w w' : World} {e e' : TE} {Ld' : List Value} {vd' : Value} (h : invT W ac lc cc j σ w) (hi : σ.Es[i]? = some e) (hx : e'.x = e.x) (hR : e'.R = e.R)
    (hw : w'.heap[W.heap.size]? = some (.cells #[.slice ac lc cc, .slice none 0 0, σ.vt, .slice none 0 0, vd'] 67 (0, 0))) (hd : w'.ownsRow (W.heap.size + 1) 129 1 vd' Ld'.length Ld') (hld : Ld'.length ≤ j + 1)
    (hm : ∀ i, i < Ld'.length → markedD w' W.heap.size i (Ld'.getD i undef)) (he : entOK w' W.heap.size (j + 1) e') (hs : Same (fun b => e.fp b ∨ b = W.heap.size ∨ σ.vd.ownBlock = some b) w w')
    (hf : ∀ b, e'.fp b → e.fp b ∨ w.heap.size ≤ b) (hvd : ∀ k, vd'.ownBlock = some k → σ.vd.ownBlock = some k ∨ w.heap.size ≤ k) (hmem : ∀ m ∈ Ld', m ∈ σ.Ld ∨ ∀ k, m.ownBlock = some k → w.heap.size ≤ k)
    (hfar : ∀ b, e'.fp b → vd'.ownBlock ≠ some b ∧ ∀ m ∈ Ld', m.ownBlock ≠ some b) :
    invT W ac lc cc (j + 1) ⟨σ.Es.set i e', σ.vt, Ld', vd'⟩ w' := by
  have hP : W.heap.size < w.heap.size := (Array.getElem?_eq_some_iff.1 h.world).1
  have hil : i < σ.Es.length := (List.getElem?_eq_some_iff.1 hi).1
  have hvt := World.ownsRow.lt h.ts
  have hset : ∀ (a : Nat) (e2 : TE), (σ.Es.set i e')[a]? = some e2 → (a = i ∧ e2 = e') ∨ (a ≠ i ∧ σ.Es[a]? = some e2) := by
    intro a e2 ha
    rw [List.getElem?_set] at ha
    by_cases hai : i = a
    · rw [if_pos hai, if_pos hil] at ha
      exact .inl ⟨hai.symm, (Option.some.inj ha).symm⟩
    · rw [if_neg hai] at ha
      exact .inr ⟨fun e => hai e.symm, ha⟩
  have hkeep : ∀ (a : Nat) (e2 : TE), a ≠ i → σ.Es[a]? = some e2 → ∀ b, e2.fp b → w'.heap[b]? = w.heap[b]? := by
    intro a e2 hai ha b hb
    have hfa := h.far a e2 ha b hb
    exact hs.block b (fp_lt (h.ent a e2 ha) hb) (fun c => c.elim (fun c => h.sep a i e2 e ha hi hai b hb c) (fun c => c.elim (fun c => by omega) hfa.2.2.1))
  refine ⟨?_, hw, ?_, hd, by simpa using Nat.le_succ_of_le h.lenE, hld, hm, ?_, ?_, ?_⟩
  · refine ⟨hs.os.trans h.bel.os, hs.tape.trans h.bel.tape, hs.output.trans h.bel.output, Nat.le_trans h.bel.size hs.size, fun b hb => ?_⟩
    rw [hs.block b (by omega) (fun c => c.elim (fun c => by have := (h.far i e hi b c).1; omega) (fun c => c.elim (fun c => by omega) (fun c => by have := (World.ownsRow.lt h.dues b c).1; omega)))]
    exact h.bel.block b hb
  · show w'.ownsRow _ _ 2 σ.vt (σ.Es.set i e').length (flatE (σ.Es.set i e'))
    rw [flatE_set hi hx hR, List.length_set]
    refine owns_keep h.ts (fun k hk => hs.block k (hvt k hk).2 (fun c => c.elim (fun c => (h.far i e hi k c).2.1 hk) (fun c => c.elim (fun c => by have := (hvt k hk).1; omega) (fun c => ?_))))
    rcases h.dues.2 with ⟨hh, _⟩ | ⟨g, cp, cur, hh, _, hg, _⟩
    · rw [hh] at c; simp [Value.ownBlock] at c
    · rw [hh] at c
      simp [Value.ownBlock] at c
      subst c
      exact own_type h.ts hg (by decide) hk
  · intro a e2 ha
    rcases hset a e2 ha with ⟨_, rfl⟩ | ⟨hai, ha⟩
    · exact he
    · exact ent_keep (h.ent a e2 ha) hs.size (hkeep a e2 hai ha)
  · intro a a' e2 e3 ha ha' hne b hb hb'
    rcases hset a e2 ha with ⟨ea, rfl⟩ | ⟨hai, h2⟩ <;> rcases hset a' e3 ha' with ⟨ea', rfl⟩ | ⟨hai', h3⟩
    · exact hne (ea.trans ea'.symm)
    · rcases hf b hb with c | c
      · exact h.sep _ _ _ _ hi h3 (fun e => hne (ea.trans e)) b c hb'
      · have := fp_lt (h.ent _ _ h3) hb'; omega
    · rcases hf b hb' with c | c
      · exact h.sep _ _ _ _ h2 hi (fun e => hne (e.trans ea'.symm)) b hb c
      · have := fp_lt (h.ent _ _ h2) hb; omega
    · exact h.sep _ _ _ _ h2 h3 hne b hb hb'
  · intro a e2 ha b hb
    rcases hset a e2 ha with ⟨rfl, rfl⟩ | ⟨hai, ha⟩
    · refine ⟨?_, ?_, (hfar b hb).1, (hfar b hb).2⟩
      · rcases hf b hb with c | c
        · exact (h.far _ _ hi b c).1
        · omega
      · rcases hf b hb with c | c
        · exact (h.far _ _ hi b c).2.1
        · exact fun c' => by have := (hvt b c').2; omega
    · have hfa := h.far a e2 ha b hb
      have hbl := fp_lt (h.ent a e2 ha) hb
      refine ⟨hfa.1, hfa.2.1, fun c => ?_, fun m hm' c => ?_⟩
      · rcases hvd b c with c | c
        · exact hfa.2.2.1 c
        · omega
      · rcases hmem m hm' with c' | c'
        · exact hfa.2.2.2 m c' c
        · have := c' b c; omega

end Go.Proofs.YtfhncfghblkgeaaGreat
