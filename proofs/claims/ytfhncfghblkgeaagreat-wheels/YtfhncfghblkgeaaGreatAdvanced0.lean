/-
  Timers, whatever the program's timers are: what advanced leaves. No walk.
-/
import Derived.Test.YtfhncfghblkgeaaGreatRWheel5
import Derived.Test.YtfhncfghblkgeaaGreatMarksD
import Derived.Test.YtfhncfghblkgeaaGreatWhole
import Derived.Test.YtfhncfghblkgeaaGreatWBase
namespace Go.Proofs.YtfhncfghblkgeaaGreat
open Go.RowKit
/-- Where both have advanced: two lists of the same timers, and both sets of timers behind them. -/
structure Both (PW : World → Nat → (Nat → Prop) → Int → List (Int × Int) → Prop) (w w2 : World) (P B R x : Nat) (own : Nat → Prop) (c0 c1 c2 c3 vd v : Value) (Ld : List Value) (now : Int) (L o : List (Int × Int)) (out1 out2 : Value) (own' : Nat → Prop) (v' : Value) : Prop where
  world : w2.heap[P]? = some (.cells #[c0, c1, c2, c3, vd] 67 (0, 0))
  dues : w2.ownsRow (P + 1) 129 1 vd Ld.length Ld
  pw : PW w2 x own' now L
  rw : rwAt w2 B R now v' L
  l1 : w2.ownsRow (w.heap.size + 1) 131 2 out1 o.length (flatT o)
  l2 : w2.ownsRow (w.heap.size + 1) 131 2 out2 o.length (flatT o)
  same : Same (fun b => own b ∨ b = R) w w2
  fresh : ∀ k, own' k → own k ∨ w.heap.size < k
  vfresh : ∀ k, v'.ownBlock = some k → v.ownBlock = some k ∨ w.heap.size < k
  n1 : ∀ k, out1.ownBlock = some k → ¬ own' k
  n2 : ∀ k, out1.ownBlock = some k → v'.ownBlock ≠ some k
  n3 : ∀ k, v'.ownBlock = some k → ¬ own' k

theorem both {PW : World → Nat → (Nat → Prop) → Int → List (Int × Int) → Prop} (T : Timers PW) {P B R x : Nat} {own own1 : Nat → Prop} {c0 c1 c2 c3 vd v : Value} {Ld : List Value} {now now' : Int} {L L' o : List (Int × Int)} {w w1 w2 : World} {O : Obj} {out1 out2 : Value}
    (hw : w.heap[P]? = some (.cells #[c0, c1, c2, c3, vd] 67 (0, 0))) (hd : w.ownsRow (P + 1) 129 1 vd Ld.length Ld) (hr : rwAt w B R now v L)
    (n1 : ¬ own P) (n2 : ∀ k, vd.ownBlock = some k → ¬ own k) (n3 : ¬ own R) (n4 : ∀ k, v.ownBlock = some k → ¬ own k)
    (ho1 : w1.ownsRow (w.heap.size + 1) 131 2 out1 o.length (flatT o)) (hp1 : PW w1 x own1 now' L') (hs1 : Same own (w.alloc O) w1) (hf1 : ∀ k, own1 k → own k ∨ w.heap.size + 1 ≤ k) (hd1 : ∀ k, out1.ownBlock = some k → ¬ own1 k)
    (hA : advAns w1 w2 B R v now' out2 o L') : ∃ v', Both PW w w2 P B R x own c0 c1 c2 c3 vd v Ld now' L' o out1 out2 own1 v' := by
  obtain ⟨ho2, v', hr2, hs2, hv2, hd2⟩ := hA
  have hP : P < w.heap.size := (Array.getElem?_eq_some_iff.1 hw).1
  have hR : R < w.heap.size := (Array.getElem?_eq_some_iff.1 hr.1).1
  have hPR : P ≠ R := fun e => by rw [e, hr.1] at hw; simp at hw
  have z1 : w.heap.size + 1 ≤ w1.heap.size := by have := hs1.size; simpa using this
  have z2 := hs2.size
  have lt1 := T.lt hp1
  have k1 : ∀ k, k < w.heap.size → ¬ own k → w1.heap[k]? = w.heap[k]? := fun k hk hn => (hs1.block k (by simp; omega) hn).trans (Below.heap_alloc w O k hk)
  have k2 : ∀ k, k < w.heap.size → ¬ own k → k ≠ R → w2.heap[k]? = w.heap[k]? := fun k hk hn hne => (hs2.block k (by omega) hne).trans (k1 k hk hn)
  have hR1 : ¬ own1 R := fun e => by rcases hf1 R e with h | h
                                     · exact n3 h
                                     · omega
  have hvd := World.ownsRow.lt hd
  have hvv := World.ownsRow.lt hr.2
  have hr1 : w1.heap[R]? = some (.cells #[.int .i64 now, v] 151 (0, 0)) := (k1 R hR n3).trans hr.1
  refine ⟨v', ⟨(k2 P hP n1 hPR).trans hw, owns_keep hd (fun k hk => k2 k (hvd k hk).2 (n2 k hk) (fun e => own_type hd hr.1 (by decide) (e ▸ hk))), T.keep hp1 z2 (fun k hk => hs2.block k (lt1 k hk) (fun e => hR1 (e ▸ hk))), hr2,
    owns_keep ho1 (fun k hk => hs2.block k (World.ownsRow.lt ho1 k hk).2 (fun e => own_type ho1 hr1 (by decide) (e ▸ hk))), owns_base ho2 z1, ⟨?_, ?_, ?_, by omega, fun k hk hn => k2 k hk (fun e => hn (.inl e)) (fun e => hn (.inr e))⟩,
    hf1, ?_, hd1, ?_, ?_⟩⟩
  · exact hs2.os.trans hs1.os
  · exact hs2.tape.trans hs1.tape
  · exact hs2.output.trans hs1.output
  · intro k hk
    rcases hv2 k hk with h | h
    · exact .inl h
    · exact .inr (by omega)
  · intro k hk hk'
    have h1 := World.ownsRow.lt ho1 k hk
    rcases hv2 k hk' with h | h
    · have := (hvv k h).2; omega
    · omega
  · intro k hk hk'
    rcases hv2 k hk with h | h
    · rcases hf1 k hk' with h' | h'
      · exact n4 k h h'
      · have := (hvv k h).2; omega
    · have := lt1 k hk'; omega

/-- What advanced leaves: one list more, marked; both sets of timers behind it. -/
def advdAns (PW : World → Nat → (Nat → Prop) → Int → List (Int × Int) → Prop) (w w' : World) (P B R x : Nat) (own : Nat → Prop) (c0 c1 c2 c3 vd v : Value) (Ld : List Value) (now : Int) (L : List (Int × Int)) : Prop :=
  ∃ m vd' v' own', w'.heap[P]? = some (.cells #[c0, c1, c2, c3, vd'] 67 (0, 0)) ∧ w'.ownsRow (P + 1) 129 1 vd' (Ld ++ [m]).length (Ld ++ [m]) ∧ markedD w' P Ld.length m ∧ PW w' x own' now L ∧ rwAt w' B R now v' L ∧
    Same (fun b => own b ∨ b = R ∨ b = P ∨ vd.ownBlock = some b) w w' ∧ (∀ k, own' k → own k ∨ w.heap.size ≤ k) ∧ (∀ k, v'.ownBlock = some k → v.ownBlock = some k ∨ w.heap.size ≤ k) ∧ (∀ k, vd'.ownBlock = some k → vd.ownBlock = some k ∨ w.heap.size ≤ k) ∧
    (∀ k, m.ownBlock = some k → w.heap.size ≤ k ∧ ¬ own' k ∧ v'.ownBlock ≠ some k) ∧ (∀ k, v'.ownBlock = some k → ¬ own' k) ∧ (∀ k, vd'.ownBlock = some k → ¬ own' k)

theorem advd_end {PW : World → Nat → (Nat → Prop) → Int → List (Int × Int) → Prop} (T : Timers PW) {w w2 wr w3 : World} {P B R x : Nat} {own own' : Nat → Prop} {c0 c1 c2 c3 vd vd' v v' m out1 out2 : Value} {Ld : List Value} {now : Int} {L o : List (Int × Int)} {O : Obj}
    (hb : Both PW w w2 P B R x own c0 c1 c2 c3 vd v Ld now L o out1 out2 own' v') (hP : P < w.heap.size) (n1 : ¬ own P) (n2 : ∀ k, vd.ownBlock = some k → k < w.heap.size ∧ ¬ own k) (hg1 : w2.grownBy wr out1.ownBlock) (hm : markedD wr P Ld.length m) (hmo : m.ownBlock = out1.ownBlock)
    (hown3 : w3.ownsRow (P + 1) 129 1 vd' (Ld.length + 1) (Ld ++ [m])) (hg : (wr.alloc O).grownBy w3 vd.ownBlock) (hat : vd'.ownBlock = vd.ownBlock ∨ vd'.ownBlock = some (wr.alloc O).heap.size) :
    advdAns PW w (w3.setCell ⟨P, 4, none⟩ vd') P B R x own c0 c1 c2 c3 vd v Ld now L := by
  have hlt := T.lt hb.pw
  have z2 := hb.same.size
  have zr := hg1.size
  have z3 : wr.heap.size + 1 ≤ w3.heap.size := by have := hg.size; simpa using this
  have ho := World.ownsRow.lt hb.l1
  have hvd := World.ownsRow.lt hb.dues
  have hv := World.ownsRow.lt hb.rw.2
  have hR2 : R < w2.heap.size := (Array.getElem?_eq_some_iff.1 hb.rw.1).1
  have hPR : P ≠ R := fun e => by have := hb.world; rw [e, hb.rw.1] at this; simp at this
  have hPo : out1.ownBlock ≠ some P := fun e => by have := (ho P e).1; omega
  have hPd : vd.ownBlock ≠ some P := fun e => by have := (hvd P e).1; omega
  have kr : ∀ k, k < wr.heap.size → vd.ownBlock ≠ some k → w3.heap[k]? = wr.heap[k]? := fun k hk hn => (hg.block k (by simp; omega) (fun e => hn e.symm)).trans (Below.heap_alloc wr O k hk)
  have k3 : ∀ k, k < w2.heap.size → out1.ownBlock ≠ some k → vd.ownBlock ≠ some k → w3.heap[k]? = w2.heap[k]? := fun k hk h1 h2 => (kr k (by omega) h2).trans (hg1.block k hk (fun e => h1 e.symm))
  have ks : ∀ k, k ≠ P → (w3.setCell ⟨P, 4, none⟩ vd').heap[k]? = w3.heap[k]? := fun k hk => Below.heap_setCell _ ⟨P, 4, none⟩ _ _ hk
  have hP3 : w3.heap[P]? = some (.cells #[c0, c1, c2, c3, vd] 67 (0, 0)) := (k3 P (by omega) hPo hPd).trans hb.world
  have hoP : ¬ own' P := fun e => by rcases hb.fresh P e with h | h
                                     · exact n1 h
                                     · omega
  have hod : ∀ k, vd.ownBlock = some k → ¬ own' k := fun k hk e => by
    rcases hb.fresh k e with h | h
    · exact (n2 k hk).2 h
    · have := (n2 k hk).1; omega
  have hvP : v'.ownBlock ≠ some P := own_type hb.rw.2 hb.world (by decide)
  refine ⟨m, vd', v', own', ?_, ?_, ?_, ?_, ⟨?_, ?_⟩, ?_, ?_, ?_, ?_, ?_, hb.n3, ?_⟩
  · rw [Joins.block_setCell hP3]; rfl
  · rw [List.length_append, List.length_singleton]
    exact owns_keep hown3 (fun k hk => ks k (fun e => by have := (World.ownsRow.lt hown3 k hk).1; omega))
  · rcases hm with h | ⟨g, n, h, hn, hPg, hh⟩
    · exact .inl h
    · refine .inr ⟨g, n, h, hn, hPg, ?_⟩
      have hgw : g < wr.heap.size := (Array.getElem?_eq_some_iff.1 hh).1
      have hdr : wr.ownsRow (P + 1) 129 1 vd Ld.length Ld := owns_keep hb.dues (fun k hk => hg1.block k (hvd k hk).2 (fun e => by
        have h1 := (ho k e.symm).1
        have h2 := (n2 k hk).1
        omega))
      rw [ks g (by omega), kr g hgw (own_type hdr hh (by decide))]
      exact hh
  · exact T.keep hb.pw (by simp [World.setCell]; omega) (fun k hk => (ks k (fun e => hoP (e ▸ hk))).trans (k3 k (hlt k hk) (fun e => hb.n1 k e hk) (fun e => hod k e hk)))
  · rw [ks R (fun e => hPR e.symm), k3 R hR2 (own_type hb.l1 hb.rw.1 (by decide)) (own_type hb.dues hb.rw.1 (by decide))]
    exact hb.rw.1
  · refine owns_keep hb.rw.2 (fun k hk => (ks k (fun e => hvP (e ▸ hk))).trans (k3 k (hv k hk).2 (fun e => hb.n2 k e hk) (fun e => ?_)))
    rcases hb.rw.2.2 with ⟨hh, _⟩ | ⟨g, c, cur, hh, _, hg', _⟩
    · rw [hh] at hk; simp [Value.ownBlock] at hk
    · rw [hh] at hk
      simp [Value.ownBlock] at hk
      subst hk
      exact own_type hb.dues hg' (by decide) e
  · refine ⟨hg.os.trans (hg1.os.trans hb.same.os), hg.tape.trans (hg1.tape.trans hb.same.tape), hg.output.trans (hg1.output.trans hb.same.output), by simp [World.setCell]; omega, fun k hk hn => ?_⟩
    rw [ks k (fun e => hn (.inr (.inr (.inl e)))), k3 k (by omega) (fun e => by have := (ho k e).1; omega) (fun e => hn (.inr (.inr (.inr e))))]
    exact hb.same.block k hk (fun e => hn (e.elim .inl (fun e => .inr (.inl e))))
  · exact fun k hk => (hb.fresh k hk).imp id (by omega)
  · exact fun k hk => (hb.vfresh k hk).imp id (by omega)
  · intro k hk
    rcases hat with e | e
    · exact .inl (e.symm.trans hk)
    · rw [hk] at e; simp at e; exact .inr (by omega)
  · intro k hk
    rw [hmo] at hk
    exact ⟨by have := (ho k hk).1; omega, hb.n1 k hk, hb.n2 k hk⟩
  · intro k hk hk'
    rcases hat with e | e
    · exact hod k (e.symm.trans hk) hk'
    · rw [hk] at e; simp at e
      have := hlt k hk'
      omega

end Go.Proofs.YtfhncfghblkgeaaGreat
