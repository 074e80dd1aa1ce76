/-
  The program's timers: Advance.
-/
import Derived.Test.YtfhncfghblkgeaaGreatWheel2
namespace Go.Proofs.YtfhncfghblkgeaaGreat
open Go.RowKit

theorem erase_once : ∀ {L : List (Int × Int)} {q : Nat}, onceT L → q < L.length → L.eraseIdx q = L.filter (fun p => p.2 != (L.getD q (0, 0)).2)
  | [], _, _, h => by simp at h
  | x :: xs, 0, ho, _ => by
    unfold onceT at ho
    rw [List.map_cons, List.nodup_cons] at ho
    show xs = (x :: xs).filter (fun p => p.2 != x.2)
    rw [List.filter_cons_of_neg (by simp), filter_whole]
    intro p hp
    have : p.2 ≠ x.2 := fun e => ho.1 (List.mem_map.2 ⟨p, hp, e⟩)
    simpa using this
  | x :: xs, q + 1, ho, hq => by
    have hq' : q < xs.length := by simpa using hq
    unfold onceT at ho
    rw [List.map_cons, List.nodup_cons] at ho
    have hne : x.2 ≠ (xs.getD q (0, 0)).2 := fun e => ho.1 (List.mem_map.2 ⟨_, getD_mem hq', e.symm⟩)
    have hg : (x :: xs).getD (q + 1) (0, 0) = xs.getD q (0, 0) := by simp [List.getD]
    rw [hg, List.filter_cons_of_pos (by simpa using hne), List.eraseIdx_cons_succ, erase_once ho.2 hq']

theorem adv_end {to : Int} {L : List (Int × Int)} (h : firstB L = false ∨ to < (firstT L).1) : adv to L = ([], L) := by
  refine adv_stop ?_
  unfold firstB firstT at h
  by_cases hl : leastTo L L.length < 0
  · exact .inl hl
  · rw [if_neg hl] at h
    rcases h with h | h
    · simp at h; exact .inl h
    · exact .inr h

theorem adv_next {to : Int} {L : List (Int × Int)} (ho : onceT L) (hb : firstB L = true) (h : (firstT L).1 ≤ to) : adv to L = (firstT L :: (adv to (L.filter (fun p => p.2 != (firstT L).2))).1, (adv to (L.filter (fun p => p.2 != (firstT L).2))).2) := by
  have hlb := leastTo_lt L L.length
  have h0 : 0 ≤ leastTo L L.length := by simpa [firstB] using hb
  obtain ⟨q, hq⟩ := Int.eq_ofNat_of_zero_le h0
  have hql : q < L.length := by omega
  have hf : firstT L = L.getD q (0, 0) := by rw [firstT, if_neg (by omega), hq, Int.toNat_natCast]
  have he : L.eraseIdx q = L.filter (fun p => p.2 != (firstT L).2) := by rw [hf, erase_once ho hql]
  rw [adv_go hq hql (hf ▸ h), ← he, hf]

theorem first_in {L : List (Int × Int)} (hb : firstB L = true) : ((firstT L).1, (firstT L).2) ∈ L := by
  have hne : L ≠ [] := fun e => by rw [e, first_nil.2] at hb; cases hb
  exact (first_some hne).2.1

/-- In Advance's loop: what has been told, and what is left. -/
structure advI (w wr : World) (x D : Nat) (own : Nat → Prop) (to : Int) (out : Value) (L o L' : List (Int × Int)) (own' : Nat → Prop) : Prop where
  told : wr.ownsRow w.heap.size 131 2 out o.length (flatT o)
  due : wr.heap[D]? = some (.cells #[.int .i64 (firstT L').1, .int .i64 (firstT L').2] 131 (0, 0))
  pw : pwW wr x own' to L'
  fresh : ∀ k, own' k → own k ∨ w.heap.size ≤ k
  nD : ¬ own' D
  no : ∀ k, out.ownBlock = some k → ¬ own' k ∧ k ≠ D
  same : Same own w wr
  D : w.heap.size ≤ D
  spec : o ++ (adv to L').1 = (adv to L).1 ∧ (adv to L').2 = (adv to L).2
  len : o.length + L'.length = L.length

theorem adv_turn {w wr w2 w3 w4 : World} {x D : Nat} {own own' : Nat → Prop} {to : Int} {out out' : Value} {L o L' : List (Int × Int)} {O : Obj} (I : advI w wr x D own to out L o L' own') (hb : firstB L' = true) (hto : (firstT L').1 ≤ to)
    (hp : pwAns pwW wr w2 x own' to (L'.filter (fun p => p.2 != (firstT L').2)))
    (hown3 : w3.ownsRow w.heap.size 131 2 out' (o.length + 1) (flatT o ++ [.int .i64 (firstT L').1, .int .i64 (firstT L').2])) (hg : (w2.alloc O).grownBy w3 out.ownBlock) (hat : out'.ownBlock = out.ownBlock ∨ out'.ownBlock = some (w2.alloc O).heap.size) (b4 : Below w3.heap.size w3 w4) :
    ∃ own'', advI w ((w4.setCell ⟨D, 0, none⟩ (.int .i64 (firstT (L'.filter (fun p => p.2 != (firstT L').2))).1)).setCell ⟨D, 1, none⟩ (.int .i64 (firstT (L'.filter (fun p => p.2 != (firstT L').2))).2)) x D own to out' L (o ++ [firstT L']) (L'.filter (fun p => p.2 != (firstT L').2)) own'' := by
  obtain ⟨own2, p2, s2, f2⟩ := hp
  have hm := first_in hb
  have ho : onceT L' := by obtain ⟨_, _, _, _, _, _, h, _⟩ := I.pw; exact h
  have hlen := filter_len ho hm
  have lt' := pwW_lt I.pw
  have lt2 := pwW_lt p2
  have hDr : D < wr.heap.size := (Array.getElem?_eq_some_iff.1 I.due).1
  have z2 := s2.size
  have z3 : w2.heap.size + 1 ≤ w3.heap.size := by have := hg.size; simpa using this
  have z4 := b4.size
  have ko := World.ownsRow.lt I.told
  have k3 : ∀ k, k < w2.heap.size → out.ownBlock ≠ some k → w4.heap[k]? = w2.heap[k]? := fun k hk hn => (b4.block k (by omega)).trans ((hg.block k (by simp; omega) (fun e => hn e.symm)).trans (Below.heap_alloc w2 O k hk))
  have nD2 : ¬ own2 D := fun e => (f2 D e).elim I.nD (fun h => by omega)
  have no2 : ∀ k, out.ownBlock = some k → ¬ own2 k := fun k hk e => (f2 k e).elim (I.no k hk).1 (fun h => by have := (ko k hk).2; omega)
  have hD4 : w4.heap[D]? = some (.cells #[.int .i64 (firstT L').1, .int .i64 (firstT L').2] 131 (0, 0)) := (k3 D (by omega) (fun e => (I.no D e).2 rfl)).trans ((s2.block D hDr I.nD).trans I.due)
  have kD : ∀ k u v, k ≠ D → ((w4.setCell ⟨D, 0, none⟩ u).setCell ⟨D, 1, none⟩ v).heap[k]? = w4.heap[k]? := fun k u v hk => (Below.heap_setCell _ ⟨D, 1, none⟩ _ _ hk).trans (Below.heap_setCell _ ⟨D, 0, none⟩ _ _ hk)
  have o3 := World.ownsRow.lt hown3
  have no3 : ∀ k, out'.ownBlock = some k → ¬ own2 k ∧ k ≠ D := by
    intro k hk
    rcases hat with e | e
    · exact ⟨no2 k (e.symm.trans hk), (I.no k (e.symm.trans hk)).2⟩
    · rw [hk] at e
      simp at e
      exact ⟨fun h => by have := lt2 k h; omega, by omega⟩
  refine ⟨own2, ?_, ?_, ?_, ?_, nD2, no3, ?_, I.D, ?_, ?_⟩
  · rw [flatT_snoc, List.length_append, List.length_singleton]
    exact owns_keep (ownsRow_below hown3 b4 (Nat.le_refl _)) (fun k hk => kD k _ _ (no3 k hk).2)
  · rw [Joins.block_setCell (Joins.block_setCell hD4 _)]; rfl
  · exact pwW_keep p2 (by simp [World.setCell]; omega) (fun k hk => (kD k _ _ (fun e => nD2 (e ▸ hk))).trans (k3 k (lt2 k hk) (fun e => no2 k e hk)))
  · intro k hk
    rcases f2 k hk with h | h
    · exact I.fresh k h
    · exact .inr (Nat.le_trans I.same.size h)
  · refine ⟨b4.os.trans (hg.os.trans (s2.os.trans I.same.os)), b4.tape.trans (hg.tape.trans (s2.tape.trans I.same.tape)), b4.output.trans (hg.output.trans (s2.output.trans I.same.output)), by simp [World.setCell]; have := I.same.size; omega, fun k hk hn => ?_⟩
    have hkr := Nat.lt_of_lt_of_le hk I.same.size
    rw [kD k _ _ (fun e => by have := I.D; omega), k3 k (by omega) (fun e => by have := (ko k e).1; omega), s2.block k hkr (fun e => (I.fresh k e).elim hn (fun h => by omega))]
    exact I.same.block k hk hn
  · have := adv_next ho hb hto
    have hs := I.spec
    rw [this] at hs
    simp only at hs
    exact ⟨by rw [List.append_assoc]; exact hs.1, hs.2⟩
  · rw [List.length_append, List.length_singleton]
    have := I.len
    omega

theorem adv_begin {w w1 : World} {x : Nat} {own : Nat → Prop} {now to : Int} {L : List (Int × Int)} (h : pwW w x own now L) (hb : Below (w.heap.size + 1) ((w.setCell ⟨x, 0, none⟩ (.int .i64 to)).alloc (.cells #[] 131)) w1) :
    advI w (w1.alloc (.cells #[.int .i64 (firstT L).1, .int .i64 (firstT L).2] 131)) x w1.heap.size own to (.slice (some ⟨w.heap.size, 0, none⟩) 0 0) L [] L own := by
  have lt := pwW_lt h
  have hz : w.heap.size + 1 ≤ w1.heap.size := by have := hb.size; simpa [World.setCell] using this
  obtain ⟨ti, tt, h1, h2, h3, h4, h5, h6, h7⟩ := h
  have hx : x < w.heap.size := h7 x (h6 x (.inl rfl))
  have kx : ∀ k, k < w.heap.size → k ≠ x → (w1.alloc (.cells #[.int .i64 (firstT L).1, .int .i64 (firstT L).2] 131)).heap[k]? = w.heap[k]? := fun k hk hne => by
    rw [Below.heap_alloc w1 _ k (by omega), hb.block k (by omega), Below.heap_alloc _ _ k (by simpa [World.setCell] using hk), Below.heap_setCell _ ⟨x, 0, none⟩ _ _ hne]
  have hx0 : (w1.alloc (.cells #[.int .i64 (firstT L).1, .int .i64 (firstT L).2] 131)).heap[x]? = some (.cells #[.int .i64 to, .pointer ti.addr, .int .i64 L.length, .pointer tt.addr, .int .i64 L.length] 170 (0, 0)) := by
    rw [Below.heap_alloc w1 _ x (by omega), hb.block x (by omega), Below.heap_alloc _ _ x (by simpa [World.setCell] using hx), Joins.block_setCell h1]; rfl
  have kt : ∀ t : Tr, t.at w → ∀ n, t.has n → n ≠ x := fun t ht n hn e => by
    obtain ⟨C', hC⟩ := t.at_type ht hn
    rw [e, h1] at hC
    simp at hC
  refine ⟨⟨by simp [flatT], .inr ⟨w.heap.size, 0, #[], rfl, Nat.le_refl _, ?_, Nat.le_refl _, Nat.zero_le _, rfl, rfl⟩⟩, heap_alloc_new _ _, ⟨ti, tt, hx0, ⟨ti.at_keep h2.1 (fun n hn => kx n (ti.at_lt h2.1 hn) (kt ti h2.1 n hn)), tt.at_keep h2.2 (fun n hn => kx n (tt.at_lt h2.2 hn) (kt tt h2.2 n hn))⟩, h3, h4, h5, h6, fun k hk => by have := lt k hk; simp; omega⟩, fun k hk => .inl hk, fun e => by have := lt _ e; omega, ?_, ?_, by omega, ⟨rfl, rfl⟩, by simp⟩
  · rw [Below.heap_alloc w1 _ _ (by omega), hb.block _ (by omega)]
    have := heap_alloc_new (w.setCell ⟨x, 0, none⟩ (.int .i64 to)) (.cells #[] 131)
    simpa [World.setCell] using this
  · intro k hk
    simp [Value.ownBlock] at hk
    subst hk
    exact ⟨fun e => by have := lt _ e; omega, by omega⟩
  · refine ⟨hb.os, hb.tape, hb.output, by simp; omega, fun k hk hn => kx k hk (fun e => hn (e ▸ h6 x (.inl rfl)))⟩

end Go.Proofs.YtfhncfghblkgeaaGreat
