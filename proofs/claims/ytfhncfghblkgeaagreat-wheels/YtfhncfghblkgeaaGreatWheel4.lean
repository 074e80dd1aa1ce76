/-
  The program's timers: Advance: the walk; all that must be shown of them.
-/
import Derived.Test.YtfhncfghblkgeaaGreatWheel3
namespace Go.Proofs.YtfhncfghblkgeaaGreat
open Go.RowKit

theorem pw_now {w : World} {x : Nat} {own : Nat → Prop} {now : Int} {L : List (Int × Int)} (to : Int) (h : pwW w x own now L) : pwW (w.setCell ⟨x, 0, none⟩ (.int .i64 to)) x own to L := by
  obtain ⟨ti, tt, h1, h2, h3, h4, h5, h6, h7⟩ := h
  exact ⟨ti, tt, by rw [Joins.block_setCell h1]; rfl, ⟨ti.at_set h2.1 h1 (by decide), tt.at_set h2.2 h1 (by decide)⟩, h3, h4, h5, h6, fun k hk => by simpa [World.setCell] using h7 k hk⟩

theorem pw_alloc {w : World} {x : Nat} {own : Nat → Prop} {now : Int} {L : List (Int × Int)} (O : Obj) (h : pwW w x own now L) : pwW (w.alloc O) x own now L :=
  pwW_keep h (by simp) (fun k hk => Below.heap_alloc w O k (pwW_lt h k hk))

theorem pw_below {w w' : World} {x : Nat} {own : Nat → Prop} {now : Int} {L : List (Int × Int)} (h : pwW w x own now L) (hb : Below w.heap.size w w') : pwW w' x own now L :=
  pwW_keep h hb.size (fun k hk => hb.block k (pwW_lt h k hk))

/-- Between the append and the next First. -/
theorem adv_mid {w wr w2 w3 : World} {x D : Nat} {own own' : Nat → Prop} {to : Int} {out : Value} {L o L' L2 : List (Int × Int)} {O : Obj} (I : advI w wr x D own to out L o L' own') (hp : pwAns pwW wr w2 x own' to L2) (hg : (w2.alloc O).grownBy w3 out.ownBlock) :
    (∃ own2, pwW w3 x own2 to L2) ∧ w3.heap[D]? = some (.cells #[.int .i64 (firstT L').1, .int .i64 (firstT L').2] 131 (0, 0)) := by
  obtain ⟨own2, p2, s2, f2⟩ := hp
  have lt2 := pwW_lt p2
  have ko := World.ownsRow.lt I.told
  have hDr : D < wr.heap.size := (Array.getElem?_eq_some_iff.1 I.due).1
  have z2 := s2.size
  have z3 : w2.heap.size + 1 ≤ w3.heap.size := by have := hg.size; simpa using this
  have k3 : ∀ k, k < w2.heap.size → out.ownBlock ≠ some k → w3.heap[k]? = w2.heap[k]? := fun k hk hn => (hg.block k (by simp; omega) (fun e => hn e.symm)).trans (Below.heap_alloc w2 O k hk)
  have no2 : ∀ k, out.ownBlock = some k → ¬ own2 k := fun k hk e => (f2 k e).elim (I.no k hk).1 (fun h => by have := (ko k hk).2; omega)
  exact ⟨⟨own2, pwW_keep p2 (by omega) (fun k hk => k3 k (lt2 k hk) (fun e => no2 k e hk))⟩, (k3 D (by omega) (fun e => (I.no D e).2 rfl)).trans ((s2.block D hDr I.nD).trans I.due)⟩

/-- Behind drop: what was told, and the timer. -/
theorem adv_dropped {w wr w2 : World} {x D : Nat} {own own' : Nat → Prop} {to : Int} {out : Value} {L o L' L2 : List (Int × Int)} (I : advI w wr x D own to out L o L' own') (hp : pwAns pwW wr w2 x own' to L2) :
    w2.ownsRow w.heap.size 131 2 out o.length (flatT o) ∧ w2.heap[D]? = some (.cells #[.int .i64 (firstT L').1, .int .i64 (firstT L').2] 131 (0, 0)) ∧ wr.heap.size ≤ w2.heap.size := by
  obtain ⟨own2, p2, s2, f2⟩ := hp
  have hDr : D < wr.heap.size := (Array.getElem?_eq_some_iff.1 I.due).1
  exact ⟨owns_keep I.told (fun k hk => s2.block k (World.ownsRow.lt I.told k hk).2 (I.no k hk).1), (s2.block D hDr I.nD).trans I.due, s2.size⟩

set_option maxRecDepth 100000 in
set_option maxHeartbeats 2000000 in
theorem advance_arg (x : Nat) (now to : Int) (w : World) (h0 : w.cell? ⟨x, 0, none⟩ = some (.int .i64 now)) (ht : to < now) :
    Calls Tryz.prog 119 #[.pointer (some ⟨x, 0, none⟩), .int .i64 to] w fun e w' => e = .returned (.tuple #[.slice none 0 0, .int .i64 3]) ∧ w = w' := by
  go_enter Tryz.func119, Tryz.ntmps119
  go_wp2
  go_ret2
  exact ⟨rfl, rfl⟩

set_option maxRecDepth 100000 in
set_option maxHeartbeats 4000000 in
theorem advance_walk (x : Nat) (now to : Int) (w : World) (own : Nat → Prop) (L : List (Int × Int)) (h : pwW w x own now L) (ht : ¬ to < now) (hl : L.length * 16 + 16 ≤ 140737488351232) :
    Calls Tryz.prog 119 #[.pointer (some ⟨x, 0, none⟩), .int .i64 to] w fun e w' => ∃ out, e = .returned (.tuple #[out, .int .i64 0]) ∧ ∃ D own', advI w w' x D own to out L (adv to L).1 (adv to L).2 own' := by
  obtain ⟨i0, hi, hz0, hz1, hz2⟩ := info_parts Tryz.infoDue
  have HP : Hid (pwW w x own now L) := h
  obtain ⟨ti, tt, h1, _⟩ := h
  have hxw : x < w.heap.size := (Array.getElem?_eq_some_iff.1 h1).1
  have k0 := five_cell h1
  have kf := row_free h1 0
  have ht' : decide (to < now) = false := by simpa using ht
  have HF0 : Hid (Calls Tryz.prog 79 #[.pointer (some ⟨x, 0, none⟩)] ((w.setCell ⟨x, 0, none⟩ (.int .i64 to)).alloc (.cells #[] 131)) fun e w' => e = .returned (.tuple #[.agg #[.int .i64 (firstT L).1, .int .i64 (firstT L).2], .bool (firstB L)]) ∧ Below (w.heap.size + 1) ((w.setCell ⟨x, 0, none⟩ (.int .i64 to)).alloc (.cells #[] 131)) w') := by
    have := wfirst_any (pw_alloc (.cells #[] 131) (pw_now to HP.out))
    have e : ((w.setCell ⟨x, 0, none⟩ (.int .i64 to)).alloc (.cells #[] 131)).heap.size = w.heap.size + 1 := by simp [World.setCell]
    rw [e] at this
    exact this
  clear h1
  go_enter Tryz.func119, Tryz.ntmps119
  go_wp2_with fail
  refine HF0.out.mono ?_
  rintro e w1 ⟨rfl, b1⟩
  have I0 := adv_begin HP.out b1
  have hD : w.heap.size + 1 ≤ w1.heap.size := by have := b1.size; simpa [World.setCell] using this
  clear k0 kf b1
  go_wp2_with fail
  go_loopw [6, 8] (fun out sm wr => ∃ o L' own', Hid (advI w wr x w1.heap.size own to out L o L' own') ∧ sm = .bool (firstB L')) (fun out _ _ => L.length - lenOf out)
  case atStart => exact ⟨[], L, own, I0, rfl⟩
  case round =>
    obtain ⟨o, L', own', I, rfl⟩ := hrel
    generalize hDD : w1.heap.size = D at *
    have hdue := I.out.due
    have hDr : D < wr.heap.size := (Array.getElem?_eq_some_iff.1 hdue).1
    obtain ⟨d0, d1⟩ := rw_cells hdue
    obtain ⟨oa, oc, rfl⟩ := own_slice I.out.told
    have HS : Hid (firstB L' = false ∨ to < (firstT L').1 → ∃ D own', advI w wr x D own to (.slice oa o.length oc) L (adv to L).1 (adv to L).2 own') := by
      intro hc
      have he := adv_end hc
      have hs := I.out.spec
      rw [he] at hs
      simp only [List.append_nil] at hs
      exact ⟨D, own', by rw [← hs.1, ← hs.2]; exact I.out⟩
    cases hB : firstB L' with
    | false =>
      have HS2 := HS.out (.inl hB)
      clear HS I hdue
      go_wp2
      go_ret2
      exact ⟨_, rfl, HS2⟩
    | true =>
      by_cases hto : (firstT L').1 ≤ to
      · have ho : onceT L' := by obtain ⟨_, _, _, _, _, _, h, _⟩ := I.out.pw; exact h
        have hlen := filter_len ho (first_in hB)
        have hlen2 := I.out.len
        have HDR : Hid (∀ W, Below wr.heap.size wr W → Calls Tryz.prog 115 #[.pointer (some ⟨x, 0, none⟩), .int .i64 (firstT L').2, .int .i64 (firstT L').1] W fun e w' => e = .returned (.tuple #[]) ∧ pwAns pwW wr w' x own' to (L'.filter (fun p => p.2 != (firstT L').2))) :=
          fun W hb => (drop_any _ _ (pw_below I.out.pw hb) (first_in hB) (by omega)).mono (by rintro e w' ⟨rfl, A⟩; exact ⟨rfl, pwAns_lift A hb⟩)
        have HTU : Hid (∀ w2 w3 w4 out' O, pwAns pwW wr w2 x own' to (L'.filter (fun p => p.2 != (firstT L').2)) → w3.ownsRow w.heap.size 131 2 out' (o.length + 1) (flatT o ++ [.int .i64 (firstT L').1, .int .i64 (firstT L').2]) → (w2.alloc O).grownBy w3 (Value.ownBlock (.slice oa o.length oc)) → (out'.ownBlock = Value.ownBlock (.slice oa o.length oc) ∨ out'.ownBlock = some (w2.alloc O).heap.size) → Below w3.heap.size w3 w4 →
            ∃ o2 own'', o2.length = o.length + 1 ∧ advI w ((w4.setCell ⟨D, 0, none⟩ (.int .i64 (firstT (L'.filter (fun p => p.2 != (firstT L').2))).1)).setCell ⟨D, 1, none⟩ (.int .i64 (firstT (L'.filter (fun p => p.2 != (firstT L').2))).2)) x D own to out' L o2 (L'.filter (fun p => p.2 != (firstT L').2)) own'') :=
          fun w2 w3 w4 out' O a b c d e => by
            obtain ⟨own'', hI⟩ := adv_turn I.out hB hto a b c d e
            exact ⟨_, own'', by simp, hI⟩
        have HMI : Hid (∀ w2 w3 O, pwAns pwW wr w2 x own' to (L'.filter (fun p => p.2 != (firstT L').2)) → (w2.alloc O).grownBy w3 (Value.ownBlock (.slice oa o.length oc)) → (∃ own2, pwW w3 x own2 to (L'.filter (fun p => p.2 != (firstT L').2))) ∧ w3.heap[D]? = some (.cells #[.int .i64 (firstT L').1, .int .i64 (firstT L').2] 131 (0, 0))) := fun w2 w3 O a b => adv_mid I.out a b
        have HDP : Hid (∀ w2, pwAns pwW wr w2 x own' to (L'.filter (fun p => p.2 != (firstT L').2)) → w2.ownsRow w.heap.size 131 2 (.slice oa o.length oc) o.length (flatT o) ∧ w2.heap[D]? = some (.cells #[.int .i64 (firstT L').1, .int .i64 (firstT L').2] 131 (0, 0)) ∧ wr.heap.size ≤ w2.heap.size) := fun w2 a => adv_dropped I.out a
        have hwr := I.out.same.size
        have hnd := I.out.D
        generalize hL2 : L'.filter (fun p => p.2 != (firstT L').2) = L2 at HDR HTU HMI HDP hlen
        generalize firstT L' = P at d0 d1 HDR HTU HMI HDP hto hL2
        obtain ⟨p0, p1⟩ := P
        simp only at d0 d1 HDR HTU HMI HDP hto
        clear HS I hdue ho hL2 I0
        go_wp2_with (first | (go_at_call 115; refine (HDR.out _ (by repeat (first | exact Below.refl _ _ | assumption | refine Below.drew ?_ | refine below_drawn ?_ _ | refine Below.alloc ?_ (by first | exact Nat.le_refl _ | (simp <;> omega)) _))).mono ?_; rintro e w2 ⟨rfl, A⟩
                              obtain ⟨HO, hd2, hz2w⟩ := HDP.out _ A
                              obtain ⟨g0, g1⟩ := rw_cells hd2
                              have hD2 : D < w2.heap.size := (Array.getElem?_eq_some_iff.1 hd2).1)
                           | (at_builtin; refine wpList_append_own_at _ rfl _ _ 129 rfl w.heap.size 131 i0 (.agg #[.int .i64 0, .int .i64 0]) 2 16 Tryz.underlying129 hi hz0 hz1 hz2 rfl (by decide) _ _ _ rfl (HO.alloc _) ⟨w2.heap.size, 0, none⟩ 1 1 [.int .i64 p0, .int .i64 p1] rfl rfl ?c1 ?c2 ?c3 ?c4 ?c5 ?_))
        case c1 => exact two_new
        case c2 => intro u hu; simp at hu; rcases hu with rfl | rfl <;> rfl
        case c3 => unfold maxLen; omega
        case c4 => omega
        case c5 => simp; omega
        intro out' w3 hown3 hgrow _ hat
        obtain ⟨⟨own2, hp3⟩, hd3⟩ := HMI.out _ _ _ A hgrow
        have HF : Hid (Calls Tryz.prog 79 #[.pointer (some ⟨x, 0, none⟩)] w3 fun e w' => e = .returned (.tuple #[.agg #[.int .i64 (firstT L2).1, .int .i64 (firstT L2).2], .bool (firstB L2)]) ∧ Below w3.heap.size w3 w') := wfirst_any hp3
        have HT2 : Hid (∀ w4, Below w3.heap.size w3 w4 → ∃ o2 own'', o2.length = o.length + 1 ∧ advI w ((w4.setCell ⟨D, 0, none⟩ (.int .i64 (firstT L2).1)).setCell ⟨D, 1, none⟩ (.int .i64 (firstT L2).2)) x D own to out' L o2 L2 own'') := fun w4 b4 => HTU.out _ _ _ _ _ A hown3 hgrow (by simpa using hat) b4
        obtain ⟨oa', oc', rfl⟩ := own_slice hown3
        have hD3 : D < w3.heap.size := (Array.getElem?_eq_some_iff.1 hd3).1
        have HD3 : Hid (w3.heap[D]? = some (.cells #[.int .i64 p0, .int .i64 p1] 131 (0, 0))) := hd3
        clear hown3 hgrow hat hp3 hd3 HMI HTU HDP A HO hd2 g0 g1 d0 d1 HDR
        generalize hB2 : firstB L2 = B2 at HF
        generalize hP2 : firstT L2 = P2 at HF HT2
        obtain ⟨q0, q1⟩ := P2
        simp only at HF HT2
        go_wp2_with (go_at_call 79; refine HF.out.mono ?_; rintro e w4 ⟨rfl, b4⟩
                     have HT3 := HT2.out _ b4
                     have hd4 := (b4.block D hD3).trans HD3.out
                     obtain ⟨g0, g1⟩ := rw_cells hd4
                     have gf0 := row_free hd4 0
                     have gf1 := row_free hd4 1
                     clear hd4)
        obtain ⟨o2, own'', hl2, hI⟩ := HT3
        exact ⟨⟨o2, L2, own'', hI, by rw [hB2]⟩, by simp [lenOf]; omega⟩
      · have HS2 := HS.out (.inr (by omega))
        have hto' : decide ((firstT L').1 ≤ to) = false := by simpa using hto
        clear HS I hdue
        go_wp2
        go_ret2
        exact ⟨_, rfl, HS2⟩

theorem advance_any {w : World} {x : Nat} {own : Nat → Prop} {now : Int} {L : List (Int × Int)} (to : Int) (h : pwW w x own now L) (hl : L.length * 16 + 16 ≤ 140737488351232) :
    Calls Tryz.prog 119 #[.pointer (some ⟨x, 0, none⟩), .int .i64 to] w fun e w' => ∃ out own', e = .returned (.tuple #[out, .int .i64 (advE now to)]) ∧ w'.ownsRow w.heap.size 131 2 out (advO now to L).length (flatT (advO now to L)) ∧
      (advE now to ≠ 0 → out = .slice none 0 0) ∧ pwW w' x own' (advT now to) (advL now to L) ∧ Same own w w' ∧ (∀ k, own' k → own k ∨ w.heap.size ≤ k) ∧ (∀ k, out.ownBlock = some k → ¬ own' k) := by
  by_cases ht : to < now
  · have hpw := h
    obtain ⟨ti, tt, h1, _⟩ := h
    refine (advance_arg x now to w (five_cell h1) ht).mono ?_
    rintro e w' ⟨rfl, rfl⟩
    simp only [advE, advO, advT, advL, if_pos ht]
    exact ⟨_, own, rfl, World.ownsRow_nil _ _ _ _, fun _ => rfl, hpw, ⟨rfl, rfl, rfl, Nat.le_refl _, fun _ _ _ => rfl⟩, fun _ hk => .inl hk, fun k hk => by simp [Value.ownBlock] at hk⟩
  · refine (advance_walk x now to w own L h ht hl).mono ?_
    rintro e w' ⟨out, rfl, D, own', I⟩
    simp only [advE, advO, advT, advL, if_neg ht]
    exact ⟨out, own', rfl, I.told, fun hc => absurd rfl hc, I.pw, I.same, I.fresh, fun k hk => (I.no k hk).1⟩

/-- All that must be shown of the program's timers. -/
theorem timersW : TimersAll pwW where
  lt := pwW_lt
  keep := pwW_keep
  advance := advance_any
  new := new_any
  set := set_any
  unset := unset_any
  first := fun h _ => (wfirst_any h).mono (by rintro e w' ⟨rfl, hb⟩; exact ⟨rfl, pwW_same h hb⟩)
  size := fun h _ => wsize_any h

end Go.Proofs.YtfhncfghblkgeaaGreat
